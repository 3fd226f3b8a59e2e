/- Part of a proof. -/
import Derived.Test.YtaijfhadecennabGreatZb
import Derived.Deep.RegionHeld3
open Go.Proofs.Tryz
set_option maxHeartbeats 1000000
namespace Go.Proofs.YtaijfhadecennabGreat.Oct
open Go.RowKit
theorem uC {P:Program} {ops:Array Oper} {o:Oper} {a:Act} {w:World} {K:Act->World->Prop} {Q:Exit->Act->World->Prop} {E:Prop} (hgd:o.guard=none) (d s:Operand) (dT sT:TypeId)
  (ho:o.op=.call {callee:=.builtin .copy,args:= #[d,s],argTypes:= #[dT,sT]}) (elem:TypeId) (hu:P.underlying dT=some (.slice elem)) (hsz:(P.info? elem).map (·.size)=some 1)
  (dp sp:Option Addr) (dLen dCap sLen sCap:Nat) (hd:a.eval d=.slice dp dLen dCap) (hs:a.eval s=.slice sp sLen sCap)
  (g off:Nat) (cur:List Value) (t:TypeId) (hg:w.heap[g]?=some (.cells cur.toArray t (0,0))) (cs:List Value) (hn:cs.length=Nat.min sLen dLen)
  (hpos:0<cs.length->dp=some ⟨g,off,none⟩/\∃ad,sp=some ad/\∀j v,cs[j]?=some v->w.cell? (ad.add j)=some v)
  (hfit:off+cs.length<=cur.length) (h1:∀v∈cs,v.oneCell'=true) (B:Nat) (w0:World) (hb:Below B w0 w) (hBg:B<=g)
  (h:∀w',Hid (w'.heap[g]?=some (.cells (splice cur off cs).toArray t (0,0)))->(∀j,j≠g->w'.heap[j]?=w.heap[j]?)->Below B w0 w'->K (a.put o.dst (goInt cs.length)) w'):
  if Region.wanted o (yielded ops a.tmps)=true then Oper.wp P o a w K Q else E:=by
 have hw:Region.wanted o (yielded ops a.tmps)=true:=by simp [Region.wanted,hgd]
 rw [if_pos hw];by_cases h0:cs.length=0
 ·obtain rfl:cs=[]:=qF h0;have hrun:=run_copy_none (P:=P) w dT sT o.type elem dp sp dLen dCap sLen sCap hu hsz (by simpa using hn.symm);unfold Oper.wp;simp [execOp,ho,resolve,invoke,builtin,hd,hs,hrun,Result.andThen];exact h w (show _=_ by simpa [splice] using hg) (fun _ _=>rfl) hb
 ·obtain ⟨rfl,ad,rfl,hsrc⟩:=hpos (by omega);have hrun:=run_copy_row (P:=P) w dT sT o.type elem g off dLen dCap ad sLen sCap cur.toArray t cs hu hsz hg hn hsrc (by simpa using hfit) h1;unfold Oper.wp;simp [execOp,ho,resolve,invoke,builtin,hd,hs,hrun,Result.andThen];exact h _ (show _=_ by simpa [splice] using setRow_heap w g _ _ t _ hg) (fun j hj=>setRow_other w g j _ hj) (below_setRow hb hBg _)
theorem Sh.below {base g:Nat} {w w1:World} {zs:List Int} (h:Sh base g w zs) (k:Below w.heap.size w w1):Sh base g w1 zs:=by
 obtain ⟨a,cap,k1,k2,k3,k4⟩:=h;have hg:=block_lt_of_cell k1;refine ⟨a,cap,(k.cell (p:=⟨g,0,none⟩) hg).trans k1,(k.frozen (p:=⟨g,0,none⟩) hg).trans k2,?_,k4⟩;obtain ⟨h1,h2|⟨g',cap',cur,e,hg',hc,r⟩⟩:=k3
 ·exact ⟨h1,.inl h2⟩
 ·refine ⟨h1,.inr ⟨g',cap',cur,e,hg',(k.block g' ?_).trans hc,r⟩⟩;by_cases hlt:g'<w.heap.size
  ·exact hlt
  ·rw [Array.getElem?_eq_none (by omega)] at hc;cases hc
theorem LayEnd.pre {C g:Nat} {w w1:World} {err:Int} {zs:List Int} {e:Ending} {w':World} (h:LayEnd C g w1 err zs e w') (k:Below C w w1):LayEnd C g w err zs e w':=by
 obtain ⟨h1,u,h2,h3,h4⟩:=h;exact ⟨h1,u,k.trans h2,h3,h4⟩
abbrev pgV (p:Pg) (ba:Option Addr) (bc:Nat):Value:=.agg #[.int .i64 p.kind,.int .i64 p.level,.int .i64 p.count,.slice ba p.body.length bc]
theorem GF (C base g:Nat) (zs:List Int) (p:Pg) (ba:Option Addr) (bc:Nat) (w:World) (hs:Sh base g w zs) (hb:Bys zs) (hl:zs.length=256) (hx:p.kind<=9223372036854775807) (hC:C<=w.heap.size):
  Calls prog 227 #[.pointer (some ⟨g,0,none⟩),pgV p ba bc] w (LayEnd C g w (if okK p.kind&&putB zs 4 1 p.kind then 0 else 1) (putR zs 4 1 p.kind)):=by
 obtain ⟨kd,lv,ct,bd⟩:=p;dsimp only [pgV] at*;have hb0:Below w.heap.size w (w.alloc (.cells #[.int .i64 kd,.int .i64 lv,.int .i64 ct,.slice ba bd.length bc] 115)):=(Below.refl _ _).alloc (jB _) _;have c:=JR C base g zs 4 1 kd _ (hs.below hb0) hb hl hx (jR hC hb0.size);have HB:Hid (Below C w (w.alloc (.cells #[.int .i64 kd,.int .i64 lv,.int .i64 ct,.slice ba bd.length bc] 115))):=hb0.mono hC;clear hb0 hs hb hl hx hC;cases hk:okK kd
 ·have e:(if (false&&putB zs 4 1 kd)=true then (0:Int) else 1)=1:=rfl;rw [e];clear c e;go_enter func227,ntmps227
  go_wp2_with (go_at_call 162;refine (YG _ _).mono ?_;rintro e w' ⟨rfl,rfl⟩;rw [hk])
  go_ret
  exact ⟨rfl,_,HB.out,.inl rfl,fun h=>by simp at h⟩
 ·rw [yE];obtain ⟨E,hE⟩:∃E,(if putB zs 4 1 kd=true then (0:Int) else 1)=E:=⟨_,rfl⟩;obtain ⟨Z,hZ⟩:∃Z,putR zs 4 1 kd=Z:=⟨_,rfl⟩;rw [hE,hZ] at c;rw [hE,hZ];clear hE hZ;go_enter func227,ntmps227
  go_wp2_with (go_at_call 162;refine (YG _ _).mono ?_;rintro e w' ⟨rfl,rfl⟩;rw [hk])
  refine c.mono ?_;clear c;rintro e w1 h;obtain ⟨rfl,_⟩:=id h;have HH:Hid (LayEnd C g w E Z (.returned (.int .i64 E)) w1):=h.pre HB.out;clear h HB;go_wp2;go_ret
  exact HH.out
theorem fY (C base g:Nat) (zs:List Int) (p:Pg) (ba:Option Addr) (bc:Nat) (w:World) (hs:Sh base g w zs) (hb:Bys zs) (hl:zs.length=256) (hx:p.level<=9223372036854775807) (hC:C<=w.heap.size):
  Calls prog 228 #[.pointer (some ⟨g,0,none⟩),pgV p ba bc] w (LayEnd C g w (if putB zs 5 1 p.level then 0 else 1) (putR zs 5 1 p.level)):=by
 obtain ⟨kd,lv,ct,bd⟩:=p;dsimp only [pgV] at*;have hb0:Below w.heap.size w (w.alloc (.cells #[.int .i64 kd,.int .i64 lv,.int .i64 ct,.slice ba bd.length bc] 115)):=(Below.refl _ _).alloc (jB _) _;have c:=JR C base g zs 5 1 lv _ (hs.below hb0) hb hl hx (jR hC hb0.size);have HB:Hid (Below C w (w.alloc (.cells #[.int .i64 kd,.int .i64 lv,.int .i64 ct,.slice ba bd.length bc] 115))):=hb0.mono hC;clear hb0 hs hb hl hx hC;obtain ⟨E,hE⟩:∃E,(if putB zs 5 1 lv=true then (0:Int) else 1)=E:=⟨_,rfl⟩;obtain ⟨Z,hZ⟩:∃Z,putR zs 5 1 lv=Z:=⟨_,rfl⟩;rw [hE,hZ] at c;rw [hE,hZ];clear hE hZ;go_enter func228,ntmps228
 go_wp2_with fail
 refine c.mono ?_;clear c;rintro e w1 h;obtain ⟨rfl,_⟩:=id h;have HH:Hid (LayEnd C g w E Z (.returned (.int .i64 E)) w1):=h.pre HB.out;clear h HB;go_wp2;go_ret
 exact HH.out
theorem fZ (C base g:Nat) (zs:List Int) (p:Pg) (ba:Option Addr) (bc:Nat) (w:World) (hs:Sh base g w zs) (hb:Bys zs) (hl:zs.length=256) (hx:p.count<=9223372036854775807) (hC:C<=w.heap.size):
  Calls prog 229 #[.pointer (some ⟨g,0,none⟩),pgV p ba bc] w (LayEnd C g w (if putB zs 6 2 p.count then 0 else 1) (putR zs 6 2 p.count)):=by
 obtain ⟨kd,lv,ct,bd⟩:=p;dsimp only [pgV] at*;have hb0:Below w.heap.size w (w.alloc (.cells #[.int .i64 kd,.int .i64 lv,.int .i64 ct,.slice ba bd.length bc] 115)):=(Below.refl _ _).alloc (jB _) _;have c:=JR C base g zs 6 2 ct _ (hs.below hb0) hb hl hx (jR hC hb0.size);have HB:Hid (Below C w (w.alloc (.cells #[.int .i64 kd,.int .i64 lv,.int .i64 ct,.slice ba bd.length bc] 115))):=hb0.mono hC;clear hb0 hs hb hl hx hC;obtain ⟨E,hE⟩:∃E,(if putB zs 6 2 ct=true then (0:Int) else 1)=E:=⟨_,rfl⟩;obtain ⟨Z,hZ⟩:∃Z,putR zs 6 2 ct=Z:=⟨_,rfl⟩;rw [hE,hZ] at c;rw [hE,hZ];clear hE hZ;go_enter func229,ntmps229
 go_wp2_with fail
 refine c.mono ?_;clear c;rintro e w1 h;obtain ⟨rfl,_⟩:=id h;have HH:Hid (LayEnd C g w E Z (.returned (.int .i64 E)) w1):=h.pre HB.out;clear h HB;go_wp2;go_ret
 exact HH.out
theorem laySum_any (C base g:Nat) (zs:List Int) (p:Pg) (ba:Option Addr) (bc:Nat) (w:World) (hs:Sh base g w zs) (hb:Bys zs) (hl:zs.length=256) (hC:C<=w.heap.size):
  Calls prog 231 #[.pointer (some ⟨g,0,none⟩),pgV p ba bc] w (LayEnd C g w (if putB zs 0 4 (crc (zs.drop 4)) then 0 else 1) (putR zs 0 4 (crc (zs.drop 4)))):=by
 obtain ⟨kd,lv,ct,bd⟩:=p;dsimp only [pgV] at*;have hx:=FJ (zs:=zs.drop 4) (fun z hz=>hb z (jY hz));obtain ⟨W,hW⟩:∃W,W=w.alloc (.cells #[.int .i64 kd,.int .i64 lv,.int .i64 ct,.slice ba bd.length bc] 115):=⟨_,rfl⟩;have hb0:Below w.heap.size w W:=by rw [hW];exact (Below.refl _ _).alloc (jB _) _
 have hs1:=hs.below hb0;have c:=JR C base g zs 0 4 (crc (zs.drop 4)) W hs1 hb hl (by omega) (jR hC hb0.size);obtain ⟨a,cap,k1,k2,k3,k4⟩:=hs1;obtain ⟨_,hr⟩:=k3.row' hb;obtain ⟨b,off,rfl⟩:=hr.some' (by omega);have c2:=sum_any _ _ _ _ _ hr hl;have HB:Hid (Below C w W):=hb0.mono hC;clear hb0 hs hC hr k3 k4;obtain ⟨E,hE⟩:∃E,(if putB zs 0 4 (crc (zs.drop 4))=true then (0:Int) else 1)=E:=⟨_,rfl⟩;obtain ⟨Z,hZ⟩:∃Z,putR zs 0 4 (crc (zs.drop 4))=Z:=⟨_,rfl⟩;rw [hE,hZ] at c;rw [hE,hZ];clear hE hZ;obtain ⟨x,hxx⟩:∃x,crc (zs.drop 4)=x:=⟨_,rfl⟩;rw [hxx] at c c2 hx;rw [hl] at k1 c2;clear hl hb hxx;subst hW;go_enter func231,ntmps231
 go_wp2_with fail
 refine c2.mono ?_;clear c2;rintro e w1 ⟨rfl,rfl⟩;go_wp2_with fail
 refine c.mono ?_;clear c;rintro e w1 h;obtain ⟨rfl,_⟩:=id h;have HH:Hid (LayEnd C g w E Z (.returned (.int .i64 E)) w1):=h.pre HB.out;clear h HB;go_wp2;go_ret
 exact HH.out
def spl (zs bd:List Int):List Int:=zs.take 8++(bd++zs.drop (8+bd.length))
theorem XY {zs bd:List Int} (hl:zs.length=256) (hd:bd.length<=248):(spl zs bd).length=256:=by
 simp [spl];omega
theorem spl_bys {zs bd:List Int} (hz:Bys zs) (hd:Bys bd):Bys (spl zs bd):=
 Bys.app (fun z h=>hz z (jT h)) (Bys.app hd (fun z h=>hz z (jY h)))
theorem own_splice {base g cap:Nat} {w1:World} {cur:List Value} {zs bd:List Int} (hl:zs.length=256) (hd:bd.length<=248) (hg:base<=g) (hcap:256<=cap) (hm:cap<=maxLen) (hsz:cur.length=cap) (ht:cur.take 256=zs.map (Value.int .u8))
  (h:w1.heap[g]?=some (.cells (splice cur 8 (bd.map (Value.int .u8))).toArray 5 (0,0))):Own base w1 (.slice (some ⟨g,0,none⟩) 256 cap) (spl zs bd):=by
 refine ⟨by simp [XY hl hd],.inr ⟨g,cap,_,by rw [XY hl hd],hg,h,by rw [XY hl hd];omega,hm,?_,?_⟩⟩
 ·simp [splice];omega
 ·have e:(spl zs bd).map (Value.int .u8)=(cur.take 256).take 8++(bd.map (Value.int .u8)++(cur.take 256).drop (8+bd.length)):=by
   rw [ht];simp [spl]
  rw [e,XY hl hd];have hA:(cur.take 8).length=8:=by simp;omega
  have hB:(bd.map (Value.int .u8)).length=bd.length:=by simp
  have e2:splice cur 8 (bd.map (Value.int .u8))=cur.take 8++(bd.map (Value.int .u8)++cur.drop (8+bd.length)):=by simp [splice]
  rw [List.toList_toArray,e2,Nat.mul_one,List.take_append,hA,List.take_append,hB,qP (show (cur.take 8).length<=256 by omega),qP (show (bd.map (Value.int .u8)).length<=256-8 by omega),List.take_take,List.drop_take]
  congr 3
  omega
theorem GG (C g:Nat) (zs:List Int) (p:Pg) (ba:Option Addr) (bc:Nat) (w:World) (hs:Sh C g w zs) (hl:zs.length=256) (hr:Row w ba bc p.body) (hC:C<=w.heap.size):
  Calls prog 230 #[.pointer (some ⟨g,0,none⟩),pgV p ba bc] w (LayEnd C g w (if p.body.length<=248 then 0 else 3) (spl zs p.body)):=by
 obtain ⟨kd,lv,ct,bd⟩:=p;dsimp only [pgV] at*;obtain ⟨W,hW⟩:∃W,W=w.alloc (.cells #[.int .i64 kd,.int .i64 lv,.int .i64 ct,.slice ba bd.length bc] 115):=⟨_,rfl⟩;have hb0:Below w.heap.size w W:=by rw [hW];exact (Below.refl _ _).alloc (jB _) _
 have HB:Hid (Below C w W):=hb0.mono hC;have hm:=jR hr.2.1 hr.2.2.1;unfold maxLen at hm;by_cases hd:bd.length<=248
 ·rw [if_pos hd]
  have hk3:∀{a cap},w.cell? ⟨g,0,none⟩=some (.slice a zs.length cap)->Own C w (.slice a zs.length cap) zs:=by
   obtain ⟨a,cap,k1,_,k3,_⟩:=hs;intro a' cap' h;rw [k1] at h;simp only [jP] at h;rw [<-h];exact k3
  have hgl:g<w.heap.size:=by obtain ⟨_,_,k1,_⟩:=hs;exact block_lt_of_cell k1
  obtain ⟨a,cap,k1,k2,k3,k4⟩:=hs.below hb0;have hk3':=hk3 ((hb0.cell (p:=⟨g,0,none⟩) hgl).symm.trans k1);clear hk3;have hr1:=hr.below hb0;rw [hl] at k1 k3 k4;obtain ⟨_,⟨e,_⟩|⟨gb,cap',cur,e,hg',hc,hn',hm',hsz,ht⟩⟩:=k3
  ·cases e
  ·simp only [Value.slice.injEq] at e;obtain ⟨rfl,hL2,rfl⟩:=e;clear hL2
   have hnb:w.heap.size≠gb:=fun e=>by
    have:=(World.ownsRow.lt hk3' gb rfl).2;omega
   clear hk3';obtain ⟨cur',hcur⟩:∃cur':List Value,cur=cur'.toArray:=⟨cur.toList,by simp⟩;subst hcur;have HSZ:Hid (cur'.length=cap):=show _=_ by simpa using hsz
   have HT:Hid (cur'.take 256=zs.map (Value.int .u8)):=show _=_ by simpa [hl] using ht
   have HHC:Hid (W.heap[gb]?=some (.cells cur'.toArray 5 (0,0))):=hc;have HN:Hid (256<=cap):=show 256<=cap by omega
   have hn2:256<=cap:=by omega
   have hc8:¬cap=8:=by omega
   have HM:Hid (cap<=maxLen):=hm';unfold maxLen at hm';have HR:Hid (Row W ba bc bd):=hr1;have HG:Hid (C<=gb):=hg';have HK4:Hid (gb≠g):=show gb≠g from fun e=>k4 (by rw [e];rfl)
   have HL:Hid (zs.length=256):=hl
   have HS1:Hid ((prog.info? 5).map (·.size)=some 1):=by
    obtain ⟨i0,hi0,hz0,hz1,hz2⟩:=info_parts info5;show _=_;rw [hi0];simp [hz1]
   have HNB:Hid (w.heap.size≠gb):=show w.heap.size≠gb from hnb
   have HK1:Hid (W.cell? ⟨g,0,none⟩=some (.slice (some ⟨gb,0,none⟩) 256 cap)):=k1;have HK2:Hid (W.frozen? ⟨g,0,none⟩=false):=k2;have hdi:¬(248:Int)<bd.length:=by omega
   clear hs hl hr hb0 hr1 hsz ht hc hn' hg' k4;subst hW;go_enter func230,ntmps230
   go_wp2
   have HP:Hid (0<(bd.map (Value.int .u8)).length->(some ⟨gb,8,none⟩:Option Addr)=some ⟨gb,8,none⟩/\∃ad,ba=some ad/\∀j v,(bd.map (Value.int .u8))[j]?=some v->(w.alloc (.cells #[.int .i64 kd,.int .i64 lv,.int .i64 ct,.slice ba bd.length bc] 115)).drew.cell? (ad.add j)=some v):=by
    intro hp;obtain ⟨b,off,hba⟩:=HR.out.some' (by simpa using hp);subst hba;exact ⟨rfl,⟨b,off,none⟩,rfl,QP (HR.out.below (Below.refl _ _).drew)⟩
   have HNN:Hid ((bd.map (Value.int .u8)).length=Nat.min bd.length 248):=by
    show _=_;rw [qQ];exact (yA hd).symm
   have HQ1:Hid ((w.alloc (.cells #[.int .i64 kd,.int .i64 lv,.int .i64 ct,.slice ba bd.length bc] 115)).drew.cell? ⟨g,0,none⟩=some (.slice (some ⟨gb,0,none⟩) 256 cap)):=HK1.out;have HQ3:Hid ((w.alloc (.cells #[.int .i64 kd,.int .i64 lv,.int .i64 ct,.slice ba bd.length bc] 115)).drew.frozen? ⟨g,0,none⟩=false):=HK2.out;have HQ2:Hid ((w.alloc (.cells #[.int .i64 kd,.int .i64 lv,.int .i64 ct,.slice ba bd.length bc] 115)).drew.cell? ⟨w.heap.size,3,none⟩=some (.slice ba bd.length bc)):=by show _=_;simp
   have HF:Hid (8+(bd.map (Value.int .u8)).length<=cur'.length):=by
    show _<=_;have:=HSZ.out;have:=HN.out;simp;omega
   go_region_held3 (fun w'=>w'.cell? ⟨g,0,none⟩=some (.slice (some ⟨gb,0,none⟩) 256 cap)/\w'.cell? ⟨w.heap.size,3,none⟩=some (.slice ba bd.length bc)) (first|exact ⟨HK1.out,by simp⟩|exact ⟨q1,q2⟩|go_keep)
    ((refine uC (by rfl) (.tmp 13) (.tmp 15) 22 22 (by rfl) 5 underlying22 HS1.out (some ⟨gb,8,none⟩) ba 248 (cap-8) bd.length bc (by rfl) (by rfl) gb 8 cur' 5 HHC.out (bd.map (Value.int .u8)) HNN.out HP.out HF.out (zW bd) C w HB.out.drew HG.out ?_;intro w1 hcells hoth hbel;have q1:w1.cell? ⟨g,0,none⟩=some (.slice (some ⟨gb,0,none⟩) 256 cap):=(World.cell?_of_block (hoth g HK4.out.symm)).trans HQ1.out;have q2:w1.cell? ⟨w.heap.size,3,none⟩=some (.slice ba bd.length bc):=(World.cell?_of_block (hoth w.heap.size HNB.out)).trans HQ2.out;have q3:w1.frozen? ⟨g,0,none⟩=false:=(World.frozen?_of_block (hoth g HK4.out.symm)).trans HQ3.out))
   have hsh:Sh C g w1 (spl zs bd):=by
    have hsl:=XY HL.out hd;refine ⟨some ⟨gb,0,none⟩,cap,by rw [hsl];exact q1,q3,?_,?_⟩
    ·rw [hsl];exact own_splice HL.out hd HG.out HN.out HM.out HSZ.out HT.out hcells.out
    ·rw [hsl];intro e;simp [Value.ownBlock] at e;exact HK4.out e
   have HSH:Hid _:=hsh;clear hsh hcells;go_wp2;go_ret
   exact ⟨rfl,_,hbel,.inl rfl,fun _=>HSH.out⟩
 ·rw [if_neg hd];have hdb:(248:Int)<bd.length:=by omega
  clear hs hl hr hb0 hd;subst hW;go_enter func230,ntmps230
  go_wp2;go_ret
  exact ⟨rfl,_,HB.out,.inl rfl,fun h=>by simp at h⟩
def st0:List Int:=List.replicate 256 0
def st1 (p:Pg):List Int:=putR st0 4 1 p.kind
def st2 (p:Pg):List Int:=putR (st1 p) 5 1 p.level
def st3 (p:Pg):List Int:=putR (st2 p) 6 2 p.count
def st4 (p:Pg):List Int:=spl (st3 p) p.body
def st5 (p:Pg):List Int:=putR (st4 p) 0 4 (crc ((st4 p).drop 4))
def st (p:Pg) (k:Nat):List Int:=match k with
 |0=>st0
 |1=>st1 p
 |2=>st2 p
 |3=>st3 p
 |4=>st4 p
 |_=>st5 p
def er (p:Pg) (k:Nat):Int:=match k with
 |0=>if okK p.kind&&putB st0 4 1 p.kind then 0 else 1
 |1=>if putB (st1 p) 5 1 p.level then 0 else 1
 |2=>if putB (st2 p) 6 2 p.count then 0 else 1
 |3=>if p.body.length<=248 then 0 else 3
 |_=>if putB (st4 p) 0 4 (crc ((st4 p).drop 4)) then 0 else 1
theorem er0 (p:Pg):er p 0=if okK p.kind&&putB st0 4 1 p.kind then 0 else 1:=by unfold er;rfl
theorem er1 (p:Pg):er p 1=if putB (st1 p) 5 1 p.level then 0 else 1:=by unfold er;rfl
theorem er2 (p:Pg):er p 2=if putB (st2 p) 6 2 p.count then 0 else 1:=by unfold er;rfl
theorem er3 (p:Pg):er p 3=if p.body.length<=248 then 0 else 3:=by unfold er;rfl
theorem er4 (p:Pg):er p 4=if putB (st4 p) 0 4 (crc ((st4 p).drop 4)) then 0 else 1:=by unfold er;rfl
theorem bys0:Bys st0:=fun z h=>by
 have:=List.eq_of_mem_replicate h;omega
theorem vK {zs:List Int} {p n x:Int} (h:putB zs p n x=true):(putR zs p n x).length=zs.length:=by
 unfold putR;rw [if_pos h,ZJ]
theorem st_ok {p:Pg} (hb:Bys p.body) {k:Nat} (hk:k<=5) (h:∀j,j<k->er p j=0):Bys (st p k)/\(st p k).length=256:=by
 have l0:st0.length=256:=jJ;have b1:Bys (st1 p):=XM bys0 _ _ _;have b2:Bys (st2 p):=XM b1 _ _ _;have b3:Bys (st3 p):=XM b2 _ _ _;have b4:Bys (st4 p):=spl_bys b3 hb;have b5:Bys (st5 p):=XM b4 _ _ _
 have l1:1<=k->(st1 p).length=256:=fun h1=>by
  have e:=h 0 (by omega)
  have:(okK p.kind&&putB st0 4 1 p.kind)=true:=by
   by_cases hh:(okK p.kind&&putB st0 4 1 p.kind)=true
   ·exact hh
   ·have e2:er p 0=1:=by rw [er0,if_neg hh]
    omega
  rw [jN] at this;exact (vK this.2).trans l0
 have l2:2<=k->(st2 p).length=256:=fun h1=>by
  have e:=h 1 (by omega)
  have:putB (st1 p) 5 1 p.level=true:=by
   by_cases hh:putB (st1 p) 5 1 p.level=true
   ·exact hh
   ·have e2:er p 1=1:=by rw [er1,if_neg hh]
    omega
  exact (vK this).trans (l1 (by omega))
 have l3:3<=k->(st3 p).length=256:=fun h1=>by
  have e:=h 2 (by omega)
  have:putB (st2 p) 6 2 p.count=true:=by
   by_cases hh:putB (st2 p) 6 2 p.count=true
   ·exact hh
   ·have e2:er p 2=1:=by rw [er2,if_neg hh]
    omega
  exact (vK this).trans (l2 (by omega))
 have l4:4<=k->(st4 p).length=256:=fun h1=>by
  have e:=h 3 (by omega)
  have:p.body.length<=248:=by
   by_cases hh:p.body.length<=248
   ·exact hh
   ·have e2:er p 3=3:=by rw [er3,if_neg hh]
    omega
  exact XY (l3 (by omega)) this
 have l5:5<=k->(st5 p).length=256:=fun h1=>by
  have e:=h 4 (by omega)
  have:putB (st4 p) 0 4 (crc ((st4 p).drop 4))=true:=by
   by_cases hh:putB (st4 p) 0 4 (crc ((st4 p).drop 4))=true
   ·exact hh
   ·have e2:er p 4=1:=by rw [er4,if_neg hh]
    omega
  exact (vK this).trans (l4 (by omega))
 have:k=0\/k=1\/k=2\/k=3\/k=4\/k=5:=by omega
 rcases this with rfl|rfl|rfl|rfl|rfl|rfl
 ·exact ⟨bys0,l0⟩
 ·exact ⟨b1,l1 (by omega)⟩
 ·exact ⟨b2,l2 (by omega)⟩
 ·exact ⟨b3,l3 (by omega)⟩
 ·exact ⟨b4,l4 (by omega)⟩
 ·exact ⟨b5,l5 (by omega)⟩
theorem parts_any (w:World):Calls prog 205 #[] w fun e w'=>e=.returned (.slice (some ⟨w.heap.size,0,none⟩) 5 5)/\w'=w.alloc (.cells #[.func (Fn.func 227) #[] #[],.func (Fn.func 228) #[] #[],.func (Fn.func 229) #[] #[],.func (Fn.func 230) #[] #[],.func (Fn.func 231) #[] #[]] 250):=by
 go_enter func205,ntmps205
 go_wp2;go_ret
 exact ⟨rfl,rfl⟩
def pf (k:Nat):Nat:=match k with
 |0=>227
 |1=>228
 |2=>229
 |3=>230
 |_=>231
structure Lay (w wr:World) (p:Pg) (ba:Option Addr) (bc g k:Nat):Prop where
 no:∀j,j<k->er p j=0
 sh:∃base,(1<=k->base=g+2)/\Sh base g wr (st p k)
 slot:Slot wr w.heap.size (.int .i64 p.kind) (.int .i64 p.level) (.int .i64 p.count) (.slice ba p.body.length bc)
 parts:∀i,i<5->wr.cell? ⟨g+1,i,none⟩=some (.func (Fn.func (pf i)) #[] #[])
 bel:Below w.heap.size w wr
 size:g+2<=wr.heap.size
 lt:w.heap.size<g
theorem LayEnd.same {C g:Nat} {w:World} {err:Int} {zs:List Int} {e:Ending} {w':World} (h:LayEnd C g w err zs e w') (j:Nat) (hj:j<C) (hg:j≠g):w'.heap[j]?=w.heap[j]?:=by
 obtain ⟨_,u,h2,h3|⟨v,h3⟩,_⟩:=h
 ·subst h3;exact h2.block j hj
 ·subst h3;rw [Below.heap_setCell _ _ _ _ (by exact hg)];exact h2.block j hj
theorem LayEnd.below {C g B:Nat} {w w0:World} {err:Int} {zs:List Int} {e:Ending} {w':World} (h:LayEnd C g w err zs e w') (hC:B<=C) (hg:B<=g) (k:Below B w0 w):Below B w0 w':=by
 obtain ⟨_,u,h2,h3|⟨v,h3⟩,_⟩:=h
 ·subst h3;exact k.trans (h2.mono hC)
 ·subst h3;exact (k.trans (h2.mono hC)).setCell (p:=⟨g,0,none⟩) hg _
theorem Slot.same {w w1:World} {B:Nat} {x0 x1 x2 x3:Value} (h:Slot w B x0 x1 x2 x3) (k:w1.heap[B]?=w.heap[B]?):Slot w1 B x0 x1 x2 x3:=by
 obtain ⟨⟨h0,h1,h2,h3⟩,f0,f1,f2,f3⟩:=h
 exact ⟨⟨(World.cell?_of_block k).trans h0,(World.cell?_of_block k).trans h1,(World.cell?_of_block k).trans h2,(World.cell?_of_block k).trans h3⟩,
  (World.frozen?_of_block k).trans f0,(World.frozen?_of_block k).trans f1,(World.frozen?_of_block k).trans f2,(World.frozen?_of_block k).trans f3⟩
theorem LayEnd.size {C g:Nat} {w:World} {err:Int} {zs:List Int} {e:Ending} {w':World} (h:LayEnd C g w err zs e w'):w.heap.size<=w'.heap.size:=by
 obtain ⟨_,u,h2,h3|⟨v,h3⟩,_⟩:=h
 ·subst h3;exact h2.size
 ·subst h3;simpa [World.setCell] using h2.size
theorem Lay.next {w wr w':World} {p:Pg} {ba:Option Addr} {bc g k:Nat} {e:Ending} (h:Lay w wr p ba bc g k) (he:LayEnd (g+2) g wr (er p k) (st p (k+1)) e w') (h0:er p k=0):Lay w w' p ba bc g (k+1) where
 no:=fun j hj=>by
  by_cases hjk:j=k
  ·rw [hjk];exact h0
  ·exact h.no j (by omega)
 sh:=⟨g+2,fun _=>rfl,by obtain ⟨_,u,_,_,h4⟩:=he;exact h4 h0⟩
 slot:=h.slot.same (he.same _ (by have:=h.lt;omega) (by have:=h.lt;omega))
 parts:=fun i hi=>(World.cell?_of_block (a:=⟨g+1,i,none⟩) (he.same (g+1) (by omega) (by omega))).trans (h.parts i hi)
 bel:=he.below (by have:=h.lt;omega) (by have:=h.lt;omega) h.bel
 size:=jR h.size he.size
 lt:=h.lt
theorem Lay.row {w wr:World} {p:Pg} {ba:Option Addr} {bc g k:Nat} (h:Lay w wr p ba bc g k) (hr:Row w ba bc p.body):Row wr ba bc p.body:=hr.below h.bel
theorem lay_all {w wr:World} {p:Pg} {ba:Option Addr} {bc g k:Nat} (h:Lay w wr p ba bc g k) (hk:k<5) (hr:Row w ba bc p.body) (h1:p.kind<=9223372036854775807) (h2:p.level<=9223372036854775807) (h3:p.count<=9223372036854775807):
  Calls prog (pf k) #[.pointer (some ⟨g,0,none⟩),pgV p ba bc] wr (LayEnd (g+2) g wr (er p k) (st p (k+1))):=by
 obtain ⟨hb,hl⟩:=st_ok hr.1 (Nat.le_of_lt hk) h.no;obtain ⟨base,hbase,hs⟩:=h.sh;have:k=0\/k=1\/k=2\/k=3\/k=4:=by omega
 rcases this with rfl|rfl|rfl|rfl|rfl
 ·rw [er0];exact GF (g+2) base g _ p ba bc wr hs hb hl h1 h.size
 ·rw [er1];exact fY (g+2) base g _ p ba bc wr hs hb hl h2 h.size
 ·rw [er2];exact fZ (g+2) base g _ p ba bc wr hs hb hl h3 h.size
 ·rw [er3];rw [hbase (by omega)] at hs;exact GG (g+2) g _ p ba bc wr hs hl (h.row hr) h.size
 ·rw [er4];exact laySum_any (g+2) base g _ p ba bc wr hs hb hl h.size
theorem seal_walk (p:Pg) (ba:Option Addr) (bc:Nat) (w:World) (hr:Row w ba bc p.body) (E:Int) (Z:List Int) (h1:p.kind<=9223372036854775807) (h2:p.level<=9223372036854775807) (h3:p.count<=9223372036854775807)
  (HA:Hid (∀k,k<5->(∀j,j<k->er p j=0)->er p k≠0->E=er p k/\Z=[])) (HZ:Hid ((∀j,j<5->er p j=0)->E=0/\Z=st p 5)):
  Calls prog 170 #[pgV p ba bc] w fun e w'=>∃v,e=.returned (.tuple #[v,.int .i64 E])/\Own w.heap.size w' v Z/\Below w.heap.size w w':=by
 have HL:∀{wr:World} {g k:Nat},Lay w wr p ba bc g k->k<5->Calls prog (pf k) #[.pointer (some ⟨g,0,none⟩),pgV p ba bc] wr (LayEnd (g+2) g wr (er p k) (st p (k+1))):=fun h hk=>lay_all h hk hr h1 h2 h3
 have HR:Hid (Row w ba bc p.body):=hr;have HLL:Hid (∀{wr:World} {g k:Nat},Lay w wr p ba bc g k->k<5->Calls prog (pf k) #[.pointer (some ⟨g,0,none⟩),pgV p ba bc] wr (LayEnd (g+2) g wr (er p k) (st p (k+1)))):= @HL;clear HL hr h1 h2 h3;obtain ⟨i0,hi0,hz0,hz1,hz2⟩:=info_parts info5;dsimp only [pgV] at*;go_enter func170,ntmps170
 go_wp2_with (first|(go_at_call 205;refine (parts_any _).mono ?_;rintro e w' ⟨rfl,rfl⟩)|(at_make;refine wpList_make_full _ rfl _ _ 22 rfl w.heap.size 5 i0 (.int .u8 0) 1 underlying22 hi0 hz0 hz1 .i64 .i64 _ _ 256 rfl rfl rfl rfl (by rw [hz2];omega) (by simp [maxLen]) (by simp) ?_;intro w1 hown1 hgrow1))
 have HLAY:Hid (Lay w ((w1.alloc (.cells #[.slice (some ⟨w.heap.size+1,0,none⟩) 256 256] 247)).alloc (.cells #[.func (Fn.func 227) #[] #[],.func (Fn.func 228) #[] #[],.func (Fn.func 229) #[] #[],.func (Fn.func 230) #[] #[],.func (Fn.func 231) #[] #[]] 250)) p ba bc w1.heap.size 0):=by
  have ho1:Own w.heap.size w1 (.slice (some ⟨w.heap.size+1,0,none⟩) 256 256) st0:=by
   have e:(w.alloc (.cells #[.int .i64 p.kind,.int .i64 p.level,.int .i64 p.count,.slice ba p.body.length bc] 115)).heap.size=w.heap.size+1:=by simp
   rw [e] at hown1;exact JG hown1
  have hb0:Below (w.heap.size+1) (w.alloc (.cells #[.int .i64 p.kind,.int .i64 p.level,.int .i64 p.count,.slice ba p.body.length bc] 115)) w1:=(Below.refl _ _).grown hgrow1 (by simp) (by simp);have hlt:=(World.ownsRow.lt ho1 (w.heap.size+1) rfl).2;have hb2:Below w1.heap.size w1 ((w1.alloc (.cells #[.slice (some ⟨w.heap.size+1,0,none⟩) 256 256] 247)).alloc (.cells #[.func (Fn.func 227) #[] #[],.func (Fn.func 228) #[] #[],.func (Fn.func 229) #[] #[],.func (Fn.func 230) #[] #[],.func (Fn.func 231) #[] #[]] 250)):=((Below.refl _ _).alloc (jB _) _).alloc (by simp) _;refine ⟨fun j hj=>by omega,⟨w.heap.size,fun h=>by omega,some ⟨w.heap.size+1,0,none⟩,256,?_,?_,?_,?_⟩,?_,?_,?_,?_,?_⟩
  ·show _=some (Value.slice _ st0.length _);rw [show st0.length=256 from jJ];simp
  ·simp
  ·show Own _ _ (Value.slice _ st0.length _) st0;rw [show st0.length=256 from jJ];exact World.ownsRow.alloc (World.ownsRow.alloc ho1 _) _
  ·intro e;simp [Value.ownBlock] at e;omega
  ·exact (((ZB w _ _ _ _ 115).below (hb0.mono (by simp))).below hb2)
  ·intro i hi;have:i=0\/i=1\/i=2\/i=3\/i=4:=by omega
   rcases this with rfl|rfl|rfl|rfl|rfl<;>simp [pf,World.cell?_alloc_at]
  ·exact (((Below.refl w.heap.size w).alloc (jB _) _).trans (hb0.mono (by omega))).trans (hb2.mono (by omega))
  ·simp
  ·omega
 clear hown1 hgrow1 hi0 hz0 hz1 hz2;obtain ⟨g,hg⟩:∃g,w1.heap.size=g:=⟨_,rfl⟩;rw [hg] at HLAY ⊢;go_loopw [13] (fun i wr=>∃k:Nat,k<=5/\i=.int .i64 k/\Lay w wr p ba bc g k) (fun i _=>5-(intOf i).toNat)
 case atStart=>exact ⟨0,jW _,rfl,HLAY.out⟩
 case round=>
  obtain ⟨k,hk,rfl,hlay⟩:=hrel;by_cases hlt:k<5
  ·obtain ⟨fk,hfk⟩:∃fk,pf k=fk:=⟨_,rfl⟩;have hpc:=hlay.parts k hlt;have c:=HLL.out hlay hlt
   have hfs:fk=227\/fk=228\/fk=229\/fk=230\/fk=231:=by
    rw [<-hfk];have:k=0\/k=1\/k=2\/k=3\/k=4:=by omega
    rcases this with rfl|rfl|rfl|rfl|rfl<;>simp [pf]
   rw [hfk] at c hpc;obtain ⟨er',her⟩:∃x,er p k=x:=⟨_,rfl⟩;rw [her] at c;obtain ⟨⟨k0,k1,k2,k3⟩,_⟩:=hlay.slot;have HLY:Hid (Lay w wr p ba bc g k):=hlay;have HER:Hid (er p k=er'):=her;clear hlay hfk her HLAY;by_cases hE:er'=0
   ·subst hE;rcases hfs with rfl|rfl|rfl|rfl|rfl
    all_goals
     go_wp2_with fail
     refine c.mono ?_;clear c;rintro e w2 h;obtain ⟨rfl,_⟩:=id h;have hn:=HLY.out.next (by rw [HER.out];exact h) HER.out;clear h k0 k1 k2 k3 hpc;go_wp2;go_roundw
     case rel=>exact ⟨k+1,by omega,by go_num,hn⟩
     case measure=>simp [intOf];omega
   ·have hEb:(er' !=0)=true:=by simpa using hE
    obtain ⟨q1,q2⟩:=HA.out k hlt HLY.out.no (by rw [HER.out];exact hE);rw [HER.out] at q1;subst q1 q2;rcases hfs with rfl|rfl|rfl|rfl|rfl
    all_goals
     go_wp2_with fail
     refine c.mono ?_;clear c;rintro e w2 h;obtain ⟨rfl,_⟩:=id h;have hb2:=h.below (B:=w.heap.size) (by have:=HLY.out.lt;omega) (by have:=HLY.out.lt;omega) HLY.out.bel;clear h k0 k1 k2 k3 hpc;go_wp2;go_ret2
     exact ⟨_,rfl,World.ownsRow_nil _ _ _ _,hb2⟩
  ·have hk5:k=5:=by omega
   subst hk5;obtain ⟨q1,q2⟩:=HZ.out hlay.no;have hsh:=hlay.sh;obtain ⟨Y,hY⟩:∃Y,st p 5=Y:=⟨_,rfl⟩;rw [hY] at q2 hsh;clear hY;have Q1:Hid (E=0):=q1;have Q2:Hid (Z=Y):=q2;clear q1 q2;obtain ⟨base,hb,a,cap,s1,s2,s3,s4⟩:=hsh
   have HO:Hid (Own w.heap.size wr (.slice a Y.length cap) Y):=by
    rw [hb (by omega)] at s3;exact s3.weaken (by have:=hlay.lt;omega)
   have HB:Hid (Below w.heap.size w wr):=hlay.bel;clear hlay hb s3 s4;go_wp2;go_ret2
   exact ⟨_,by rw [Q1.out];rfl,by rw [Q2.out];exact HO.out,HB.out⟩
def nums (n X:Nat):List Int:=putL (List.replicate n 0) 0 n X
theorem yM (n X:Nat):(nums n X).length=n:=by unfold nums;rw [ZJ,jJ]
theorem zJ (n X:Nat):Bys (nums n X):=gM (fun z h=>by have:=List.eq_of_mem_replicate h;omega) _ _ _
theorem putL_at (zs:List Int) (p n X i:Nat) (hi:i<zs.length):(putL zs p n X).getD i 0=if p<=i/\i<p+n then dgt X p n i else zs.getD i 0:=by
 unfold putL;rw [VF _ _ _ _ hi];simp only [jQ]
theorem dgt_off (X p n j:Nat):dgt X p n (p+j)=dgt X 0 n j:=by
 unfold dgt;rw [show p+n-1-(p+j)=0+n-1-j by omega]
theorem fR (n X j:Nat) (hj:j<n):(nums n X).getD j 0=dgt X 0 n j:=by
 unfold nums;rw [putL_at _ _ _ _ _ (by rw [jJ];exact hj),if_pos (by omega)]
theorem putL_mid (A Z B:List Int) (X:Nat):putL (A++(Z++B)) A.length Z.length X=A++(nums Z.length X++B):=by
 refine ZG ?_ fun i hi=>?_
 ·rw [ZJ];simp [yM]
 ·rw [ZJ] at hi;rw [putL_at _ _ _ _ _ hi,QG,QG,QG,QG,yM];by_cases h1:i<A.length
  ·rw [if_neg (by omega),if_pos h1,if_pos h1]
  ·rw [if_neg h1];by_cases h2:i-A.length<Z.length
   ·rw [if_pos (by omega),if_neg h1,if_pos h2,fR _ _ _ h2];have:=dgt_off X A.length Z.length (i-A.length);rw [show A.length+(i-A.length)=i by omega] at this;exact this
   ·rw [if_neg (by omega),if_neg h2,if_neg h1,if_neg h2]
theorem num_mid (A Z B:List Int) (k:Nat) (hk:k<=Z.length):num (A++(Z++B)) A.length k=num Z 0 k:=by
 induction k with
 |zero=>rfl
 |succ k ih=>
  rw [XO,XO,ih (by omega),QG,if_neg (by omega),QG,if_pos (by omega)];rw [show A.length+k-A.length=0+k by omega]
theorem gW (n X:Nat) (h:X<256^n):num (nums n X) 0 n=(X:Int):=num_put _ 0 n X (by rw [jJ];omega) h
theorem dgt_num {zs:List Int} (h:Bys zs) (p:Nat):∀n j,j<n->dgt (num zs p n).toNat 0 n j=zs.getD (p+j) 0:=by
 intro n
 induction n with
 |zero=>intro j hj;omega
 |succ n ih=>
  intro j hj;have hb:=uJ h p n;have hz:=h.at (p+n);have e:(num zs p (n+1)).toNat=(num zs p n).toNat*256+(zs.getD (p+n) 0).toNat:=by rw [XO];omega
  rw [e];by_cases hjn:j=n
  ·subst hjn;unfold dgt;rw [show 0+(j+1)-1-j=0 by omega];simp only [Nat.pow_zero,Nat.div_one];omega
  ·rw [<-ih j (by omega)];unfold dgt
   have e3:((num zs p n).toNat*256+(zs.getD (p+n) 0).toNat)/256^((0+n-1-j)+1)=(num zs p n).toNat/256^(0+n-1-j):=by
    rw [Nat.pow_succ',<-Nat.div_div_eq_div_mul]
    congr 1
    omega
   rw [show 0+(n+1)-1-j=(0+n-1-j)+1 by omega,e3]
theorem ZP {zs:List Int} (h:Bys zs):nums zs.length (num zs 0 zs.length).toNat=zs:=by
 refine ZG (yM _ _) fun i hi=>?_
 rw [yM] at hi;rw [fR _ _ _ hi,dgt_num h 0 _ _ hi,xE]
def tailP (p:Pg):List Int:=nums 1 p.kind.toNat++nums 1 p.level.toNat++nums 2 p.count.toNat++p.body++List.replicate (248-p.body.length) 0
def sealL (p:Pg):List Int:=nums 4 (crc (tailP p)).toNat++tailP p
def argP (p:Pg):Bool:=decide ((1<=p.kind/\p.kind<=5)/\(0<=p.level/\p.level<=255)/\(0<=p.count/\p.count<=65535))
def sealE (p:Pg):Int:=if argP p=true then (if p.body.length<=248 then 0 else 3) else 1
def sealZ (p:Pg):List Int:=if sealE p=0 then sealL p else []
theorem UE {p:Pg} (h:Bys p.body):Bys (tailP p):=(((zJ _ _).app (zJ _ _)).app (zJ _ _)).app h |>.app (QK _)
theorem tail_len {p:Pg} (h:p.body.length<=248):(tailP p).length=252:=by simp [tailP,yM];omega
theorem ZF {p:Pg} (h:Bys p.body):Bys (sealL p):=(zJ _ _).app (UE h)
theorem ZE {p:Pg} (h:p.body.length<=248):(sealL p).length=256:=by simp [sealL,yM,tail_len h]
theorem argP_out {p:Pg} (h:argP p=true):(1<=p.kind/\p.kind<=5)/\(0<=p.level/\p.level<=255)/\(0<=p.count/\p.count<=65535):=jZ h
theorem argP_no {p:Pg} (h:¬((1<=p.kind/\p.kind<=5)/\(0<=p.level/\p.level<=255)/\(0<=p.count/\p.count<=65535))):¬argP p=true:=fun e=>h (argP_out e)
theorem sealE_zero {p:Pg} (h:sealE p=0):argP p=true/\p.body.length<=248:=by
 unfold sealE at h;by_cases ha:argP p=true
 ·rw [if_pos ha] at h;by_cases hl:p.body.length<=248
  ·exact ⟨ha,hl⟩
  ·rw [if_neg hl] at h;omega
 ·rw [if_neg ha] at h;omega
theorem YH {len p n:Nat} (h1:1<=n) (h8:n<=8) (h:p+n<=len):insB len p n=true:=by simp [insB];omega
theorem fit1 (x:Int):fitB 1 x=decide (0<=x/\x<=255):=by
 unfold fitB;rw [xY];simp only [jQ,show (1:Int).toNat=1 from rfl,Int.pow_succ,Int.pow_zero];omega
theorem fit2 (x:Int):fitB 2 x=decide (0<=x/\x<=65535):=by
 unfold fitB;rw [xY];simp only [jQ,show (2:Int).toNat=2 from rfl,Int.pow_succ,Int.pow_zero];omega
theorem fit4 (x:Int):fitB 4 x=decide (0<=x/\x<=4294967295):=by
 unfold fitB;rw [xY];simp only [jQ,show (4:Int).toNat=4 from rfl,Int.pow_succ,Int.pow_zero];omega
theorem ZI (A Z B:List Int) (p n x:Int) (hp:p=A.length) (hn:n=Z.length) (h1:1<=Z.length) (h8:Z.length<=8) (hf:fitB n x=true):
  putB (A++(Z++B)) p n x=true/\putR (A++(Z++B)) p n x=A++(nums Z.length x.toNat++B):=by
 have hB:putB (A++(Z++B)) p n x=true:=by
  unfold putB;rw [hf,Bool.and_true,hp,hn];exact YH h1 h8 (by simp)
 refine ⟨hB,?_⟩;unfold putR;rw [if_pos hB,hp,hn,jS,jS,putL_mid]
theorem st0_eq:st0=List.replicate 4 0++(List.replicate 1 0++List.replicate 251 0):=by
 unfold st0;rw [xF,xF]
theorem step1 {p:Pg} (h:1<=p.kind/\p.kind<=5):er p 0=0/\st1 p=List.replicate 4 0++(nums 1 p.kind.toNat++List.replicate 251 0):=by
 have hf:fitB 1 p.kind=true:=by rw [fit1];exact jF (by omega)
 obtain ⟨q1,q2⟩:=ZI (List.replicate 4 0) (List.replicate 1 0) (List.replicate 251 0) 4 1 p.kind (by rw [jJ];rfl) (by rw [jJ];rfl) (by rw [jJ];omega) (by rw [jJ];omega) hf;rw [<-st0_eq] at q1 q2;refine ⟨?_,?_⟩
 ·rw [er0,q1,show okK p.kind=true from jF h];rfl
 ·unfold st1;rw [q2,jJ]
theorem step2 {p:Pg} (h1:st1 p=List.replicate 4 0++(nums 1 p.kind.toNat++List.replicate 251 0)) (h:0<=p.level/\p.level<=255):
  er p 1=0/\st2 p=(List.replicate 4 0++nums 1 p.kind.toNat)++(nums 1 p.level.toNat++List.replicate 250 0):=by
 have hf:fitB 1 p.level=true:=by rw [fit1];exact jF (by omega)
 have e:st1 p=(List.replicate 4 0++nums 1 p.kind.toNat)++(List.replicate 1 0++List.replicate 250 0):=by
  rw [h1,jU,xF]
 have hl:(List.replicate 4 (0:Int)++nums 1 p.kind.toNat).length=5:=by simp [yM]
 obtain ⟨q1,q2⟩:=ZI (List.replicate 4 0++nums 1 p.kind.toNat) (List.replicate 1 0) (List.replicate 250 0) 5 1 p.level (by rw [hl];rfl) (by rw [jJ];rfl) (by rw [jJ];omega) (by rw [jJ];omega) hf;rw [<-e] at q1 q2;refine ⟨?_,?_⟩
 ·rw [er1,q1];rfl
 ·unfold st2;rw [q2,jJ]
theorem step3 {p:Pg} (h2:st2 p=(List.replicate 4 0++nums 1 p.kind.toNat)++(nums 1 p.level.toNat++List.replicate 250 0)) (h:0<=p.count/\p.count<=65535):
  er p 2=0/\st3 p=((List.replicate 4 0++nums 1 p.kind.toNat)++nums 1 p.level.toNat)++(nums 2 p.count.toNat++List.replicate 248 0):=by
 have hf:fitB 2 p.count=true:=by rw [fit2];exact jF (by omega)
 have e:st2 p=((List.replicate 4 0++nums 1 p.kind.toNat)++nums 1 p.level.toNat)++(List.replicate 2 0++List.replicate 248 0):=by
  rw [h2,jU (_++_),xF]
 have hl:((List.replicate 4 (0:Int)++nums 1 p.kind.toNat)++nums 1 p.level.toNat).length=6:=by simp [yM]
 obtain ⟨q1,q2⟩:=ZI ((List.replicate 4 0++nums 1 p.kind.toNat)++nums 1 p.level.toNat) (List.replicate 2 0) (List.replicate 248 0) 6 2 p.count (by rw [hl];rfl) (by rw [jJ];rfl) (by rw [jJ];omega) (by rw [jJ];omega) hf;rw [<-e] at q1 q2;refine ⟨?_,?_⟩
 ·rw [er2,q1];rfl
 ·unfold st3;rw [q2,jJ]
theorem step4 {p:Pg} (h3:st3 p=((List.replicate 4 0++nums 1 p.kind.toNat)++nums 1 p.level.toNat)++(nums 2 p.count.toNat++List.replicate 248 0)) (h:p.body.length<=248):
  er p 3=0/\st4 p=List.replicate 4 0++tailP p:=by
 refine ⟨by rw [er3,if_pos h],?_⟩;unfold st4 spl;have hl:(((List.replicate 4 (0:Int)++nums 1 p.kind.toNat)++nums 1 p.level.toNat)++nums 2 p.count.toNat).length=8:=by simp [yM]
 have e3:st3 p=(((List.replicate 4 (0:Int)++nums 1 p.kind.toNat)++nums 1 p.level.toNat)++nums 2 p.count.toNat)++List.replicate 248 0:=by rw [h3];simp only [jU]
 have et:List.replicate 4 0++tailP p=(((List.replicate 4 (0:Int)++nums 1 p.kind.toNat)++nums 1 p.level.toNat)++nums 2 p.count.toNat)++(p.body++List.replicate (248-p.body.length) 0):=by unfold tailP;simp only [jU]
 rw [e3,et];clear e3 et h3;obtain ⟨A,hA⟩:∃A,((List.replicate 4 (0:Int)++nums 1 p.kind.toNat)++nums 1 p.level.toNat)++nums 2 p.count.toNat=A:=⟨_,rfl⟩;rw [hA] at hl ⊢;rw [List.take_append,yG,hl,qP (by omega),qS (by omega),List.drop_replicate];simp
theorem step5 {p:Pg} (hb:Bys p.body) (h4:st4 p=List.replicate 4 0++tailP p):er p 4=0/\st5 p=sealL p:=by
 have hx:=FJ (UE hb);have hf:fitB 4 (crc (tailP p))=true:=by rw [fit4];exact jF (by omega)
 have e:(st4 p).drop 4=tailP p:=by rw [h4,yG,jJ];simp
 obtain ⟨q1,q2⟩:=ZI [] (List.replicate 4 0) (tailP p) 0 4 (crc (tailP p)) rfl (by rw [jJ];rfl) (by rw [jJ];omega) (by rw [jJ];omega) hf;rw [xL,<-h4] at q1 q2;refine ⟨?_,?_⟩
 ·rw [er4,e,q1];rfl
 ·unfold st5 sealL;rw [e,q2,jJ,xL]
theorem GS {p:Pg} (h:er p 0=0):1<=p.kind/\p.kind<=5:=by
 rw [er0] at h;by_cases hk:okK p.kind=true
 ·exact jZ hk
 ·rw [Bool.eq_false_iff.2 hk,Bool.false_and] at h;exact absurd h (by decide)
theorem e1_in {p:Pg} (h:er p 1=0):0<=p.level/\p.level<=255:=by
 rw [er1] at h;by_cases hk:putB (st1 p) 5 1 p.level=true
 ·unfold putB at hk;rw [jN,fit1] at hk;exact jZ hk.2
 ·rw [if_neg hk] at h;exact absurd h (by decide)
theorem e2_in {p:Pg} (h:er p 2=0):0<=p.count/\p.count<=65535:=by
 rw [er2] at h;by_cases hk:putB (st2 p) 6 2 p.count=true
 ·unfold putB at hk;rw [jN,fit2] at hk;exact jZ hk.2
 ·rw [if_neg hk] at h;exact absurd h (by decide)
theorem e3_in {p:Pg} (h:er p 3=0):p.body.length<=248:=by
 rw [er3] at h;by_cases hk:p.body.length<=248
 ·exact hk
 ·rw [if_neg hk] at h;exact absurd h (by decide)
theorem er_one {p:Pg} {k:Nat} (hk:k=0\/k=1\/k=2\/k=4) (h:er p k≠0):er p k=1:=by
 rcases hk with rfl|rfl|rfl|rfl
 ·rw [er0] at h ⊢;split
  ·rename_i h';rw [if_pos h'] at h;exact absurd rfl h
  ·rfl
 ·rw [er1] at h ⊢;split
  ·rename_i h';rw [if_pos h'] at h;exact absurd rfl h
  ·rfl
 ·rw [er2] at h ⊢;split
  ·rename_i h';rw [if_pos h'] at h;exact absurd rfl h
  ·rfl
 ·rw [er4] at h ⊢;split
  ·rename_i h';rw [if_pos h'] at h;exact absurd rfl h
  ·rfl
theorem UK {p:Pg} (h:¬((1<=p.kind/\p.kind<=5)/\(0<=p.level/\p.level<=255)/\(0<=p.count/\p.count<=65535))):sealE p=1/\sealZ p=[]:=by
 have e:sealE p=1:=by unfold sealE;rw [if_neg (argP_no h)]
 exact ⟨e,by unfold sealZ;rw [e];rfl⟩
theorem seal_HA {p:Pg} (hb:Bys p.body):∀k,k<5->(∀j,j<k->er p j=0)->er p k≠0->sealE p=er p k/\sealZ p=[]:=by
 intro k hk hj he;have:k=0\/k=1\/k=2\/k=3\/k=4:=by omega
 rcases this with rfl|rfl|rfl|rfl|rfl
 ·rw [er_one (by omega) he];exact UK fun h=>he (step1 h.1).1
 ·have a0:=GS (hj 0 (by omega));rw [er_one (by omega) he];exact UK fun h=>he (step2 (step1 a0).2 h.2.1).1
 ·have a0:=GS (hj 0 (by omega));have a1:=e1_in (hj 1 (by omega));rw [er_one (by omega) he];exact UK fun h=>he (step3 (step2 (step1 a0).2 a1).2 h.2.2).1
 ·have a0:=GS (hj 0 (by omega));have a1:=e1_in (hj 1 (by omega));have a2:=e2_in (hj 2 (by omega));have hl:¬p.body.length<=248:=fun h=>he (by rw [er3,if_pos h])
  have e:sealE p=3:=by unfold sealE;rw [if_pos (show argP p=true from jF ⟨a0,a1,a2⟩),if_neg hl]
  exact ⟨by rw [e,er3,if_neg hl],by unfold sealZ;rw [e];rfl⟩
 ·have a0:=GS (hj 0 (by omega));have a1:=e1_in (hj 1 (by omega));have a2:=e2_in (hj 2 (by omega));have a3:=e3_in (hj 3 (by omega));exact absurd (step5 hb (step4 (step3 (step2 (step1 a0).2 a1).2 a2).2 a3).2).1 he
theorem seal_HZ {p:Pg} (hb:Bys p.body) (h:∀j,j<5->er p j=0):sealE p=0/\sealZ p=st p 5:=by
 have a0:=GS (h 0 (by omega));have a1:=e1_in (h 1 (by omega));have a2:=e2_in (h 2 (by omega));have a3:=e3_in (h 3 (by omega));have e:sealE p=0:=by unfold sealE;rw [if_pos (show argP p=true from jF ⟨a0,a1,a2⟩),if_pos a3]
 have e5:=(step5 hb (step4 (step3 (step2 (step1 a0).2 a1).2 a2).2 a3).2).2;refine ⟨e,?_⟩;unfold sealZ;rw [if_pos e];exact e5.symm
theorem seal_any (p:Pg) (ba:Option Addr) (bc:Nat) (w:World) (hr:Row w ba bc p.body) (h1:p.kind<=9223372036854775807) (h2:p.level<=9223372036854775807) (h3:p.count<=9223372036854775807):
  Calls prog 170 #[pgV p ba bc] w fun e w'=>∃v,e=.returned (.tuple #[v,.int .i64 (sealE p)])/\Own w.heap.size w' v (sealZ p)/\Below w.heap.size w w':=
 seal_walk p ba bc w hr _ _ h1 h2 h3 (seal_HA hr.1) (seal_HZ hr.1)
theorem sealZ_bys {p:Pg} (h:Bys p.body):Bys (sealZ p):=by
 unfold sealZ;split
 ·exact ZF h
 ·intro z hz;cases hz
end Go.Proofs.YtaijfhadecennabGreat.Oct
