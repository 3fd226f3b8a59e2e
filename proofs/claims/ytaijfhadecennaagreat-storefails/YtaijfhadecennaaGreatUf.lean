/- Part of a proof. -/
import Derived.Test.YtaijfhadecennaaGreatUb
import Derived.Test.YtaijfhadecennaaGreatZl
import Derived.Test.YtaijfhadecennaaGreatRi
open Go.Proofs.Tryz
set_option maxHeartbeats 8000000
namespace Go.Proofs.YtaijfhadecennaaGreat.Oct
open Go.RowKit
structure Bod (w wr:World) (S:Sp) (B F k:Nat) (g:Option Addr) (c:Nat):Prop where
 own:Own w.heap.size wr (.slice g 248 c) (shS S k)
 sl:Sl8 wr B S
 fd:Fds wr F B
 bel:Below w.heap.size w wr
theorem fN {base:Nat} {w w1:World} {v:Value} {zs:List Int} (h:Own base w v zs) (k:Below w.heap.size w w1):Own base w1 v zs:=by
 obtain ⟨h1,h2|⟨g,cap,cur,e,hg,hc,r⟩⟩:=h
 ·exact ⟨h1,.inl h2⟩
 ·have hl:g<w.heap.size:=by
   by_cases hl:g<w.heap.size
   ·exact hl
   ·rw [Array.getElem?_eq_none (by omega)] at hc;cases hc
  exact ⟨h1,.inr ⟨g,cap,cur,e,hg,(k.block g hl).trans hc,r⟩⟩
theorem bod_step {w wr:World} {S:Sp} {B F k:Nat} {g:Option Addr} {c:Nat} (h:Bod w wr S B F k g c) (hok:okS S=true) (hk:k<8) (o:Obj):
  Calls prog 183 #[.slice g 248 c,.int .i64 (ofS k:Nat),.int .i64 (wdS k:Nat),.int .i64 (atS S k)] (wr.alloc o).drew fun e w'=>∃g' c',e=.returned (.tuple #[.slice g' 248 c',.bool true])/\Bod w w' S B F (k+1) g' c'/\Below (wr.alloc o).heap.size (wr.alloc o) w':=by
 have hl:=ZV S (k:=k) (by omega);have hb0:Below wr.heap.size wr (wr.alloc o).drew:=((Below.refl _ _).alloc (jB _) _).drew;have ho:=fN h.own hb0;obtain ⟨_,hr⟩:=ho.row' (gB S k);obtain ⟨q1,q2⟩:=shS_next hok hk
 have hx:atS S k<=9223372036854775807:=by
  have hf:=GI hok hk;unfold fitB at hf;have:=(jZ hf).2.1;omega
 have cp:=put_any g c (shS S k) (ofS k:Nat) (wdS k:Nat) (atS S k) _ hr (by omega) hx;rw [q1,q2,hl] at cp;refine cp.mono ?_;rintro e w' ⟨v,rfl,ho',hb'⟩;obtain ⟨g',c',rfl,_⟩:=ho'.row (gB S (k+1));rw [ZV S (k:=k+1) (by omega)] at ho';refine ⟨g',c',by rw [ZV S (k:=k+1) (by omega)],⟨ho'.weaken ?_,?_,?_,?_⟩,?_⟩
 ·exact jP h.bel.size (hb0.size)
 ·exact (h.sl.below hb0).below hb'
 ·exact (h.fd.below hb0).below hb'
 ·exact (h.bel.trans (hb0.mono h.bel.size)).trans (hb'.mono (jP h.bel.size hb0.size))
 ·exact ((Below.refl _ (wr.alloc o)).drew).trans hb'
theorem body_any (S:Sp) (B:Nat) (w:World) (h:Sl8 w B S) (hok:okS S=true):
  Calls prog 144 #[.pointer (some ⟨B,0,none⟩)] w fun e w'=>∃g c,e=.returned (.slice g 248 c)/\Own w.heap.size w' (.slice g 248 c) (shS S 8)/\Below w.heap.size w w':=by
 have HS:Hid (Sl8 w B S):=h;have HOK:Hid (okS S=true):=hok;clear h hok;obtain ⟨i0,hi0,hz0,hz1,hz2⟩:=info_parts info5;go_enter func144,ntmps144
 go_wp2_with (at_make;refine wpList_make_full _ rfl _ _ 32 rfl w.heap.size 5 i0 (.int .u8 0) 1 underlying32 hi0 hz0 hz1 .i64 .i64 _ _ 248 rfl rfl rfl rfl (by rw [hz2];omega) (by simp [maxLen]) (by simp) ?_;intro w1 hown1 hgrow1)
 have hb0:Below w.heap.size w w1:=(Below.refl _ _).grown hgrow1 (by simp) (by simp);have ho0:=JJ hown1;refine (ZL _ _).mono ?_;rintro e w2 ⟨rfl,hfd,hb,-⟩;have HB:Hid (Bod w w2 S B w1.heap.size 0 (some ⟨w.heap.size,0,none⟩) 248):=⟨fN ho0 hb,(HS.out.below hb0).below hb,hfd,hb0.trans (hb.mono hb0.size)⟩;clear hb hfd ho0 hb0 hown1 hgrow1;obtain ⟨F,hF⟩:∃F,w1.heap.size=F:=⟨_,rfl⟩;rw [hF] at HB ⊢;clear hF hi0 hz0 hz1 hz2;go_wp2_with fail
 go_loopw [3,4,11] (fun o a i wr=>∃(k:Nat) (g:Option Addr) (c:Nat),k<=8/\o=.slice g 248 c/\a=.int .i64 (ofS k:Nat)/\i=.int .i64 k/\Bod w wr S B F k g c) (fun _ _ i _=>8-(intOf i).toNat)
 case atStart=>exact ⟨0,_,_,jT _,rfl,rfl,rfl,HB.out⟩
 case round=>
  obtain ⟨k,g,c,hk,rfl,rfl,rfl,hbd⟩:=hrel;clear HB;by_cases hlt:k<8
  ·obtain ⟨c0,c1,c2⟩:=hbd.fd k hlt;have c3:=hbd.sl.at hlt;obtain ⟨fk,hfk⟩:∃fk,ff k=fk:=⟨_,rfl⟩;rw [hfk] at c2;have CP:Hid _:=bod_step hbd HOK.out hlt;have HN:Hid (ofS (k+1)=ofS k+wdS k):=uM hlt;have hob:=ofS_bd hlt;have hB:B<wr.heap.size:=hbd.sl.lt;obtain ⟨q,hq⟩:∃q,wdS k=q:=⟨_,rfl⟩;obtain ⟨x,hx⟩:∃x,atS S k=x:=⟨_,rfl⟩;obtain ⟨p,hp⟩:∃p,ofS k=p:=⟨_,rfl⟩;rw [hq,hx,hp] at CP;rw [hq,hp] at HN hob;rw [hq] at c0;rw [hx] at c3;rw [hp];clear hbd hfk hq hx hp HOK HS;go_wp2_with fail
   go_region_held3 (fun u=>u.cell? ⟨wr.heap.size,0,none⟩=some (.int .i64 (q:Int))/\u.cell? ⟨wr.heap.size,1,none⟩=some (.pointer (some ⟨B,k,none⟩))/\u.cell? ⟨B,k,none⟩=some (.int .i64 x)) (go_keep) ((go_at_call 183;refine (CP.out _).mono ?_;rintro e w3 ⟨g',c',rfl,hbd3,hb3⟩;have HB3:Hid (Bod w w3 S B F (k+1) g' c'):=hbd3;have d0:w3.cell? ⟨wr.heap.size,0,none⟩=some (.int .i64 (q:Int)):=(hb3.cell (p:=⟨wr.heap.size,0,none⟩) (by simp)).trans (by simp);have d1:w3.cell? ⟨wr.heap.size,1,none⟩=some (.pointer (some ⟨B,k,none⟩)):=(hb3.cell (p:=⟨wr.heap.size,1,none⟩) (by simp)).trans (by simp);have d2:w3.cell? ⟨B,k,none⟩=some (.int .i64 x):=(hb3.cell (p:=⟨B,k,none⟩) (by simp;omega)).trans (by rw [World.cell?_alloc_lt _ _ _ hB];exact c3);clear hbd3 hb3))
   go_wp2;go_roundw
   case rel=>exact ⟨k+1,g',c',by omega,rfl,by rw [HN.out];go_num,by go_num,HB3.out⟩
   case measure=>simp [intOf];omega
  ·have hk8:k=8:=by omega
   subst hk8;have HO:Hid (Own w.heap.size wr (.slice g 248 c) (shS S 8)):=hbd.own;have HBE:Hid (Below w.heap.size w wr):=hbd.bel;clear hbd;go_wp2;go_ret
   exact ⟨_,_,rfl,HO.out,HBE.out⟩
def mixS (T:Sp) (k:Nat):Sp:=⟨if 0<k then T.g else 0,if 1<k then T.p else 0,if 2<k then T.r else 0,if 3<k then T.h else 0,if 4<k then T.b else 0,if 5<k then T.l else 0,if 6<k then T.s else 0,if 7<k then T.f else 0⟩
theorem sd_at (zs:List Int) {k:Nat} (hk:k<8):atS (sdL zs) k=getI zs (ofS k:Nat) (wdS k:Nat):=by
 rcases eight hk with rfl|rfl|rfl|rfl|rfl|rfl|rfl|rfl<;>rfl
def Sw8 (w:World) (B:Nat) (S:Sp):Prop:=Sl8 w B S/\∀k,k<8->w.frozen? ⟨B,k,none⟩=false
theorem Sw8.same {w w1:World} {B:Nat} {S:Sp} (h:Sw8 w B S) (k:w1.heap[B]?=w.heap[B]?):Sw8 w1 B S:=
 ⟨h.1.same k,fun i hi=>(World.frozen?_of_block k).trans (h.2 i hi)⟩
theorem JG (w:World) (S:Sp) (t:TypeId):Sw8 (w.alloc (.cells #[.int .i64 S.g,.int .i64 S.p,.int .i64 S.r,.int .i64 S.h,.int .i64 S.b,.int .i64 S.l,.int .i64 S.s,.int .i64 S.f] t)) w.heap.size S:=
 ⟨JK w S t,fun k hk=>by rcases eight hk with rfl|rfl|rfl|rfl|rfl|rfl|rfl|rfl<;>simp⟩
theorem Sw8.put {w:World} {B:Nat} {T:Sp} {k:Nat} (h:Sw8 w B (mixS T k)) (hk:k<8):Sw8 (w.setCell ⟨B,k,none⟩ (.int .i64 (atS T k))) B (mixS T (k+1)):=by
 have hc:=h.1.at hk;refine ⟨?_,fun i hi=>by rw [World.frozen?_setCell];exact h.2 i hi⟩
 have key:∀j,j<8->(w.setCell ⟨B,k,none⟩ (.int .i64 (atS T k))).cell? ⟨B,j,none⟩=some (.int .i64 (atS (mixS T (k+1)) j)):=by
  intro j hj;by_cases e:j=k
  ·subst e;rw [World.cell?_setCell_same _ _ _ hc];rcases eight hj with rfl|rfl|rfl|rfl|rfl|rfl|rfl|rfl<;>rfl
  ·rw [World.cell?_setCell_other _ _ _ _ (by intro e';simp only [Addr.mk.injEq] at e';omega),h.1.at hj]
   have:atS (mixS T k) j=atS (mixS T (k+1)) j:=by
    have st:∀(x:Int) (i:Nat),¬i=k->(if i<k then x else 0)=(if i<k+1 then x else 0):=fun x i hi=>by
     by_cases h1:i<k
     ·rw [if_pos h1,if_pos (by omega)]
     ·rw [if_neg h1,if_neg (by omega)]
    rcases eight hj with rfl|rfl|rfl|rfl|rfl|rfl|rfl|rfl
    all_goals exact st _ _ e
   rw [this]
 exact ⟨key 0 (by omega),key 1 (by omega),key 2 (by omega),key 3 (by omega),key 4 (by omega),key 5 (by omega),key 6 (by omega),key 7 (by omega)⟩
structure Rdg (w wr:World) (zs:List Int) (B F k:Nat):Prop where
 yes:∀j,j<k->getB zs (ofS j:Nat) (wdS j:Nat)=true
 sw:Sw8 wr B (mixS (sdL zs) k)
 fd:Fds wr F B
 bel:Below B w wr
 ne:B<F
def rdB (zs:List Int):Bool:=getB zs 0 8&&nouB (zs.drop 34)
theorem fH (B b off cap:Nat) (zs:List Int) (w:World) (h:Sw8 w B sp0) (hr:Row w (some ⟨b,off,none⟩) cap zs) (hl:zs.length=248) (hbB:b<B):
  Calls prog 189 #[.pointer (some ⟨B,0,none⟩),.slice (some ⟨b,off,none⟩) 248 cap] w fun e w'=>e=.returned (.bool (rdB zs))/\(rdB zs=true->Sw8 w' B (sdL zs))/\Below B w w':=by
 have HR:Hid (Row w (some ⟨b,off,none⟩) cap zs):=hr;have HW:Hid (Sw8 w B sp0):=h;have HLT:Hid (B<w.heap.size):=h.1.lt;have HL:Hid (zs.length=248):=hl;have HBB:Hid (b<B):=hbB;have hcap:=hr.2.1;have hmx:=hr.2.2.1;unfold maxLen at hmx;rw [hl] at hcap
 have HN:Hid (∀k,k<8->getB zs (ofS k:Nat) (wdS k:Nat)=false->rdB zs=false):=fun k hk hf=>by
  rcases eight hk with rfl|rfl|rfl|rfl|rfl|rfl|rfl|rfl
  ·show (getB zs 0 8&&nouB (zs.drop 34))=false;rw [show getB zs 0 8=false from hf];rfl
  all_goals
   rw [kW hr.1 (by decide) (by decide) (by rw [hl];decide)] at hf;cases hf
 have HY:Hid ((∀k,k<8->getB zs (ofS k:Nat) (wdS k:Nat)=true)->rdB zs=nouB (zs.drop 34)):=fun hh=>by
  show (getB zs 0 8&&nouB (zs.drop 34))=_;rw [show getB zs 0 8=true from hh 0 (by omega)];rfl
 obtain ⟨V,hV⟩:∃V,rdB zs=V:=⟨_,rfl⟩;rw [hV] at HN HY ⊢;clear h hr hl hbB hV;go_enter func189,ntmps189
 go_wp2_with fail
 refine (ZL _ _).mono ?_;rintro e w2 ⟨rfl,hfd,hb,-⟩;have HC:Hid (Rdg w w2 zs B w.heap.size 0):=⟨fun j hj=>by omega,HW.out.same (hb.block B HLT.out),hfd,hb.mono (Nat.le_of_lt HLT.out),HLT.out⟩;clear hb hfd;obtain ⟨F,hF⟩:∃F,w.heap.size=F:=⟨_,rfl⟩;rw [hF] at HC HLT ⊢;clear hF HW;go_wp2_with fail
 go_loopw [5,13] (fun a i wr=>∃k:Nat,k<=8/\a=.int .i64 (ofS k:Nat)/\i=.int .i64 k/\Rdg w wr zs B F k) (fun _ i _=>8-(intOf i).toNat)
 case atStart=>exact ⟨0,jT _,rfl,rfl,HC.out⟩
 case round=>
  obtain ⟨k,hk,rfl,rfl,hrd⟩:=hrel;clear HC;by_cases hlt:k<8
  ·obtain ⟨c0,c1,c2⟩:=hrd.fd k hlt;have hc3:=hrd.sw.1.at hlt;have hz3:=hrd.sw.2 k hlt;have hB:B<wr.heap.size:=hrd.sw.1.lt;obtain ⟨fk,hfk⟩:∃fk,ff k=fk:=⟨_,rfl⟩;rw [hfk] at c2
   have CG:Hid (∀o:Obj,Calls prog 174 #[.slice (some ⟨b,off,none⟩) 248 cap,.int .i64 (ofS k:Nat),.int .i64 (wdS k:Nat)] (wr.alloc o) fun e w'=>e=.returned (.tuple #[.int .i64 (atS (sdL zs) k),.bool (getB zs (ofS k:Nat) (wdS k:Nat))])/\Below (wr.alloc o).heap.size (wr.alloc o) w'):=fun o=>by
    have:=UV _ _ _ (ofS k:Nat) (wdS k:Nat) _ ((HR.out.low HBB.out hrd.bel).below ((Below.refl _ _).alloc (jB _) o));rw [HL.out,<-sd_at zs hlt] at this;exact this
   have HX:Hid (∀(w3:World) (o:Obj),Below (wr.alloc o).heap.size (wr.alloc o) w3->getB zs (ofS k:Nat) (wdS k:Nat)=true->Rdg w (w3.setCell ⟨B,k,none⟩ (.int .i64 (atS (sdL zs) k))) zs B F (k+1)):=fun w3 o hb3 hg=>by
    have hb:Below wr.heap.size wr w3:=((Below.refl _ wr).alloc (jB _) o).trans (hb3.mono (by simp));refine ⟨fun j hj=>?_,(hrd.sw.same (hb.block B hB)).put hlt,(hrd.fd.below hb).same (Below.heap_setCell _ _ _ _ (by show F≠B;have:=hrd.ne;omega)),?_,hrd.ne⟩
    ·by_cases e:j=k
     ·rw [e];exact hg
     ·exact hrd.yes j (by omega)
    ·exact (hrd.bel.trans (hb.mono (Nat.le_of_lt hB))).setCell (p:=⟨B,k,none⟩) (jB _) _
   have HNX:Hid (ofS (k+1)=ofS k+wdS k):=uM hlt;have HBL:Hid (Below B w wr):=hrd.bel;have hob:=ofS_bd hlt;obtain ⟨q,hq⟩:∃q,wdS k=q:=⟨_,rfl⟩;obtain ⟨x,hx⟩:∃x,atS (sdL zs) k=x:=⟨_,rfl⟩;obtain ⟨y,hy⟩:∃y,atS (mixS (sdL zs) k) k=y:=⟨_,rfl⟩;obtain ⟨p,hp⟩:∃p,ofS k=p:=⟨_,rfl⟩;rw [hy] at hc3;cases hg:getB zs (ofS k:Nat) (wdS k:Nat)
   ·have e:=HN.out k hlt hg;subst e;rw [hg,hq,hx,hp] at CG;rw [hq] at c0;rw [hp];clear hrd hfk hq hx hp HN HY HX hg HNX hy;go_wp2_with fail
    refine (CG.out _).mono ?_;rintro e w3 ⟨rfl,hb3⟩;have HB3:Hid (Below B w w3):=(HBL.out.trans (((Below.refl _ wr).alloc (jB _) _).mono (Nat.le_of_lt hB))).trans (hb3.mono (by simp;omega));clear hb3;go_wp2;go_ret
    exact ⟨rfl,(fun h=>by cases h),HB3.out⟩
   ·have HX':Hid (∀(w3:World) (o:Obj),Below (wr.alloc o).heap.size (wr.alloc o) w3->Rdg w (w3.setCell ⟨B,k,none⟩ (.int .i64 (atS (sdL zs) k))) zs B F (k+1)):=fun w3 o h=>HX.out w3 o h hg
    rw [hg,hq,hx,hp] at CG;rw [hx] at HX';rw [hq] at c0;rw [hq,hp] at hob HNX;rw [hp];clear hrd hfk hq hx hp hg HN HY HX hy HBL;go_wp2_with fail
    refine (CG.out _).mono ?_;rintro e w3 ⟨rfl,hb3⟩;have HR3:Hid (Rdg w (w3.setCell ⟨B,k,none⟩ (.int .i64 x)) zs B F (k+1)):=HX'.out w3 _ hb3;have d0:w3.cell? ⟨wr.heap.size,0,none⟩=some (.int .i64 (q:Int)):=(hb3.cell (p:=⟨wr.heap.size,0,none⟩) (by simp)).trans (by simp);have d1:w3.cell? ⟨wr.heap.size,1,none⟩=some (.pointer (some ⟨B,k,none⟩)):=(hb3.cell (p:=⟨wr.heap.size,1,none⟩) (by simp)).trans (by simp);have d2:w3.cell? ⟨B,k,none⟩=some (.int .i64 y):=(hb3.cell (p:=⟨B,k,none⟩) (by simp;omega)).trans (by rw [World.cell?_alloc_lt _ _ _ hB];exact hc3);have d3:w3.frozen? ⟨B,k,none⟩=false:=(hb3.frozen (p:=⟨B,k,none⟩) (by simp;omega)).trans ((((Below.refl _ wr).alloc (jB _) _).frozen (p:=⟨B,k,none⟩) hB).trans hz3);have d4:(w3.setCell ⟨B,k,none⟩ (.int .i64 x)).cell? ⟨wr.heap.size,0,none⟩=some (.int .i64 (q:Int)):=by rw [World.cell?_setCell_other _ _ _ _ (by intro e';simp only [Addr.mk.injEq] at e';omega)];exact d0
    clear hb3 HX';go_wp2_with fail
    go_roundw
    case rel=>exact ⟨k+1,by omega,by rw [HNX.out];go_num,by go_num,HR3.out⟩
    case measure=>simp [intOf];omega
  ·have hk8:k=8:=by omega
   subst hk8;have e:=HY.out hrd.yes;have HS:Hid (Sw8 wr B (sdL zs)):=hrd.sw;have HBL:Hid (Below B w wr):=hrd.bel;have hrr:=(HR.out.low HBB.out hrd.bel).drop' 34 (by rw [HL.out];decide);have C:=noughts_v b (off+34) (cap-34) 214 (zs.drop 34) wr hrr (by rw [qC,HL.out]) V e.symm;clear hrr hrd e HN HY;have e34:ofS 8=34:=rfl;rw [e34];clear e34;go_wp2_with fail
   refine C.mono ?_;clear C;rintro e w3 ⟨rfl,rfl⟩;go_wp2;go_ret
   exact ⟨rfl,(fun _=>HS.out),HBL.out⟩
theorem root_v (n p:Int) (V:Bool) (hV:ldB p n=V) (w:World):
  Calls prog 200 #[.int .i64 n,.int .i64 p] w fun e w'=>e=.returned (.bool V)/\w'=w:=by
 unfold ldB at hV;by_cases h0:n=0
 ·rw [jE (.inl h0)] at hV;subst hV h0;go_enter func200,ntmps200
  go_wp2;go_ret
  exact ⟨rfl,rfl⟩
 ·have h0b:(n==0)=false:=by simpa using h0
  by_cases h1:2<=n
  ·by_cases h2:n<p
   ·rw [jE (.inr (by omega))] at hV;subst hV;go_enter func200,ntmps200
    go_wp2;go_ret
    exact ⟨rfl,rfl⟩
   ·rw [jH (by omega)] at hV;subst hV;go_enter func200,ntmps200
    go_wp2;go_ret
    exact ⟨rfl,rfl⟩
  ·rw [jH (by omega)] at hV;subst hV;go_enter func200,ntmps200
   go_wp2;go_ret
   exact ⟨rfl,rfl⟩
theorem XR (S:Sp) (w:World):Calls prog 165 #[spV S] w fun e w'=>e=.returned (.int .i64 (enE S))/\Below w.heap.size w w':=by
 obtain ⟨g,p,r,h,b,l,s,f⟩:=S;obtain ⟨R,hR⟩:∃R,enE ⟨g,p,r,h,b,l,s,f⟩=R:=⟨_,rfl⟩;rw [hR];have no:∀k,k<8->fitS ⟨g,p,r,h,b,l,s,f⟩ k=false->R=1:=fun k hk hf=>by rw [<-hR];unfold enE;rw [okS_no hk hf];rfl
 have ok:okS ⟨g,p,r,h,b,l,s,f⟩=true->R=0:=fun h=>by rw [<-hR];unfold enE;rw [h];rfl
 have Ch5:=root_v r p _ rfl;have Ch6:=root_v s p _ rfl;have Ch7:=root_v f p _ rfl;clear hR;dsimp only [spV];go_enter func165,ntmps165
 by_cases h1:1<=g;rotate_left
 ·obtain rfl:=no 0 (by omega) (jH (fun x=>h1 (by have:=x;dsimp only at this;omega)));go_wp2;go_ret
  exact ⟨rfl,(Below.refl _ _).alloc (jB _) _⟩
 by_cases h2:g<=1152921504606846976;rotate_left
 ·obtain rfl:=no 0 (by omega) (jH (fun x=>h2 (by have:=x;dsimp only at this;omega)));go_wp2;go_ret
  exact ⟨rfl,(Below.refl _ _).alloc (jB _) _⟩
 by_cases h3:8<=p;rotate_left
 ·obtain rfl:=no 1 (by omega) (jH (fun x=>h3 (by have:=x;dsimp only at this;omega)));go_wp2;go_ret
  exact ⟨rfl,(Below.refl _ _).alloc (jB _) _⟩
 by_cases h4:p<=4096;rotate_left
 ·obtain rfl:=no 1 (by omega) (jH (fun x=>h4 (by have:=x;dsimp only at this;omega)));go_wp2;go_ret
  exact ⟨rfl,(Below.refl _ _).alloc (jB _) _⟩
 go_wp2_with fail
 refine (Ch5 _).mono ?_;clear Ch5;rintro e w1 ⟨rfl,rfl⟩;cases h5:ldB p r
 ·obtain rfl:=no 2 (by omega) h5;go_wp2;go_ret
  exact ⟨rfl,(Below.refl _ _).alloc (jB _) _⟩
 go_wp2_with fail
 refine (Ch6 _).mono ?_;clear Ch6;rintro e w1 ⟨rfl,rfl⟩;cases h6:ldB p s
 ·obtain rfl:=no 6 (by omega) h6;go_wp2;go_ret
  exact ⟨rfl,(Below.refl _ _).alloc (jB _) _⟩
 go_wp2_with fail
 refine (Ch7 _).mono ?_;clear Ch7;rintro e w1 ⟨rfl,rfl⟩;cases h7:ldB p f
 ·obtain rfl:=no 7 (by omega) h7;go_wp2;go_ret
  exact ⟨rfl,(Below.refl _ _).alloc (jB _) _⟩
 by_cases k1:0<=h;rotate_left
 ·obtain rfl:=no 3 (by omega) (jH (fun x=>k1 (by have:=x;dsimp only at this;omega)));go_wp2;go_ret
  exact ⟨rfl,(Below.refl _ _).alloc (jB _) _⟩
 by_cases k2:h<=32;rotate_left
 ·obtain rfl:=no 3 (by omega) (jH (fun x=>k2 (by have:=x;dsimp only at this;omega)));go_wp2;go_ret
  exact ⟨rfl,(Below.refl _ _).alloc (jB _) _⟩
 cases k3:(h==0)<;>cases k4:(r==0)
 rotate_left
 ·obtain rfl:=no 3 (by omega) (jH (fun x=>by have:=x;dsimp only at this;simp only [yF,xG] at k3 k4;omega));go_wp2;go_ret
  exact ⟨rfl,(Below.refl _ _).alloc (jB _) _⟩
 ·obtain rfl:=no 3 (by omega) (jH (fun x=>by have:=x;dsimp only at this;simp only [yF,xG] at k3 k4;omega));go_wp2;go_ret
  exact ⟨rfl,(Below.refl _ _).alloc (jB _) _⟩
 all_goals (
  by_cases m1:0<=b;rotate_left
  ·obtain rfl:=no 4 (by omega) (jH (fun x=>m1 (by have:=x;dsimp only at this;omega)));go_wp2;go_ret
   exact ⟨rfl,(Below.refl _ _).alloc (jB _) _⟩
  by_cases m2:b<=1048576;rotate_left
  ·obtain rfl:=no 4 (by omega) (jH (fun x=>m2 (by have:=x;dsimp only at this;omega)));go_wp2;go_ret
   exact ⟨rfl,(Below.refl _ _).alloc (jB _) _⟩
  by_cases m3:0<=l;rotate_left
  ·obtain rfl:=no 5 (by omega) (jH (fun x=>m3 (by have:=x;dsimp only at this;omega)));go_wp2;go_ret
   exact ⟨rfl,(Below.refl _ _).alloc (jB _) _⟩
  by_cases m4:l<=b;rotate_left
  ·obtain rfl:=no 5 (by omega) (jH (fun x=>m4 (by have:=x;dsimp only at this;omega)));go_wp2;go_ret
   exact ⟨rfl,(Below.refl _ _).alloc (jB _) _⟩
  cases m5:(b==0))
 ·obtain rfl:=no 4 (by omega) (jH (fun x=>by have:=x;dsimp only at this;simp only [yF,xG] at k3 k4 m5;omega));go_wp2;go_ret
  exact ⟨rfl,(Below.refl _ _).alloc (jB _) _⟩
 rotate_left 2
 ·obtain rfl:=no 4 (by omega) (jH (fun x=>by have:=x;dsimp only at this;simp only [yF,xG] at k3 k4 m5;omega));go_wp2;go_ret
  exact ⟨rfl,(Below.refl _ _).alloc (jB _) _⟩
 all_goals
  obtain rfl:=ok (okS_all.2 fun k hk=>by
   simp only [yF,xG] at k3 k4 m5;rcases eight hk with rfl|rfl|rfl|rfl|rfl|rfl|rfl|rfl
   ·exact jE (by dsimp only;omega)
   ·exact jE (by dsimp only;omega)
   ·exact h5
   ·exact jE (by dsimp only;omega)
   ·exact jE (by dsimp only;omega)
   ·exact jE (by dsimp only;omega)
   ·exact h6
   ·exact h7)
  go_wp2;go_ret
  exact ⟨rfl,(Below.refl _ _).alloc (jB _) _⟩
theorem ZB (S:Sp):Bys (enZ S):=by
 unfold enZ;split
 ·exact ZY (p:=pgS S) (VZ S 8)
 ·intro z hz;cases hz
theorem uT (S:Sp):(enZ S).length=if okS S then 256 else 0:=by
 unfold enZ;split
 ·exact ZX (p:=pgS S) (by show (preS S 8).length<=248;rw [QH S 8 (by omega)];decide)
 ·rfl
theorem encode_v (S:Sp) (w:World) (E:Int) (hE:enE S=E) (Z:List Int) (hZ:enZ S=Z) (n:Nat) (hn:Z.length=n):
  Calls prog 95 #[spV S] w fun e w'=>∃g c,e=.returned (.tuple #[.slice g n c,.int .i64 E])/\Own w.heap.size w' (.slice g n c) Z/\Below w.heap.size w w':=by
 have hc:=UY S;cases ho:okS S
 ·have e1:E=1:=by rw [<-hE];unfold enE;rw [ho];rfl
  have e2:Z=[]:=by rw [<-hZ];unfold enZ;rw [ho];rfl
  subst e1;subst e2;have e3:n=0:=hn.symm;subst e3;have HC:Hid _:=fun w1=>hc w1 1 hE
  clear hc hE hZ ho hn;dsimp only [spV] at HC ⊢;go_enter func95,ntmps95
  go_wp2_with fail
  refine (HC.out _).mono ?_;rintro e w1 ⟨rfl,hb⟩;have HB:Hid (Below w.heap.size w w1):=((Below.refl _ w).alloc (jB _) _).trans (hb.mono (by simp));clear hb;go_wp2;go_ret2
  exact ⟨_,_,rfl,World.ownsRow_nil _ _ _ _,HB.out⟩
 ·have e1:E=0:=by rw [<-hE];unfold enE;rw [ho];rfl
  have e2:Z=sealL (pgS S):=by rw [<-hZ];unfold enZ;rw [ho];rfl
  have e3:n=256:=by rw [<-hn,<-hZ,uT,ho];rfl
  subst e1;subst e2;subst e3;have HC:Hid (∀w1,Calls prog 142 #[spV S] w1 fun e w'=>e=.returned (.int .i64 0)/\Below w1.heap.size w1 w'):=fun w1=>hc w1 0 hE
  have HBD:Hid (∀B w1,Sl8 w1 B S->Calls prog 144 #[.pointer (some ⟨B,0,none⟩)] w1 fun e w'=>∃g c,e=.returned (.slice g 248 c)/\Own w1.heap.size w' (.slice g 248 c) (shS S 8)/\Below w1.heap.size w1 w'):=fun B w1 h=>body_any S B w1 h ho
  have HSE:Hid (∀g c w1,Row w1 g c (shS S 8)->Calls prog 143 #[.agg #[.int .i64 1,.int .i64 0,.int .i64 0,.slice g 248 c]] w1 fun e w'=>∃g' c',e=.returned (.tuple #[.slice g' 256 c',.int .i64 0])/\Own w1.heap.size w' (.slice g' 256 c') (sealL (pgS S))/\Below w1.heap.size w1 w'):=fun g c w1 hr=>by
   obtain ⟨q1,q2⟩:=seal_sh S;have hz:sealZ ⟨1,0,0,shS S 8⟩=sealL (pgS S):=by unfold sealZ;rw [if_pos q1,q2]
   have:=seal_v ⟨1,0,0,shS S 8⟩ g c w1 hr (show (1:Int)<=9223372036854775807 by decide) (show (0:Int)<=9223372036854775807 by decide) (show (0:Int)<=9223372036854775807 by decide) 0 q1 _ hz 256 (by rw [<-hZ,uT,ho];rfl);dsimp only [pgV] at this;rw [ZV S (k:=8) (by omega)] at this;exact this
  clear hc hE hZ ho hn;dsimp only [spV] at HC ⊢;go_enter func95,ntmps95
  go_wp2_with fail
  refine (HC.out _).mono ?_;rintro e w1 ⟨rfl,hb⟩;have HB:Hid (Below w.heap.size w w1):=((Below.refl _ w).alloc (jB _) _).trans (hb.mono (by simp));have h0:=(hb.cell (p:=⟨w.heap.size,0,none⟩) (by simp)).trans (JK w S 29).1;have h1:=(hb.cell (p:=⟨w.heap.size,1,none⟩) (by simp)).trans (JK w S 29).2.1;have h2:=(hb.cell (p:=⟨w.heap.size,2,none⟩) (by simp)).trans (JK w S 29).2.2.1;have h3:=(hb.cell (p:=⟨w.heap.size,3,none⟩) (by simp)).trans (JK w S 29).2.2.2.1;have h4:=(hb.cell (p:=⟨w.heap.size,4,none⟩) (by simp)).trans (JK w S 29).2.2.2.2.1;have h5:=(hb.cell (p:=⟨w.heap.size,5,none⟩) (by simp)).trans (JK w S 29).2.2.2.2.2.1;have h6:=(hb.cell (p:=⟨w.heap.size,6,none⟩) (by simp)).trans (JK w S 29).2.2.2.2.2.2.1;have h7:=(hb.cell (p:=⟨w.heap.size,7,none⟩) (by simp)).trans (JK w S 29).2.2.2.2.2.2.2;clear hb HC;go_wp2_with fail
  refine (HBD.out _ _ (JK w1 S 168)).mono ?_;rintro e w2 ⟨g,c,rfl,ho,hb⟩;have HB2:Hid (Below w.heap.size w w2):=(HB.out.alloc HB.out.size _).trans (hb.mono (jP HB.out.size (by simp)));have HR:Hid (Row w2 g c (shS S 8)):=(ho.row' (gB S 8)).2;clear hb ho h0 h1 h2 h3 h4 h5 h6 h7 HBD;go_wp2_with fail
  refine (HSE.out _ _ _ HR.out).mono ?_;rintro e w3 ⟨g',c',rfl,ho,hb⟩;have HB3:Hid (Below w.heap.size w w3):=HB2.out.trans (hb.mono HB2.out.size);have HO:Hid (Own w.heap.size w3 (.slice g' 256 c') (sealL (pgS S))):=ho.weaken HB2.out.size;clear hb ho;go_wp2;go_ret2
  exact ⟨_,_,rfl,HO.out,HB3.out⟩
end Go.Proofs.YtaijfhadecennaaGreat.Oct
