/- Part of a proof. -/
import Derived.Test.YtaijfhadecennabGreatRn
import Derived.Test.YtaijfhadecennabGreatZo
open Go.Proofs.Tryz
set_option maxHeartbeats 2000000
namespace Go.Proofs.YtaijfhadecennabGreat.Oct
open Go.RowKit
theorem noughts_v (b off cap n:Nat) (zs:List Int) (w:World) (h:Row w (some ⟨b,off,none⟩) cap zs) (hn:zs.length=n) (V:Bool) (hV:nouB zs=V):
  Calls prog 182 #[.slice (some ⟨b,off,none⟩) n cap] w fun e w'=>e=.returned (.bool V)/\w=w':=by
 subst hn;have hm:=jR h.2.1 h.2.2.1;unfold maxLen at hm;have HCE:Hid (∀i,i<zs.length->w.cell? ⟨b,off+i,none⟩=some (.int .u8 (zs.getD i 0))):=h.cells;have HBY:Hid (Bys zs):=h.1;have HV:Hid (nouB zs=V):=hV;clear hV h;go_enter func182,ntmps182
 go_wp2_with fail
 go_loop [7] (fun i=>∃k:Nat,k<=zs.length/\i=.int .i64 k/\Hid (∀j,j<k->zs.getD j 0=0)) (fun i=>zs.length-(intOf i).toNat)
 case atStart=>exact ⟨0,jW _,rfl,fun j hj=>by omega⟩
 case round=>
  obtain ⟨k,hk,rfl,HK⟩:=hrel;by_cases hlt:k<zs.length
  ·have hc:=HCE.out k hlt;obtain ⟨x,hx⟩:∃x,zs.getD k 0=x:=⟨_,rfl⟩;rw [hx] at hc;by_cases h0:x=0
   ·subst h0;have HX:Hid (zs.getD k 0=0):=hx;clear hx;go_wp2;go_round
    case rel=>exact ⟨k+1,by omega,by go_num,fun j hj=>by
     by_cases e:j=k
     ·rw [e];exact HX.out
     ·exact HK.out j (by omega)⟩
    case measure=>simp [intOf];omega
   ·have e:V=false:=by rw [<-HV.out];exact fS hlt (by rw [hx];exact h0)
    have h0b:(x !=0)=true:=by simpa using h0
    subst e;clear hx h0;go_wp2;go_ret
    exact ⟨rfl,rfl⟩
  ·have e:V=true:=by rw [<-HV.out];exact nouB_iff.2 fun j hj=>HK.out j (by omega)
   subst e;go_wp2;go_ret
   exact ⟨rfl,rfl⟩
structure Bod (w wr:World) (S:Sp) (B F k:Nat) (g:Option Addr) (c:Nat):Prop where
 own:Own w.heap.size wr (.slice g 248 c) (shS S k)
 sl:Sl8 wr B S
 fd:Fds wr F B
 bel:Below w.heap.size w wr
theorem kY {base:Nat} {w w1:World} {v:Value} {zs:List Int} (h:Own base w v zs) (k:Below w.heap.size w w1):Own base w1 v zs:=by
 obtain ⟨h1,h2|⟨g,cap,cur,e,hg,hc,r⟩⟩:=h
 ·exact ⟨h1,.inl h2⟩
 ·have hl:g<w.heap.size:=by
   by_cases hl:g<w.heap.size
   ·exact hl
   ·rw [Array.getElem?_eq_none (by omega)] at hc;cases hc
  exact ⟨h1,.inr ⟨g,cap,cur,e,hg,(k.block g hl).trans hc,r⟩⟩
theorem bod_step {w wr:World} {S:Sp} {B F k:Nat} {g:Option Addr} {c:Nat} (h:Bod w wr S B F k g c) (hok:okS S=true) (hk:k<8) (o:Obj):
  Calls prog 204 #[.slice g 248 c,.int .i64 (ofS k:Nat),.int .i64 (wdS k:Nat),.int .i64 (atS S k)] (wr.alloc o).drew fun e w'=>∃g' c',e=.returned (.tuple #[.slice g' 248 c',.bool true])/\Bod w w' S B F (k+1) g' c'/\Below (wr.alloc o).heap.size (wr.alloc o) w':=by
 have hl:=ZC S (k:=k) (by omega);have hb0:Below wr.heap.size wr (wr.alloc o).drew:=((Below.refl _ _).alloc (jB _) _).drew;have ho:=kY h.own hb0;obtain ⟨_,hr⟩:=ho.row' (fH S k);obtain ⟨q1,q2⟩:=shS_next hok hk
 have hx:atS S k<=9223372036854775807:=by
  have hf:=FE hok hk;unfold fitB at hf;have:=(jZ hf).2.1;omega
 have cp:=put_any g c (shS S k) (ofS k:Nat) (wdS k:Nat) (atS S k) _ hr (by omega) hx;rw [q1,q2,hl] at cp;refine cp.mono ?_;rintro e w' ⟨v,rfl,ho',hb'⟩;obtain ⟨g',c',rfl,_⟩:=ho'.row (fH S (k+1));rw [ZC S (k:=k+1) (by omega)] at ho';refine ⟨g',c',by rw [ZC S (k:=k+1) (by omega)],⟨ho'.weaken ?_,?_,?_,?_⟩,?_⟩
 ·exact jR h.bel.size (hb0.size)
 ·exact (h.sl.below hb0).below hb'
 ·exact (h.fd.below hb0).below hb'
 ·exact (h.bel.trans (hb0.mono h.bel.size)).trans (hb'.mono (jR h.bel.size hb0.size))
 ·exact ((Below.refl _ (wr.alloc o)).drew).trans hb'
theorem body_any (S:Sp) (B:Nat) (w:World) (h:Sl8 w B S) (hok:okS S=true):
  Calls prog 171 #[.pointer (some ⟨B,0,none⟩)] w fun e w'=>∃g c,e=.returned (.slice g 248 c)/\Own w.heap.size w' (.slice g 248 c) (shS S 8)/\Below w.heap.size w w':=by
 have HS:Hid (Sl8 w B S):=h;have HOK:Hid (okS S=true):=hok;clear h hok;obtain ⟨i0,hi0,hz0,hz1,hz2⟩:=info_parts info5;go_enter func171,ntmps171
 go_wp2_with (at_make;refine wpList_make_full _ rfl _ _ 22 rfl w.heap.size 5 i0 (.int .u8 0) 1 underlying22 hi0 hz0 hz1 .i64 .i64 _ _ 248 rfl rfl rfl rfl (by rw [hz2];omega) (by simp [maxLen]) (by simp) ?_;intro w1 hown1 hgrow1)
 have hb0:Below w.heap.size w w1:=(Below.refl _ _).grown hgrow1 (by simp) (by simp);have ho0:=JG hown1;refine (YU _ _).mono ?_;rintro e w2 ⟨rfl,hfd,hb,-⟩;have HB:Hid (Bod w w2 S B w1.heap.size 0 (some ⟨w.heap.size,0,none⟩) 248):=⟨kY ho0 hb,(HS.out.below hb0).below hb,hfd,hb0.trans (hb.mono hb0.size)⟩;clear hb hfd ho0 hb0 hown1 hgrow1;obtain ⟨F,hF⟩:∃F,w1.heap.size=F:=⟨_,rfl⟩;rw [hF] at HB ⊢;clear hF hi0 hz0 hz1 hz2;go_wp2_with fail
 go_loopw [3,4,11] (fun o a i wr=>∃(k:Nat) (g:Option Addr) (c:Nat),k<=8/\o=.slice g 248 c/\a=.int .i64 (ofS k:Nat)/\i=.int .i64 k/\Bod w wr S B F k g c) (fun _ _ i _=>8-(intOf i).toNat)
 case atStart=>exact ⟨0,_,_,jW _,rfl,rfl,rfl,HB.out⟩
 case round=>
  obtain ⟨k,g,c,hk,rfl,rfl,rfl,hbd⟩:=hrel;clear HB;by_cases hlt:k<8
  ·obtain ⟨c0,c1,c2⟩:=hbd.fd k hlt;have c3:=hbd.sl.at hlt;obtain ⟨fk,hfk⟩:∃fk,ff k=fk:=⟨_,rfl⟩;rw [hfk] at c2;have CP:Hid _:=bod_step hbd HOK.out hlt;have HN:Hid (ofS (k+1)=ofS k+wdS k):=ZO hlt;have hob:=ofS_bd hlt;have hB:B<wr.heap.size:=hbd.sl.lt;obtain ⟨q,hq⟩:∃q,wdS k=q:=⟨_,rfl⟩;obtain ⟨x,hx⟩:∃x,atS S k=x:=⟨_,rfl⟩;obtain ⟨p,hp⟩:∃p,ofS k=p:=⟨_,rfl⟩;rw [hq,hx,hp] at CP;rw [hq,hp] at HN hob;rw [hq] at c0;rw [hx] at c3;rw [hp];clear hbd hfk hq hx hp HOK HS;go_wp2_with fail
   go_region_held3 (fun u=>u.cell? ⟨wr.heap.size,0,none⟩=some (.int .i64 (q:Int))/\u.cell? ⟨wr.heap.size,1,none⟩=some (.pointer (some ⟨B,k,none⟩))/\u.cell? ⟨B,k,none⟩=some (.int .i64 x)) (go_keep) ((go_at_call 204;refine (CP.out _).mono ?_;rintro e w3 ⟨g',c',rfl,hbd3,hb3⟩;have HB3:Hid (Bod w w3 S B F (k+1) g' c'):=hbd3;have d0:w3.cell? ⟨wr.heap.size,0,none⟩=some (.int .i64 (q:Int)):=(hb3.cell (p:=⟨wr.heap.size,0,none⟩) (by simp)).trans (by simp);have d1:w3.cell? ⟨wr.heap.size,1,none⟩=some (.pointer (some ⟨B,k,none⟩)):=(hb3.cell (p:=⟨wr.heap.size,1,none⟩) (by simp)).trans (by simp);have d2:w3.cell? ⟨B,k,none⟩=some (.int .i64 x):=(hb3.cell (p:=⟨B,k,none⟩) (by simp;omega)).trans (by rw [World.cell?_alloc_lt _ _ _ hB];exact c3);clear hbd3 hb3))
   go_wp2;go_roundw
   case rel=>exact ⟨k+1,g',c',by omega,rfl,by rw [HN.out];go_num,by go_num,HB3.out⟩
   case measure=>simp [intOf];omega
  ·have hk8:k=8:=by omega
   subst hk8;have HO:Hid (Own w.heap.size wr (.slice g 248 c) (shS S 8)):=hbd.own;have HBE:Hid (Below w.heap.size w wr):=hbd.bel;clear hbd;go_wp2;go_ret
   exact ⟨_,_,rfl,HO.out,HBE.out⟩
def mixS (T:Sp) (k:Nat):Sp:=⟨if 0<k then T.g else 0,if 1<k then T.p else 0,if 2<k then T.r else 0,if 3<k then T.h else 0,if 4<k then T.b else 0,if 5<k then T.l else 0,if 6<k then T.s else 0,if 7<k then T.f else 0⟩
theorem sd_at (zs:List Int) {k:Nat} (hk:k<8):atS (sdL zs) k=getI zs (ofS k:Nat) (wdS k:Nat):=by
 rcases eight hk with rfl|rfl|rfl|rfl|rfl|rfl|rfl|rfl<;>rfl
def Sw8 (w:World) (B:Nat) (S:Sp):Prop:=Sl8 w B S/\∀k,k<8->w.frozen? ⟨B,k,none⟩=false
theorem Sw8.same {w w1:World} {B:Nat} {S:Sp} (h:Sw8 w B S) (k:w1.heap[B]?=w.heap[B]?):Sw8 w1 B S:=
 ⟨h.1.same k,fun i hi=>(World.frozen?_of_block k).trans (h.2 i hi)⟩
theorem QH (w:World) (S:Sp) (t:TypeId):Sw8 (w.alloc (.cells #[.int .i64 S.g,.int .i64 S.p,.int .i64 S.r,.int .i64 S.h,.int .i64 S.b,.int .i64 S.l,.int .i64 S.s,.int .i64 S.f] t)) w.heap.size S:=
 ⟨JC w S t,fun k hk=>by rcases eight hk with rfl|rfl|rfl|rfl|rfl|rfl|rfl|rfl<;>simp⟩
theorem Sw8.put {w:World} {B:Nat} {T:Sp} {k:Nat} (h:Sw8 w B (mixS T k)) (hk:k<8):Sw8 (w.setCell ⟨B,k,none⟩ (.int .i64 (atS T k))) B (mixS T (k+1)):=by
 have hc:=h.1.at hk;refine ⟨?_,fun i hi=>by rw [World.frozen?_setCell];exact h.2 i hi⟩
 have key:∀j,j<8->(w.setCell ⟨B,k,none⟩ (.int .i64 (atS T k))).cell? ⟨B,j,none⟩=some (.int .i64 (atS (mixS T (k+1)) j)):=by
  intro j hj;by_cases e:j=k
  ·subst e;rw [World.cell?_setCell_same _ _ _ hc];rcases eight hj with rfl|rfl|rfl|rfl|rfl|rfl|rfl|rfl<;>rfl
  ·rw [World.cell?_setCell_other _ _ _ _ (by intro e';simp only [Addr.mk.injEq] at e';omega),h.1.at hj]
   have:atS (mixS T k) j=atS (mixS T (k+1)) j:=by
    have st:∀(x:Int) (i:Nat),¬i=k->(if i<k then x else 0)=(if i<k+1 then x else 0):=fun x i hi=>by
     by_cases h1:i<k
     ·rw [if_pos h1,if_pos (by omega)]
     ·rw [if_neg h1,if_neg (by omega)]
    rcases eight hj with rfl|rfl|rfl|rfl|rfl|rfl|rfl|rfl
    all_goals exact st _ _ e
   rw [this]
 exact ⟨key 0 (by omega),key 1 (by omega),key 2 (by omega),key 3 (by omega),key 4 (by omega),key 5 (by omega),key 6 (by omega),key 7 (by omega)⟩
structure Rdg (w wr:World) (zs:List Int) (B F k:Nat):Prop where
 yes:∀j,j<k->getB zs (ofS j:Nat) (wdS j:Nat)=true
 sw:Sw8 wr B (mixS (sdL zs) k)
 fd:Fds wr F B
 bel:Below B w wr
 ne:B<F
def rdB (zs:List Int):Bool:=getB zs 0 8&&nouB (zs.drop 34)
theorem kT (B b off cap:Nat) (zs:List Int) (w:World) (h:Sw8 w B sp0) (hr:Row w (some ⟨b,off,none⟩) cap zs) (hl:zs.length=248) (hbB:b<B):
  Calls prog 144 #[.pointer (some ⟨B,0,none⟩),.slice (some ⟨b,off,none⟩) 248 cap] w fun e w'=>e=.returned (.bool (rdB zs))/\(rdB zs=true->Sw8 w' B (sdL zs))/\Below B w w':=by
 have HR:Hid (Row w (some ⟨b,off,none⟩) cap zs):=hr;have HW:Hid (Sw8 w B sp0):=h;have HLT:Hid (B<w.heap.size):=h.1.lt;have HL:Hid (zs.length=248):=hl;have HBB:Hid (b<B):=hbB;have hcap:=hr.2.1;have hmx:=hr.2.2.1;unfold maxLen at hmx;rw [hl] at hcap
 have HN:Hid (∀k,k<8->getB zs (ofS k:Nat) (wdS k:Nat)=false->rdB zs=false):=fun k hk hf=>by
  rcases eight hk with rfl|rfl|rfl|rfl|rfl|rfl|rfl|rfl
  ·show (getB zs 0 8&&nouB (zs.drop 34))=false;rw [show getB zs 0 8=false from hf];rfl
  all_goals
   rw [VL hr.1 (by decide) (by decide) (by rw [hl];decide)] at hf;cases hf
 have HY:Hid ((∀k,k<8->getB zs (ofS k:Nat) (wdS k:Nat)=true)->rdB zs=nouB (zs.drop 34)):=fun hh=>by
  show (getB zs 0 8&&nouB (zs.drop 34))=_;rw [show getB zs 0 8=true from hh 0 (by omega)];rfl
 obtain ⟨V,hV⟩:∃V,rdB zs=V:=⟨_,rfl⟩;rw [hV] at HN HY ⊢;clear h hr hl hbB hV;go_enter func144,ntmps144
 go_wp2_with fail
 refine (YU _ _).mono ?_;rintro e w2 ⟨rfl,hfd,hb,-⟩;have HC:Hid (Rdg w w2 zs B w.heap.size 0):=⟨fun j hj=>by omega,HW.out.same (hb.block B HLT.out),hfd,hb.mono (Nat.le_of_lt HLT.out),HLT.out⟩;clear hb hfd;obtain ⟨F,hF⟩:∃F,w.heap.size=F:=⟨_,rfl⟩;rw [hF] at HC HLT ⊢;clear hF HW;go_wp2_with fail
 go_loopw [5,13] (fun a i wr=>∃k:Nat,k<=8/\a=.int .i64 (ofS k:Nat)/\i=.int .i64 k/\Rdg w wr zs B F k) (fun _ i _=>8-(intOf i).toNat)
 case atStart=>exact ⟨0,jW _,rfl,rfl,HC.out⟩
 case round=>
  obtain ⟨k,hk,rfl,rfl,hrd⟩:=hrel;clear HC;by_cases hlt:k<8
  ·obtain ⟨c0,c1,c2⟩:=hrd.fd k hlt;have hc3:=hrd.sw.1.at hlt;have hz3:=hrd.sw.2 k hlt;have hB:B<wr.heap.size:=hrd.sw.1.lt;obtain ⟨fk,hfk⟩:∃fk,ff k=fk:=⟨_,rfl⟩;rw [hfk] at c2
   have CG:Hid (∀o:Obj,Calls prog 119 #[.slice (some ⟨b,off,none⟩) 248 cap,.int .i64 (ofS k:Nat),.int .i64 (wdS k:Nat)] (wr.alloc o) fun e w'=>e=.returned (.tuple #[.int .i64 (atS (sdL zs) k),.bool (getB zs (ofS k:Nat) (wdS k:Nat))])/\Below (wr.alloc o).heap.size (wr.alloc o) w'):=fun o=>by
    have:=vN _ _ _ (ofS k:Nat) (wdS k:Nat) _ ((HR.out.low HBB.out hrd.bel).below ((Below.refl _ _).alloc (jB _) o));rw [HL.out,<-sd_at zs hlt] at this;exact this
   have HX:Hid (∀(w3:World) (o:Obj),Below (wr.alloc o).heap.size (wr.alloc o) w3->getB zs (ofS k:Nat) (wdS k:Nat)=true->Rdg w (w3.setCell ⟨B,k,none⟩ (.int .i64 (atS (sdL zs) k))) zs B F (k+1)):=fun w3 o hb3 hg=>by
    have hb:Below wr.heap.size wr w3:=((Below.refl _ wr).alloc (jB _) o).trans (hb3.mono (by simp));refine ⟨fun j hj=>?_,(hrd.sw.same (hb.block B hB)).put hlt,(hrd.fd.below hb).same (Below.heap_setCell _ _ _ _ (by show F≠B;have:=hrd.ne;omega)),?_,hrd.ne⟩
    ·by_cases e:j=k
     ·rw [e];exact hg
     ·exact hrd.yes j (by omega)
    ·exact (hrd.bel.trans (hb.mono (Nat.le_of_lt hB))).setCell (p:=⟨B,k,none⟩) (jB _) _
   have HNX:Hid (ofS (k+1)=ofS k+wdS k):=ZO hlt;have HBL:Hid (Below B w wr):=hrd.bel;have hob:=ofS_bd hlt;obtain ⟨q,hq⟩:∃q,wdS k=q:=⟨_,rfl⟩;obtain ⟨x,hx⟩:∃x,atS (sdL zs) k=x:=⟨_,rfl⟩;obtain ⟨y,hy⟩:∃y,atS (mixS (sdL zs) k) k=y:=⟨_,rfl⟩;obtain ⟨p,hp⟩:∃p,ofS k=p:=⟨_,rfl⟩;rw [hy] at hc3;cases hg:getB zs (ofS k:Nat) (wdS k:Nat)
   ·have e:=HN.out k hlt hg;subst e;rw [hg,hq,hx,hp] at CG;rw [hq] at c0;rw [hp];clear hrd hfk hq hx hp HN HY HX hg HNX hy;go_wp2_with fail
    refine (CG.out _).mono ?_;rintro e w3 ⟨rfl,hb3⟩;have HB3:Hid (Below B w w3):=(HBL.out.trans (((Below.refl _ wr).alloc (jB _) _).mono (Nat.le_of_lt hB))).trans (hb3.mono (by simp;omega));clear hb3;go_wp2;go_ret
    exact ⟨rfl,(fun h=>by cases h),HB3.out⟩
   ·have HX':Hid (∀(w3:World) (o:Obj),Below (wr.alloc o).heap.size (wr.alloc o) w3->Rdg w (w3.setCell ⟨B,k,none⟩ (.int .i64 (atS (sdL zs) k))) zs B F (k+1)):=fun w3 o h=>HX.out w3 o h hg
    rw [hg,hq,hx,hp] at CG;rw [hx] at HX';rw [hq] at c0;rw [hq,hp] at hob HNX;rw [hp];clear hrd hfk hq hx hp hg HN HY HX hy HBL;go_wp2_with fail
    refine (CG.out _).mono ?_;rintro e w3 ⟨rfl,hb3⟩;have HR3:Hid (Rdg w (w3.setCell ⟨B,k,none⟩ (.int .i64 x)) zs B F (k+1)):=HX'.out w3 _ hb3;have d0:w3.cell? ⟨wr.heap.size,0,none⟩=some (.int .i64 (q:Int)):=(hb3.cell (p:=⟨wr.heap.size,0,none⟩) (by simp)).trans (by simp);have d1:w3.cell? ⟨wr.heap.size,1,none⟩=some (.pointer (some ⟨B,k,none⟩)):=(hb3.cell (p:=⟨wr.heap.size,1,none⟩) (by simp)).trans (by simp);have d2:w3.cell? ⟨B,k,none⟩=some (.int .i64 y):=(hb3.cell (p:=⟨B,k,none⟩) (by simp;omega)).trans (by rw [World.cell?_alloc_lt _ _ _ hB];exact hc3);have d3:w3.frozen? ⟨B,k,none⟩=false:=(hb3.frozen (p:=⟨B,k,none⟩) (by simp;omega)).trans ((((Below.refl _ wr).alloc (jB _) _).frozen (p:=⟨B,k,none⟩) hB).trans hz3);have d4:(w3.setCell ⟨B,k,none⟩ (.int .i64 x)).cell? ⟨wr.heap.size,0,none⟩=some (.int .i64 (q:Int)):=by rw [World.cell?_setCell_other _ _ _ _ (by intro e';simp only [Addr.mk.injEq] at e';omega)];exact d0
    clear hb3 HX';go_wp2_with fail
    go_roundw
    case rel=>exact ⟨k+1,by omega,by rw [HNX.out];go_num,by go_num,HR3.out⟩
    case measure=>simp [intOf];omega
  ·have hk8:k=8:=by omega
   subst hk8;have e:=HY.out hrd.yes;have HS:Hid (Sw8 wr B (sdL zs)):=hrd.sw;have HBL:Hid (Below B w wr):=hrd.bel;have hrr:=(HR.out.low HBB.out hrd.bel).drop' 34 (by rw [HL.out];decide);have C:=noughts_v b (off+34) (cap-34) 214 (zs.drop 34) wr hrr (by rw [qE,HL.out]) V e.symm;clear hrr hrd e HN HY;have e34:ofS 8=34:=rfl;rw [e34];clear e34;go_wp2_with fail
   refine C.mono ?_;clear C;rintro e w3 ⟨rfl,rfl⟩;go_wp2;go_ret
   exact ⟨rfl,(fun _=>HS.out),HBL.out⟩
theorem YL (S:Sp):Bys (enZ S):=by
 unfold enZ;split
 ·exact ZF (p:=pgS S) (UT S 8)
 ·intro z hz;cases hz
theorem ZU (S:Sp):(enZ S).length=if okS S then 256 else 0:=by
 unfold enZ;split
 ·exact ZE (p:=pgS S) (by show (preS S 8).length<=248;rw [JT S 8 (by omega)];decide)
 ·rfl
theorem GR (S:Sp) (w:World) (E:Int) (hE:enE S=E) (Z:List Int) (hZ:enZ S=Z) (n:Nat) (hn:Z.length=n):
  Calls prog 127 #[spV S] w fun e w'=>∃g c,e=.returned (.tuple #[.slice g n c,.int .i64 E])/\Own w.heap.size w' (.slice g n c) Z/\Below w.heap.size w w':=by
 have hc:=vV S;cases ho:okS S
 ·have e1:E=1:=by rw [<-hE];unfold enE;rw [ho];rfl
  have e2:Z=[]:=by rw [<-hZ];unfold enZ;rw [ho];rfl
  subst e1;subst e2;have e3:n=0:=hn.symm;subst e3;have HC:Hid _:=fun w1=>hc w1 1 hE
  clear hc hE hZ ho hn;dsimp only [spV] at HC ⊢;go_enter func127,ntmps127
  go_wp2_with fail
  refine (HC.out _).mono ?_;rintro e w1 ⟨rfl,hb⟩;have HB:Hid (Below w.heap.size w w1):=((Below.refl _ w).alloc (jB _) _).trans (hb.mono (by simp));clear hb;go_wp2;go_ret2
  exact ⟨_,_,rfl,World.ownsRow_nil _ _ _ _,HB.out⟩
 ·have e1:E=0:=by rw [<-hE];unfold enE;rw [ho];rfl
  have e2:Z=sealL (pgS S):=by rw [<-hZ];unfold enZ;rw [ho];rfl
  have e3:n=256:=by rw [<-hn,<-hZ,ZU,ho];rfl
  subst e1;subst e2;subst e3;have HC:Hid (∀w1,Calls prog 103 #[spV S] w1 fun e w'=>e=.returned (.int .i64 0)/\Below w1.heap.size w1 w'):=fun w1=>hc w1 0 hE
  have HBD:Hid (∀B w1,Sl8 w1 B S->Calls prog 171 #[.pointer (some ⟨B,0,none⟩)] w1 fun e w'=>∃g c,e=.returned (.slice g 248 c)/\Own w1.heap.size w' (.slice g 248 c) (shS S 8)/\Below w1.heap.size w1 w'):=fun B w1 h=>body_any S B w1 h ho
  have HSE:Hid (∀g c w1,Row w1 g c (shS S 8)->Calls prog 170 #[.agg #[.int .i64 1,.int .i64 0,.int .i64 0,.slice g 248 c]] w1 fun e w'=>∃g' c',e=.returned (.tuple #[.slice g' 256 c',.int .i64 0])/\Own w1.heap.size w' (.slice g' 256 c') (sealL (pgS S))/\Below w1.heap.size w1 w'):=fun g c w1 hr=>by
   obtain ⟨q1,q2⟩:=seal_sh S;have hz:sealZ ⟨1,0,0,shS S 8⟩=sealL (pgS S):=by unfold sealZ;rw [if_pos q1,q2]
   have:=seal_v ⟨1,0,0,shS S 8⟩ g c w1 hr (show (1:Int)<=9223372036854775807 by decide) (show (0:Int)<=9223372036854775807 by decide) (show (0:Int)<=9223372036854775807 by decide) 0 q1 _ hz 256 (by rw [<-hZ,ZU,ho];rfl);dsimp only [pgV] at this;rw [ZC S (k:=8) (by omega)] at this;exact this
  clear hc hE hZ ho hn;dsimp only [spV] at HC ⊢;go_enter func127,ntmps127
  go_wp2_with fail
  refine (HC.out _).mono ?_;rintro e w1 ⟨rfl,hb⟩;have HB:Hid (Below w.heap.size w w1):=((Below.refl _ w).alloc (jB _) _).trans (hb.mono (by simp));have h0:=(hb.cell (p:=⟨w.heap.size,0,none⟩) (by simp)).trans (JC w S 26).1;have h1:=(hb.cell (p:=⟨w.heap.size,1,none⟩) (by simp)).trans (JC w S 26).2.1;have h2:=(hb.cell (p:=⟨w.heap.size,2,none⟩) (by simp)).trans (JC w S 26).2.2.1;have h3:=(hb.cell (p:=⟨w.heap.size,3,none⟩) (by simp)).trans (JC w S 26).2.2.2.1;have h4:=(hb.cell (p:=⟨w.heap.size,4,none⟩) (by simp)).trans (JC w S 26).2.2.2.2.1;have h5:=(hb.cell (p:=⟨w.heap.size,5,none⟩) (by simp)).trans (JC w S 26).2.2.2.2.2.1;have h6:=(hb.cell (p:=⟨w.heap.size,6,none⟩) (by simp)).trans (JC w S 26).2.2.2.2.2.2.1;have h7:=(hb.cell (p:=⟨w.heap.size,7,none⟩) (by simp)).trans (JC w S 26).2.2.2.2.2.2.2;clear hb HC;go_wp2_with fail
  refine (HBD.out _ _ (JC w1 S 205)).mono ?_;rintro e w2 ⟨g,c,rfl,ho,hb⟩;have HB2:Hid (Below w.heap.size w w2):=(HB.out.alloc HB.out.size _).trans (hb.mono (jR HB.out.size (by simp)));have HR:Hid (Row w2 g c (shS S 8)):=(ho.row' (fH S 8)).2;clear hb ho h0 h1 h2 h3 h4 h5 h6 h7 HBD;go_wp2_with fail
  refine (HSE.out _ _ _ HR.out).mono ?_;rintro e w3 ⟨g',c',rfl,ho,hb⟩;have HB3:Hid (Below w.heap.size w w3):=HB2.out.trans (hb.mono HB2.out.size);have HO:Hid (Own w.heap.size w3 (.slice g' 256 c') (sealL (pgS S))):=ho.weaken HB2.out.size;clear hb ho;go_wp2;go_ret2
  exact ⟨_,_,rfl,HO.out,HB3.out⟩
end Go.Proofs.YtaijfhadecennabGreat.Oct
