/- Part of a proof. -/
import Derived.Test.YtaijfhadecennabGreatUi
import Derived.Test.YtaijfhadecennabGreatRn
import Derived.Test.YtaijfhadecennabGreatR
import Derived.Test.YtaijfhadecennabGreatZo
open Go.Proofs.Tryz
set_option maxHeartbeats 4000000
namespace Go.Proofs.YtaijfhadecennabGreat.Oct
open Go.RowKit
theorem de_no {zs:List Int} (h:opE zs≠0):deE zs=opE zs/\deS zs=sp0:=by
 have e:deE zs=opE zs:=by unfold deE;rw [if_neg h]
 refine ⟨e,?_⟩;unfold deS;rw [if_neg (by rw [e];exact h)]
theorem de_bad {zs:List Int} (h:opE zs=0) (hB:deB (opP zs)=false):deE zs=4/\deS zs=sp0:=by
 have e:deE zs=4:=by unfold deE;rw [if_pos h,hB];rfl
 refine ⟨e,?_⟩;unfold deS;rw [if_neg (by rw [e];decide)]
theorem de_good {zs:List Int} (h:opE zs=0) (hB:deB (opP zs)=true):deE zs=0/\deS zs=sdL (opP zs).body:=by
 have e:deE zs=0:=by unfold deE;rw [if_pos h,hB];rfl
 refine ⟨e,?_⟩;unfold deS;rw [if_pos e]
theorem ok_read {zs:List Int} (h:okS (sdL zs)=true):getB zs 0 8=true:=by
 have hg:=(YS h).1;cases hb:getB zs 0 8
 ·exfalso
  have e:getI zs 0 8=0:=by
   unfold getB at hb;unfold getI;split at hb
   ·rename_i hi
    rw [if_pos hi];unfold capB at hb;have:=of_decide_eq_false hb;exact (FN (by omega)).1
   ·rename_i hi
    rw [if_neg hi]
  have:(sdL zs).g=0:=e;omega
 ·rfl
theorem deB_split (P:Pg):deB P=(decide (P.kind=1)&&decide (P.level=0)&&decide (P.count=0)&&rdB P.body&&okS (sdL P.body)):=by
 unfold deB rdB;by_cases h1:P.kind=1<;>by_cases h2:P.level=0<;>by_cases h3:P.count=0<;>simp [h1,h2,h3]
 cases h4:okS (sdL P.body)
 ·simp
 ·rw [ok_read h4];simp
def wr8 (w:World) (B:Nat) (T:Sp):World:=(((((((w.setCell ⟨B,0,none⟩ (.int .i64 T.g)).setCell ⟨B,1,none⟩ (.int .i64 T.p)).setCell ⟨B,2,none⟩ (.int .i64 T.r)).setCell ⟨B,3,none⟩ (.int .i64 T.h)).setCell ⟨B,4,none⟩ (.int .i64 T.b)).setCell ⟨B,5,none⟩ (.int .i64 T.l)).setCell ⟨B,6,none⟩ (.int .i64 T.s)).setCell ⟨B,7,none⟩ (.int .i64 T.f)
theorem sl_o {w:World} {B i j:Nat} {u v:Value} (h:w.cell? ⟨B,i,none⟩=some u) (e:j≠i):(w.setCell ⟨B,j,none⟩ v).cell? ⟨B,i,none⟩=some u:=by
 rw [World.cell?_setCell_other _ _ _ _ (fun q=>e (by simp only [Addr.mk.injEq] at q;omega)),h]
theorem sl_s {w:World} {B i:Nat} {u v:Value} (h:w.cell? ⟨B,i,none⟩=some u):(w.setCell ⟨B,i,none⟩ v).cell? ⟨B,i,none⟩=some v:=World.cell?_setCell_same _ _ _ h
theorem XK {w:World} {B:Nat} {S:Sp} (h:Sl8 w B S) (T:Sp):Sl8 (wr8 w B T) B T:=by
 obtain ⟨h0,h1,h2,h3,h4,h5,h6,h7⟩:=h;unfold wr8;exact ⟨sl_o (sl_o (sl_o (sl_o (sl_o (sl_o (sl_o (sl_s h0) (by decide)) (by decide)) (by decide)) (by decide)) (by decide)) (by decide)) (by decide),sl_o (sl_o (sl_o (sl_o (sl_o (sl_o (sl_s (sl_o h1 (by decide))) (by decide)) (by decide)) (by decide)) (by decide)) (by decide)) (by decide),sl_o (sl_o (sl_o (sl_o (sl_o (sl_s (sl_o (sl_o h2 (by decide)) (by decide))) (by decide)) (by decide)) (by decide)) (by decide)) (by decide),sl_o (sl_o (sl_o (sl_o (sl_s (sl_o (sl_o (sl_o h3 (by decide)) (by decide)) (by decide))) (by decide)) (by decide)) (by decide)) (by decide),sl_o (sl_o (sl_o (sl_s (sl_o (sl_o (sl_o (sl_o h4 (by decide)) (by decide)) (by decide)) (by decide))) (by decide)) (by decide)) (by decide),sl_o (sl_o (sl_s (sl_o (sl_o (sl_o (sl_o (sl_o h5 (by decide)) (by decide)) (by decide)) (by decide)) (by decide))) (by decide)) (by decide),sl_o (sl_s (sl_o (sl_o (sl_o (sl_o (sl_o (sl_o h6 (by decide)) (by decide)) (by decide)) (by decide)) (by decide)) (by decide))) (by decide),sl_s (sl_o (sl_o (sl_o (sl_o (sl_o (sl_o (sl_o h7 (by decide)) (by decide)) (by decide)) (by decide)) (by decide)) (by decide)) (by decide))⟩
theorem Sw8.below {w w1:World} {B:Nat} {S:Sp} (h:Sw8 w B S) (k:Below w.heap.size w w1):Sw8 w1 B S:=h.same (k.block B h.1.lt)
theorem Sw8.alloc {w:World} {B:Nat} {S:Sp} (h:Sw8 w B S) (o:Obj):Sw8 (w.alloc o) B S:=h.below ((Below.refl _ _).alloc (jB _) o)
theorem JA {w0 w:World} {B C:Nat} (h:Below C w0 w) (hC:C<=B) (T:Sp):Below C w0 (wr8 w B T):=
 (((((((h.setCell (p:=⟨B,0,none⟩) hC _).setCell (p:=⟨B,1,none⟩) hC _).setCell (p:=⟨B,2,none⟩) hC _).setCell (p:=⟨B,3,none⟩) hC _).setCell (p:=⟨B,4,none⟩) hC _).setCell (p:=⟨B,5,none⟩) hC _).setCell (p:=⟨B,6,none⟩) hC _).setCell (p:=⟨B,7,none⟩) hC _
theorem dec_err (a:Option Addr) (cap n:Nat) (w:World) (P:Pg) (E:Int)
  (C:∀o:Obj,Calls prog 118 #[.slice a n cap] (w.alloc o) fun e w'=>∃g c,e=.returned (.tuple #[pgV P g c,.int .i64 E])/\Own (w.alloc o).heap.size w' (.slice g P.body.length c) P.body/\Below (w.alloc o).heap.size (w.alloc o) w') (hE:(E !=0)=true):
  Calls prog 102 #[.slice a n cap] w fun e w'=>e=.returned (.tuple #[spV sp0,.int .i64 E])/\Below w.heap.size w w':=by
 dsimp only [spV,sp0];dsimp only [pgV] at C;go_enter func102,ntmps102
 go_wp2_with fail
 refine (C _).mono ?_;clear C;rintro e w1 ⟨g,c,rfl,ho,hb⟩;have q:Sw8 w1 w.heap.size sp0:=(QH w sp0 26).same (hb.block _ (by simp));have HB:Hid (Below w.heap.size w w1):=((Below.refl _ w).alloc (jB _) _).trans (hb.mono (by simp));have HQ:Hid (Sl8 (w1.alloc (.cells #[.int .i64 P.kind,.int .i64 P.level,.int .i64 P.count,.slice g P.body.length c] 115)) w.heap.size sp0):=(q.alloc _).1;have q':=q.alloc (.cells #[.int .i64 P.kind,.int .i64 P.level,.int .i64 P.count,.slice g P.body.length c] 115);clear hb ho q;obtain ⟨⟨q0,q1,q2,q3,q4,q5,q6,q7⟩,qf⟩:=q';have f0:=qf 0 (by omega);have f1:=qf 1 (by omega);have f2:=qf 2 (by omega);have f3:=qf 3 (by omega);have f4:=qf 4 (by omega);have f5:=qf 5 (by omega);have f6:=qf 6 (by omega);have f7:=qf 7 (by omega);clear qf;dsimp only [sp0] at q0 q1 q2 q3 q4 q5 q6 q7;go_wp2;clear q0 q1 q2 q3 q4 q5 q6 q7 f0 f1 f2 f3 f4 f5 f6 f7;obtain ⟨q0,q1,q2,q3,q4,q5,q6,q7⟩:=XK HQ.out sp0;unfold wr8 at q0 q1 q2 q3 q4 q5 q6 q7
 try dsimp only [sp0] at q0 q1 q2 q3 q4 q5 q6 q7
 refine bodyPost_ret (v:=.tuple #[spV sp0,.int .i64 E]) ?_ rfl ⟨rfl,JA (HB.out.alloc HB.out.size _) (jB _) sp0⟩;simp [results,Tryz.results102,go_sem,spV,sp0,q0,q1,q2,q3,q4,q5,q6,q7]
theorem uN (a:Option Addr) (cap n:Nat) (w:World) (P:Pg) (E:Int)
  (C:∀o:Obj,Calls prog 118 #[.slice a n cap] (w.alloc o) fun e w'=>∃g c,e=.returned (.tuple #[pgV P g c,.int .i64 E])/\Own (w.alloc o).heap.size w' (.slice g P.body.length c) P.body/\Below (w.alloc o).heap.size (w.alloc o) w') (hE:E=0) (hz:(P.kind !=1)=true\/((P.kind !=1)=false/\(P.level !=0)=true)\/(P.kind !=1)=false/\(P.level !=0)=false/\(P.count !=0)=true):
  Calls prog 102 #[.slice a n cap] w fun e w'=>e=.returned (.tuple #[spV sp0,.int .i64 4])/\Below w.heap.size w w':=by
 subst hE;dsimp only [spV,sp0];dsimp only [pgV] at C;go_enter func102,ntmps102
 go_wp2_with fail
 refine (C _).mono ?_;clear C;rintro e w1 ⟨g,c,rfl,ho,hb⟩;have q:Sw8 w1 w.heap.size sp0:=(QH w sp0 26).same (hb.block _ (by simp));have HB:Hid (Below w.heap.size w w1):=((Below.refl _ w).alloc (jB _) _).trans (hb.mono (by simp));have HQ:Hid (Sl8 ((w1.alloc (.cells #[.int .i64 P.kind,.int .i64 P.level,.int .i64 P.count,.slice g P.body.length c] 115)).alloc (.cells #[.int .i64 0,.int .i64 0,.int .i64 0,.int .i64 0,.int .i64 0,.int .i64 0,.int .i64 0,.int .i64 0] 205)) w.heap.size sp0):=((q.alloc _).alloc _).1;have q':=(q.alloc (.cells #[.int .i64 P.kind,.int .i64 P.level,.int .i64 P.count,.slice g P.body.length c] 115)).alloc (.cells #[.int .i64 0,.int .i64 0,.int .i64 0,.int .i64 0,.int .i64 0,.int .i64 0,.int .i64 0,.int .i64 0] 205);clear hb ho q;obtain ⟨⟨q0,q1,q2,q3,q4,q5,q6,q7⟩,qf⟩:=q';have f0:=qf 0 (by omega);have f1:=qf 1 (by omega);have f2:=qf 2 (by omega);have f3:=qf 3 (by omega);have f4:=qf 4 (by omega);have f5:=qf 5 (by omega);have f6:=qf 6 (by omega);have f7:=qf 7 (by omega);clear qf;dsimp only [sp0] at q0 q1 q2 q3 q4 q5 q6 q7;rcases hz with hk|⟨hk,hl⟩|⟨hk,hl,hc⟩
 all_goals (
  go_wp2;clear q0 q1 q2 q3 q4 q5 q6 q7 f0 f1 f2 f3 f4 f5 f6 f7;obtain ⟨q0,q1,q2,q3,q4,q5,q6,q7⟩:=XK HQ.out sp0;unfold wr8 at q0 q1 q2 q3 q4 q5 q6 q7
  try dsimp only [sp0] at q0 q1 q2 q3 q4 q5 q6 q7
  refine bodyPost_ret (v:=.tuple #[spV sp0,.int .i64 4]) ?_ rfl ⟨rfl,JA ((HB.out.alloc HB.out.size _).alloc (jR HB.out.size (by simp)) _) (jB _) sp0⟩;simp [results,Tryz.results102,go_sem,spV,sp0,q0,q1,q2,q3,q4,q5,q6,q7])
theorem dec_read (a:Option Addr) (cap n:Nat) (w:World) (P:Pg) (E:Int)
  (C:∀o:Obj,Calls prog 118 #[.slice a n cap] (w.alloc o) fun e w'=>∃g c,e=.returned (.tuple #[pgV P g c,.int .i64 E])/\Own (w.alloc o).heap.size w' (.slice g P.body.length c) P.body/\Below (w.alloc o).heap.size (w.alloc o) w') (hE:E=0) (hk:(P.kind !=1)=false) (hl:(P.level !=0)=false) (hc:(P.count !=0)=false) (hlen:P.body.length=248) (hbys:Bys P.body) (hrd:rdB P.body=false):
  Calls prog 102 #[.slice a n cap] w fun e w'=>e=.returned (.tuple #[spV sp0,.int .i64 4])/\Below w.heap.size w w':=by
 subst hE;dsimp only [spV,sp0];dsimp only [pgV] at C;go_enter func102,ntmps102
 go_wp2_with fail
 refine (C _).mono ?_;clear C;rintro e w1 ⟨g,c,rfl,ho,hb⟩;have q:Sw8 w1 w.heap.size sp0:=(QH w sp0 26).same (hb.block _ (by simp));have HB:Hid (Below w.heap.size w w1):=((Below.refl _ w).alloc (jB _) _).trans (hb.mono (by simp));have HQ:Hid (Sw8 ((w1.alloc (.cells #[.int .i64 P.kind,.int .i64 P.level,.int .i64 P.count,.slice g P.body.length c] 115)).alloc (.cells #[.int .i64 0,.int .i64 0,.int .i64 0,.int .i64 0,.int .i64 0,.int .i64 0,.int .i64 0,.int .i64 0] 205)) w.heap.size sp0):=(q.alloc _).alloc _;have HW:Hid (Below w.heap.size w ((w1.alloc (.cells #[.int .i64 P.kind,.int .i64 P.level,.int .i64 P.count,.slice g P.body.length c] 115)).alloc (.cells #[.int .i64 0,.int .i64 0,.int .i64 0,.int .i64 0,.int .i64 0,.int .i64 0,.int .i64 0,.int .i64 0] 205))):=(HB.out.alloc HB.out.size _).alloc (jR HB.out.size (by simp)) _;have hqlt:=q.1.lt;obtain ⟨g0,c0,eg,_,_,_,_⟩:=own_at ho 0 (by rw [hlen];decide);simp only [Value.slice.injEq,true_and] at eg;obtain ⟨rfl,rfl⟩:=eg;have hg:=(World.ownsRow.lt ho g0 rfl).2;have hr:Row ((w1.alloc (.cells #[.int .i64 P.kind,.int .i64 P.level,.int .i64 P.count,.slice (some ⟨g0,0,none⟩) P.body.length c] 115)).alloc (.cells #[.int .i64 0,.int .i64 0,.int .i64 0,.int .i64 0,.int .i64 0,.int .i64 0,.int .i64 0,.int .i64 0] 205)) (some ⟨g0,0,none⟩) c P.body:=(ho.row' hbys).2.below (((Below.refl _ w1).alloc (jB _) _).alloc (by simp) _)
 have hs:Sw8 ((w1.alloc (.cells #[.int .i64 P.kind,.int .i64 P.level,.int .i64 P.count,.slice (some ⟨g0,0,none⟩) P.body.length c] 115)).alloc (.cells #[.int .i64 0,.int .i64 0,.int .i64 0,.int .i64 0,.int .i64 0,.int .i64 0,.int .i64 0,.int .i64 0] 205)) (w1.heap.size+1) sp0:=by
  have:=QH (w1.alloc (.cells #[.int .i64 P.kind,.int .i64 P.level,.int .i64 P.count,.slice (some ⟨g0,0,none⟩) P.body.length c] 115)) sp0 205
  simpa [sp0] using this
 have CR:=kT (w1.heap.size+1) g0 0 c P.body _ hs hr hlen (by omega);rw [hlen] at CR HQ HW ⊢;clear hs hr ho hb hg q;go_wp2_with fail
 refine CR.mono ?_;clear CR;rintro e w3 ⟨rfl,-,hb3⟩;rw [hrd];have q':Sw8 w3 w.heap.size sp0:=HQ.out.same (hb3.block _ (by omega));have HB3:Hid (Below w.heap.size w w3):=HW.out.trans (hb3.mono (by omega));clear HQ hb3;have HQ:Hid (Sl8 w3 w.heap.size sp0):=q'.1;obtain ⟨⟨q0,q1,q2,q3,q4,q5,q6,q7⟩,qf⟩:=q';have f0:=qf 0 (by omega);have f1:=qf 1 (by omega);have f2:=qf 2 (by omega);have f3:=qf 3 (by omega);have f4:=qf 4 (by omega);have f5:=qf 5 (by omega);have f6:=qf 6 (by omega);have f7:=qf 7 (by omega);clear qf;dsimp only [sp0] at q0 q1 q2 q3 q4 q5 q6 q7;go_wp2;clear q0 q1 q2 q3 q4 q5 q6 q7 f0 f1 f2 f3 f4 f5 f6 f7;obtain ⟨q0,q1,q2,q3,q4,q5,q6,q7⟩:=XK HQ.out sp0;unfold wr8 at q0 q1 q2 q3 q4 q5 q6 q7
 try dsimp only [sp0] at q0 q1 q2 q3 q4 q5 q6 q7
 refine bodyPost_ret (v:=.tuple #[spV sp0,.int .i64 4]) ?_ rfl ⟨rfl,JA HB3.out (jB _) sp0⟩;simp [results,Tryz.results102,go_sem,spV,sp0,q0,q1,q2,q3,q4,q5,q6,q7]
theorem dec_fin (a:Option Addr) (cap n:Nat) (w:World) (P:Pg) (E:Int)
  (C:∀o:Obj,Calls prog 118 #[.slice a n cap] (w.alloc o) fun e w'=>∃g c,e=.returned (.tuple #[pgV P g c,.int .i64 E])/\Own (w.alloc o).heap.size w' (.slice g P.body.length c) P.body/\Below (w.alloc o).heap.size (w.alloc o) w') (hE:E=0) (hk:(P.kind !=1)=false) (hl:(P.level !=0)=false) (hc:(P.count !=0)=false) (hlen:P.body.length=248) (hbys:Bys P.body) (hrd:rdB P.body=true) (x:Int) (hEN:enE (sdL P.body)=x) (T:Sp) (hT:sdL P.body=T) (V:Sp) (R:Int) (h2:x=1/\V=sp0/\R=4\/x=0/\V=T/\R=0):
  Calls prog 102 #[.slice a n cap] w fun e w'=>e=.returned (.tuple #[spV V,.int .i64 R])/\Below w.heap.size w w':=by
 subst hE;dsimp only [spV];dsimp only [pgV] at C;go_enter func102,ntmps102
 go_wp2_with fail
 refine (C _).mono ?_;clear C;rintro e w1 ⟨g,c,rfl,ho,hb⟩;have q:Sw8 w1 w.heap.size sp0:=(QH w sp0 26).same (hb.block _ (by simp));have HB:Hid (Below w.heap.size w w1):=((Below.refl _ w).alloc (jB _) _).trans (hb.mono (by simp));have HQ:Hid (Sw8 ((w1.alloc (.cells #[.int .i64 P.kind,.int .i64 P.level,.int .i64 P.count,.slice g P.body.length c] 115)).alloc (.cells #[.int .i64 0,.int .i64 0,.int .i64 0,.int .i64 0,.int .i64 0,.int .i64 0,.int .i64 0,.int .i64 0] 205)) w.heap.size sp0):=(q.alloc _).alloc _;have HW:Hid (Below w.heap.size w ((w1.alloc (.cells #[.int .i64 P.kind,.int .i64 P.level,.int .i64 P.count,.slice g P.body.length c] 115)).alloc (.cells #[.int .i64 0,.int .i64 0,.int .i64 0,.int .i64 0,.int .i64 0,.int .i64 0,.int .i64 0,.int .i64 0] 205))):=(HB.out.alloc HB.out.size _).alloc (jR HB.out.size (by simp)) _;have hqlt:=q.1.lt;obtain ⟨g0,c0,eg,_,_,_,_⟩:=own_at ho 0 (by rw [hlen];decide);simp only [Value.slice.injEq,true_and] at eg;obtain ⟨rfl,rfl⟩:=eg;have hg:=(World.ownsRow.lt ho g0 rfl).2;have hr:Row ((w1.alloc (.cells #[.int .i64 P.kind,.int .i64 P.level,.int .i64 P.count,.slice (some ⟨g0,0,none⟩) P.body.length c] 115)).alloc (.cells #[.int .i64 0,.int .i64 0,.int .i64 0,.int .i64 0,.int .i64 0,.int .i64 0,.int .i64 0,.int .i64 0] 205)) (some ⟨g0,0,none⟩) c P.body:=(ho.row' hbys).2.below (((Below.refl _ w1).alloc (jB _) _).alloc (by simp) _)
 have hs:Sw8 ((w1.alloc (.cells #[.int .i64 P.kind,.int .i64 P.level,.int .i64 P.count,.slice (some ⟨g0,0,none⟩) P.body.length c] 115)).alloc (.cells #[.int .i64 0,.int .i64 0,.int .i64 0,.int .i64 0,.int .i64 0,.int .i64 0,.int .i64 0,.int .i64 0] 205)) (w1.heap.size+1) sp0:=by
  have:=QH (w1.alloc (.cells #[.int .i64 P.kind,.int .i64 P.level,.int .i64 P.count,.slice (some ⟨g0,0,none⟩) P.body.length c] 115)) sp0 205
  simpa [sp0] using this
 have CR:=kT (w1.heap.size+1) g0 0 c P.body _ hs hr hlen (by omega);rw [hlen] at CR HQ HW ⊢;clear hs hr ho hb hg q;go_wp2_with fail
 refine CR.mono ?_;clear CR;rintro e w3 ⟨rfl,hs3,hb3⟩;have hs3:=hs3 hrd;rw [hrd];have q':Sw8 w3 w.heap.size sp0:=HQ.out.same (hb3.block _ (by omega));have HB3:Hid (Below w.heap.size w w3):=HW.out.trans (hb3.mono (by omega));clear HQ hb3;have CK:=vV (sdL P.body) w3 _ rfl;rw [hEN] at CK;have HS3:Hid (Sl8 w3 (w1.heap.size+1) (sdL P.body)):=hs3.1;have HQ3:Hid (Sw8 w3 w.heap.size sp0):=q';rw [hT] at CK HS3;clear hs3 q' hEN hrd;dsimp only [spV] at CK;obtain ⟨k0,k1,k2,k3,k4,k5,k6,k7⟩:=HS3.out;go_wp2_with fail
 refine CK.mono ?_;clear CK;rintro e w4 ⟨rfl,hb4⟩;have hs4:=HS3.out.below hb4;have q':=HQ3.out.below hb4;have HB4:Hid (Below w.heap.size w w4):=HB3.out.trans (hb4.mono HB3.out.size);clear hb4 k0 k1 k2 k3 k4 k5 k6 k7;have HQ:Hid (Sl8 w4 w.heap.size sp0):=q'.1;obtain ⟨k0,k1,k2,k3,k4,k5,k6,k7⟩:=hs4;obtain ⟨⟨q0,q1,q2,q3,q4,q5,q6,q7⟩,qf⟩:=q';have f0:=qf 0 (by omega);have f1:=qf 1 (by omega);have f2:=qf 2 (by omega);have f3:=qf 3 (by omega);have f4:=qf 4 (by omega);have f5:=qf 5 (by omega);have f6:=qf 6 (by omega);have f7:=qf 7 (by omega);clear qf;dsimp only [sp0] at q0 q1 q2 q3 q4 q5 q6 q7;clear hT;rcases h2 with ⟨rfl,rfl,rfl⟩|⟨rfl,rfl,rfl⟩
 ·go_wp2;clear k0 k1 k2 k3 k4 k5 k6 k7;clear q0 q1 q2 q3 q4 q5 q6 q7 f0 f1 f2 f3 f4 f5 f6 f7;obtain ⟨q0,q1,q2,q3,q4,q5,q6,q7⟩:=XK HQ.out sp0;unfold wr8 at q0 q1 q2 q3 q4 q5 q6 q7
  try dsimp only [sp0] at q0 q1 q2 q3 q4 q5 q6 q7
  refine bodyPost_ret (v:=.tuple #[spV sp0,.int .i64 4]) ?_ rfl ⟨rfl,JA HB4.out (jB _) sp0⟩;simp [results,Tryz.results102,go_sem,spV,sp0,q0,q1,q2,q3,q4,q5,q6,q7]
 ·go_wp2;clear k0 k1 k2 k3 k4 k5 k6 k7;clear q0 q1 q2 q3 q4 q5 q6 q7 f0 f1 f2 f3 f4 f5 f6 f7;obtain ⟨q0,q1,q2,q3,q4,q5,q6,q7⟩:=XK HQ.out V;unfold wr8 at q0 q1 q2 q3 q4 q5 q6 q7
  try dsimp only [sp0] at q0 q1 q2 q3 q4 q5 q6 q7
  refine bodyPost_ret (v:=.tuple #[spV V,.int .i64 0]) ?_ rfl ⟨rfl,JA HB4.out (jB _) V⟩;simp [results,Tryz.results102,go_sem,spV,q0,q1,q2,q3,q4,q5,q6,q7]
theorem decode_v (a:Option Addr) (cap n:Nat) (zs:List Int) (w:World) (h:Row w a cap zs) (hn:zs.length=n) (T:Sp) (hT:deS zs=T) (E:Int) (hE:deE zs=E):
  Calls prog 102 #[.slice a n cap] w fun e w'=>e=.returned (.tuple #[spV T,.int .i64 E])/\Below w.heap.size w w':=by
 subst hT hE;have C:∀o:Obj,Calls prog 118 #[.slice a n cap] (w.alloc o) fun e w'=>∃g c,e=.returned (.tuple #[pgV (opP zs) g c,.int .i64 (opE zs)])/\Own (w.alloc o).heap.size w' (.slice g (opP zs).body.length c) (opP zs).body/\Below (w.alloc o).heap.size (w.alloc o) w':=fun o=>open_v a cap n zs _ (h.below ((Below.refl _ w).alloc (jB _) o)) hn _ rfl _ rfl
 by_cases ho:opE zs=0
 ·have hlen:(opP zs).body.length=248:=(QN h.1 ho).2.2.2;have hbys:Bys (opP zs).body:=YD h.1;have hd:=deB_split (opP zs);have bad:deB (opP zs)=false->(deS zs=sp0/\deE zs=4):=fun hB=>⟨(de_bad ho hB).2,(de_bad ho hB).1⟩
  by_cases hk:(opP zs).kind=1;rotate_left
  ·obtain ⟨e1,e2⟩:=bad (by rw [hd];simp [hk]);rw [e1,e2];exact uN a cap n w _ _ C ho (.inl (by simpa using hk))
  by_cases hl:(opP zs).level=0;rotate_left
  ·obtain ⟨e1,e2⟩:=bad (by rw [hd];simp [hl]);rw [e1,e2];exact uN a cap n w _ _ C ho (.inr (.inl ⟨by simpa using hk,by simpa using hl⟩))
  by_cases hc:(opP zs).count=0;rotate_left
  ·obtain ⟨e1,e2⟩:=bad (by rw [hd];simp [hc]);rw [e1,e2];exact uN a cap n w _ _ C ho (.inr (.inr ⟨by simpa using hk,by simpa using hl,by simpa using hc⟩))
  cases hr:rdB (opP zs).body
  ·obtain ⟨e1,e2⟩:=bad (by rw [hd,hr];simp);rw [e1,e2];exact dec_read a cap n w _ _ C ho (by simpa using hk) (by simpa using hl) (by simpa using hc) hlen hbys hr
  cases hok:okS (sdL (opP zs).body)
  ·obtain ⟨e1,e2⟩:=bad (by rw [hd,hok];simp);rw [e1,e2];exact dec_fin a cap n w _ _ C ho (by simpa using hk) (by simpa using hl) (by simpa using hc) hlen hbys hr 1 (by unfold enE;rw [hok];rfl) _ rfl _ _ (.inl ⟨rfl,rfl,rfl⟩)
  ·obtain ⟨e1,e2⟩:=de_good ho (by rw [hd,hok,hr];simp [hk,hl,hc]);rw [e1,e2];exact dec_fin a cap n w _ _ C ho (by simpa using hk) (by simpa using hl) (by simpa using hc) hlen hbys hr 0 (by unfold enE;rw [hok];rfl) _ rfl _ _ (.inr ⟨rfl,rfl,rfl⟩)
 ·obtain ⟨e1,e2⟩:=de_no ho;rw [e1,e2];exact dec_err a cap n w _ _ C (by simpa using ho)
def chStep (i:Int) (z:List Int) (c:Sp × Int):Sp × Int:=if deE z=0/\c.1.g<(deS z).g then (deS z,i) else c
def chC (x y:List Int) (k:Nat):Sp × Int:=match k with
 |0=>(sp0,-1)
 |1=>chStep 0 x (sp0,-1)
 |_=>chStep 1 y (chStep 0 x (sp0,-1))
def chS (x y:List Int):Sp:=if deE x=0/\(deE y≠0\/(deS y).g<=(deS x).g) then deS x else deS y
def chP (x y:List Int):Int:=if deE x=0/\(deE y≠0\/(deS y).g<=(deS x).g) then 0 else if deE y=0 then 1 else-1
def chE (x y:List Int):Int:=if deE x≠0/\deE y≠0 then 8 else 0
theorem de_g {z:List Int} (h:deE z=0):0<(deS z).g:=by
 have:=(YS (de_gen h)).1;omega
theorem de_0 {z:List Int} (h:deE z≠0):deS z=sp0:=by unfold deS;rw [if_neg h]
theorem ch_no {x y:List Int} (h:(chC x y 2).2<0):chS x y=sp0/\chP x y= -1/\chE x y=8/\(chC x y 2).2= -1:=by
 by_cases hx:deE x=0
 ·exfalso;have gx:=de_g hx;have e1:chStep 0 x (sp0,-1)=(deS x,0):=by unfold chStep;rw [if_pos ⟨hx,gx⟩]
  have:chC x y 2=chStep 1 y (deS x,0):=by unfold chC;rw [e1];rfl
  rw [this] at h;unfold chStep at h;split at h<;>simp at h
 ·have e1:chStep 0 x (sp0,-1)=(sp0,-1):=by unfold chStep;rw [if_neg (fun hh=>hx hh.1)]
  have e2:chC x y 2=chStep 1 y (sp0,-1):=by unfold chC;rw [e1];rfl
  by_cases hy:deE y=0
  ·exfalso;have gy:=de_g hy;rw [e2] at h;unfold chStep at h;rw [if_pos ⟨hy,gy⟩] at h;simp at h
  ·have e3:chC x y 2=(sp0,-1):=by rw [e2];unfold chStep;rw [if_neg (fun hh=>hy hh.1)]
   refine ⟨?_,?_,?_,?_⟩
   ·unfold chS;rw [if_neg (fun hh=>hx hh.1)];exact de_0 hy
   ·unfold chP;rw [if_neg (fun hh=>hx hh.1),if_neg hy]
   ·unfold chE;rw [if_pos ⟨hx,hy⟩]
   ·rw [e3]
theorem ch_yes {x y:List Int} (h:¬(chC x y 2).2<0):chS x y=(chC x y 2).1/\chP x y=(chC x y 2).2/\chE x y=0:=by
 by_cases hx:deE x=0
 ·have gx:=de_g hx;have e1:chStep 0 x (sp0,-1)=(deS x,0):=by unfold chStep;rw [if_pos ⟨hx,gx⟩]
  have e2:chC x y 2=chStep 1 y (deS x,0):=by unfold chC;rw [e1];rfl
  have e0:chE x y=0:=by unfold chE;rw [if_neg (fun hh=>hh.1 hx)]
  by_cases hy:deE y=0/\(deS x).g<(deS y).g
  ·have e3:chC x y 2=(deS y,1):=by rw [e2];unfold chStep;rw [if_pos hy]
   have hn:¬(deE x=0/\(deE y≠0\/(deS y).g<=(deS x).g)):=fun hh=>by
    rcases hh.2 with h1|h1
    ·exact h1 hy.1
    ·omega
   rw [e3];refine ⟨?_,?_,e0⟩
   ·unfold chS;rw [if_neg hn]
   ·unfold chP;rw [if_neg hn,if_pos hy.1]
  ·have e3:chC x y 2=(deS x,0):=by rw [e2];unfold chStep;rw [if_neg hy]
   have hn:deE x=0/\(deE y≠0\/(deS y).g<=(deS x).g):=⟨hx,by
    by_cases hy0:deE y=0
    ·right;by_cases hg:(deS x).g<(deS y).g
     ·exact absurd ⟨hy0,hg⟩ hy
     ·omega
    ·exact .inl hy0⟩
   rw [e3];refine ⟨?_,?_,e0⟩
   ·unfold chS;rw [if_pos hn]
   ·unfold chP;rw [if_pos hn]
 ·have e1:chStep 0 x (sp0,-1)=(sp0,-1):=by unfold chStep;rw [if_neg (fun hh=>hx hh.1)]
  have e2:chC x y 2=chStep 1 y (sp0,-1):=by unfold chC;rw [e1];rfl
  by_cases hy:deE y=0
  ·have gy:=de_g hy;have e3:chC x y 2=(deS y,1):=by rw [e2];unfold chStep;rw [if_pos ⟨hy,gy⟩]
   rw [e3];refine ⟨?_,?_,?_⟩
   ·unfold chS;rw [if_neg (fun hh=>hx hh.1)]
   ·unfold chP;rw [if_neg (fun hh=>hx hh.1),if_pos hy]
   ·unfold chE;rw [if_neg (fun hh=>hh.2 hy)]
  ·exfalso;apply h;have e3:chC x y 2=(sp0,-1):=by rw [e2];unfold chStep;rw [if_neg (fun hh=>hy hh.1)]
   rw [e3];decide
structure Chz (w wr:World) (x y:List Int) (a a':Option Addr) (n n' cap cap':Nat) (k:Nat):Prop where
 r:Sw8 wr w.heap.size sp0
 c:Sw8 wr (w.heap.size+1) (chC x y k).1
 l0:wr.cell? ⟨w.heap.size+1+1,0,none⟩=some (.slice a n cap)
 l1:wr.cell? ⟨w.heap.size+1+1,1,none⟩=some (.slice a' n' cap')
 bel:Below w.heap.size w wr
theorem Chz.below {w wr w1:World} {x y:List Int} {a a':Option Addr} {n n' cap cap' k:Nat} (h:Chz w wr x y a a' n n' cap cap' k) (hb:Below wr.heap.size wr w1):Chz w w1 x y a a' n n' cap cap' k where
 r:=h.r.below hb
 c:=h.c.below hb
 l0:=(hb.cell (p:=⟨_,_,_⟩) (block_lt_of_cell h.l0)).trans h.l0
 l1:=(hb.cell (p:=⟨_,_,_⟩) (block_lt_of_cell h.l1)).trans h.l1
 bel:=h.bel.trans (hb.mono h.bel.size)
theorem UA (w:World) (B:Nat) (T:Sp) (j:Nat) (h:j≠B):(wr8 w B T).heap[j]?=w.heap[j]?:=by
 have ne:∀i,j≠(⟨B,i,none⟩:Addr).block:=fun i=>h
 unfold wr8;rw [Below.heap_setCell _ _ _ _ (ne 7),Below.heap_setCell _ _ _ _ (ne 6),Below.heap_setCell _ _ _ _ (ne 5),Below.heap_setCell _ _ _ _ (ne 4),Below.heap_setCell _ _ _ _ (ne 3),Below.heap_setCell _ _ _ _ (ne 2),Below.heap_setCell _ _ _ _ (ne 1),Below.heap_setCell _ _ _ _ (ne 0)]
theorem wr8_sw {w:World} {B:Nat} {S:Sp} (h:Sw8 w B S) (T:Sp):Sw8 (wr8 w B T) B T:=
 ⟨XK h.1 T,fun k hk=>by unfold wr8;simp only [World.frozen?_setCell];exact h.2 k hk⟩
theorem Chz.took {w wr:World} {x y:List Int} {a a':Option Addr} {n n' cap cap' k:Nat} (h:Chz w wr x y a a' n n' cap cap' k) (T:Sp) (hT:(chC x y (k+1)).1=T):Chz w (wr8 wr (w.heap.size+1) T) x y a a' n n' cap cap' (k+1) where
 r:=h.r.same (UA _ _ _ _ (by omega))
 c:=by rw [hT];exact wr8_sw h.c T
 l0:=(World.cell?_of_block (a:=⟨_,_,_⟩) (UA _ _ _ _ (by show w.heap.size+1+1≠_;omega))).trans h.l0
 l1:=(World.cell?_of_block (a:=⟨_,_,_⟩) (UA _ _ _ _ (by show w.heap.size+1+1≠_;omega))).trans h.l1
 bel:=JA h.bel (by omega) T
theorem Chz.kept {w wr:World} {x y:List Int} {a a':Option Addr} {n n' cap cap' k:Nat} (h:Chz w wr x y a a' n n' cap cap' k) (hT:chC x y (k+1)=chC x y k):Chz w wr x y a a' n n' cap cap' (k+1) where
 r:=h.r
 c:=by rw [hT];exact h.c
 l0:=h.l0
 l1:=h.l1
 bel:=h.bel
theorem choose_v (a a':Option Addr) (cap cap' n n':Nat) (x y:List Int) (w:World) (hx:Row w a cap x) (hnx:x.length=n) (hy:Row w a' cap' y) (hny:y.length=n')
  (S:Sp) (hS:chS x y=S) (P:Int) (hP:chP x y=P) (E:Int) (hE:chE x y=E):
  Calls prog 63 #[.slice a n cap,.slice a' n' cap'] w fun e w'=>e=.returned (.tuple #[spV S,.int .i64 P,.int .i64 E])/\Below w.heap.size w w':=by
 have HX:Hid (Row w a cap x):=hx;have HNX:Hid (x.length=n):=hnx;have HY:Hid (Row w a' cap' y):=hy;have HNY:Hid (y.length=n'):=hny;have HS:Hid (chS x y=S):=hS;have HP:Hid (chP x y=P):=hP;have HE:Hid (chE x y=E):=hE;clear hx hnx hy hny hS hP hE;dsimp only [spV];go_enter func63,ntmps63
 go_wp2_with fail
 have HC:Hid (Chz w (((w.alloc (.cells #[.int .i64 0,.int .i64 0,.int .i64 0,.int .i64 0,.int .i64 0,.int .i64 0,.int .i64 0,.int .i64 0] 26)).alloc (.cells #[.int .i64 0,.int .i64 0,.int .i64 0,.int .i64 0,.int .i64 0,.int .i64 0,.int .i64 0,.int .i64 0] 26)).alloc (.cells #[.slice a n cap,.slice a' n' cap'] 22)) x y a a' n n' cap cap' 0):=by
  have b1:Below (w.alloc (.cells #[.int .i64 0,.int .i64 0,.int .i64 0,.int .i64 0,.int .i64 0,.int .i64 0,.int .i64 0,.int .i64 0] 26)).heap.size (w.alloc (.cells #[.int .i64 0,.int .i64 0,.int .i64 0,.int .i64 0,.int .i64 0,.int .i64 0,.int .i64 0,.int .i64 0] 26)) (((w.alloc (.cells #[.int .i64 0,.int .i64 0,.int .i64 0,.int .i64 0,.int .i64 0,.int .i64 0,.int .i64 0,.int .i64 0] 26)).alloc (.cells #[.int .i64 0,.int .i64 0,.int .i64 0,.int .i64 0,.int .i64 0,.int .i64 0,.int .i64 0,.int .i64 0] 26)).alloc (.cells #[.slice a n cap,.slice a' n' cap'] 22)):=((Below.refl _ _).alloc (jB _) _).alloc (by simp) _;refine ⟨(QH w sp0 26).below b1,?_,?_,?_,?_⟩
  ·have:=(QH (w.alloc (.cells #[.int .i64 0,.int .i64 0,.int .i64 0,.int .i64 0,.int .i64 0,.int .i64 0,.int .i64 0,.int .i64 0] 26)) sp0 26).alloc (.cells #[.slice a n cap,.slice a' n' cap'] 22)
   simpa [sp0,chC] using this
  ·simp [World.cell?_alloc_at]
  ·simp [World.cell?_alloc_at]
  ·exact ((Below.refl _ w).alloc (jB _) _).trans (b1.mono (by simp))
 obtain ⟨W,hW⟩:∃W,((w.alloc (.cells #[.int .i64 0,.int .i64 0,.int .i64 0,.int .i64 0,.int .i64 0,.int .i64 0,.int .i64 0,.int .i64 0] 26)).alloc (.cells #[.int .i64 0,.int .i64 0,.int .i64 0,.int .i64 0,.int .i64 0,.int .i64 0,.int .i64 0,.int .i64 0] 26)).alloc (.cells #[.slice a n cap,.slice a' n' cap'] 22)=W:=⟨_,rfl⟩;rw [hW] at HC ⊢;clear hW;go_loopw [8,18] (fun p i wr=>∃k:Nat,k<=2/\p=.int .i64 (chC x y k).2/\i=.int .i64 k/\Chz w wr x y a a' n n' cap cap' k) (fun _ i _=>2-(intOf i).toNat)
 case atStart=>exact ⟨0,jW _,rfl,rfl,HC.out⟩
 case round=>
  obtain ⟨k,hk,rfl,rfl,hch⟩:=hrel;clear HC;by_cases hlt:k<2
  ·obtain ⟨za,zn,zc,z,hz,hzn,hzc,hst⟩:∃(za:Option Addr) (zn zc:Nat) (z:List Int),Row wr za zc z/\z.length=zn/\wr.cell? ⟨w.heap.size+1+1,k,none⟩=some (.slice za zn zc)/\chC x y (k+1)=chStep k z (chC x y k):=by
    have:k=0\/k=1:=by omega
    rcases this with rfl|rfl
    ·exact ⟨a,n,cap,x,HX.out.below hch.bel,HNX.out,hch.l0,rfl⟩
    ·exact ⟨a',n',cap',y,HY.out.below hch.bel,HNY.out,hch.l1,rfl⟩
   obtain ⟨T,hT⟩:∃T,deS z=T:=⟨_,rfl⟩;obtain ⟨D,hD⟩:∃D,deE z=D:=⟨_,rfl⟩;have CD:=decode_v za zc zn z wr hz hzn T hT D hD;dsimp only [spV] at CD;unfold chStep at hst;rw [hT,hD] at hst;have HCH:Hid (Chz w wr x y a a' n n' cap cap' k):=hch;obtain ⟨c,hc⟩:∃c,(chC x y k).1=c:=⟨_,rfl⟩;obtain ⟨p,hp⟩:∃p,(chC x y k).2=p:=⟨_,rfl⟩;have HCC:Hid ((chC x y k).1=c):=hc;have HPP:Hid ((chC x y k).2=p):=hp;rw [hp];rw [hc] at hst;clear hch hz hzn hT hD hc hp;by_cases hD0:D=0
   ·subst hD0;by_cases hg:c.g<T.g
    ·rw [if_pos ⟨rfl,hg⟩] at hst;have HST:Hid (chC x y (k+1)=(T,(k:Int))):=hst;clear hst;go_wp2_with fail
     refine CD.mono ?_;clear CD;rintro e w3 ⟨rfl,hb3⟩;have HC4:Hid (Chz w (w3.alloc (.cells #[.int .i64 T.g,.int .i64 T.p,.int .i64 T.r,.int .i64 T.h,.int .i64 T.b,.int .i64 T.l,.int .i64 T.s,.int .i64 T.f] 26)) x y a a' n n' cap cap' k):=HCH.out.below (hb3.trans (((Below.refl _ w3).alloc (jB _) _).mono hb3.size));have q':=HC4.out.c;rw [HCC.out] at q';clear hb3 hzc HCH HX HY;obtain ⟨⟨q0,q1,q2,q3,q4,q5,q6,q7⟩,qf⟩:=q';have f0:=qf 0 (by omega);have f1:=qf 1 (by omega);have f2:=qf 2 (by omega);have f3:=qf 3 (by omega);have f4:=qf 4 (by omega);have f5:=qf 5 (by omega);have f6:=qf 6 (by omega);have f7:=qf 7 (by omega);clear qf;go_wp2;go_roundw
     case rel=>exact ⟨k+1,by omega,by rw [HST.out],by go_num,HC4.out.took T (by rw [HST.out])⟩
     case measure=>simp [intOf];omega
    ·rw [if_neg (fun h=>hg h.2)] at hst;have HST:Hid (chC x y (k+1)=chC x y k):=hst;clear hst;have hgb:¬c.g<T.g:=hg;clear hg;go_wp2_with fail
     refine CD.mono ?_;clear CD;rintro e w3 ⟨rfl,hb3⟩;have HC4:Hid (Chz w (w3.alloc (.cells #[.int .i64 T.g,.int .i64 T.p,.int .i64 T.r,.int .i64 T.h,.int .i64 T.b,.int .i64 T.l,.int .i64 T.s,.int .i64 T.f] 26)) x y a a' n n' cap cap' k):=HCH.out.below (hb3.trans (((Below.refl _ w3).alloc (jB _) _).mono hb3.size));have q0:=HC4.out.c.1.1;rw [HCC.out] at q0;clear hb3 hzc HCH HX HY;go_wp2;go_roundw
     case rel=>exact ⟨k+1,by omega,by rw [HST.out,HPP.out],by go_num,HC4.out.kept HST.out⟩
     case measure=>simp [intOf];omega
   ·rw [if_neg (fun h=>hD0 h.1)] at hst;have HST:Hid (chC x y (k+1)=chC x y k):=hst;clear hst;have hDb:(D==0)=false:=by simpa using hD0
    clear hD0;go_wp2_with fail
    refine CD.mono ?_;clear CD;rintro e w3 ⟨rfl,hb3⟩;have HC4:Hid (Chz w (w3.alloc (.cells #[.int .i64 T.g,.int .i64 T.p,.int .i64 T.r,.int .i64 T.h,.int .i64 T.b,.int .i64 T.l,.int .i64 T.s,.int .i64 T.f] 26)) x y a a' n n' cap cap' k):=HCH.out.below (hb3.trans (((Below.refl _ w3).alloc (jB _) _).mono hb3.size));clear hb3 hzc HCH HX HY;go_wp2;go_roundw
    case rel=>exact ⟨k+1,by omega,by rw [HST.out,HPP.out],by go_num,HC4.out.kept HST.out⟩
    case measure=>simp [intOf];omega
  ·have hk2:k=2:=by omega
   subst hk2;have HCH:Hid (Chz w wr x y a a' n n' cap cap' 2):=hch;obtain ⟨c,hc⟩:∃c,(chC x y 2).1=c:=⟨_,rfl⟩;obtain ⟨p,hp⟩:∃p,(chC x y 2).2=p:=⟨_,rfl⟩;have HCQ:Hid (Sw8 wr (w.heap.size+1) c):=by rw [<-hc];exact hch.c
   have HQ:Hid (Sw8 wr w.heap.size sp0):=hch.r;have HB:Hid (Below w.heap.size w wr):=hch.bel;by_cases hp0:p<0
   ·obtain ⟨e1,e2,e3,e4⟩:=ch_no (x:=x) (y:=y) (by rw [hp];exact hp0);rw [hp] at e4;have f1:S=sp0:=HS.out.symm.trans e1;have f2:P= -1:=HP.out.symm.trans e2;have f3:E=8:=HE.out.symm.trans e3;rw [hp];clear hch HCH hc hp HS HP HE e1 e2 e3 HX HY hp0;subst f1;subst f2;subst f3;subst e4;have q':=HQ.out;obtain ⟨⟨q0,q1,q2,q3,q4,q5,q6,q7⟩,qf⟩:=q';have f0:=qf 0 (by omega);have f1:=qf 1 (by omega);have f2:=qf 2 (by omega);have f3:=qf 3 (by omega);have f4:=qf 4 (by omega);have f5:=qf 5 (by omega);have f6:=qf 6 (by omega);have f7:=qf 7 (by omega);clear qf;dsimp only [sp0] at q0 q1 q2 q3 q4 q5 q6 q7;go_wp2;clear q0 q1 q2 q3 q4 q5 q6 q7 f0 f1 f2 f3 f4 f5 f6 f7;obtain ⟨q0,q1,q2,q3,q4,q5,q6,q7⟩:=XK HQ.out.1 sp0;unfold wr8 at q0 q1 q2 q3 q4 q5 q6 q7;dsimp only [sp0] at q0 q1 q2 q3 q4 q5 q6 q7;refine bodyPost_ret (v:=.tuple #[spV sp0,.int .i64 (-1),.int .i64 8]) ?_ rfl ⟨rfl,JA HB.out (jB _) sp0⟩;simp [results,Tryz.results63,go_sem,spV,sp0,q0,q1,q2,q3,q4,q5,q6,q7]
   ·obtain ⟨e1,e2,e3⟩:=ch_yes (x:=x) (y:=y) (by rw [hp];exact hp0);rw [hc] at e1;rw [hp] at e2;have f1:S=c:=HS.out.symm.trans e1;have f2:P=p:=HP.out.symm.trans e2;have f3:E=0:=HE.out.symm.trans e3;rw [hp];clear hch HCH hc hp HS HP HE e1 e2 e3 HX HY;subst f1;subst f2;subst f3;have q':=HQ.out;obtain ⟨k0,k1,k2,k3,k4,k5,k6,k7⟩:=HCQ.out.1;obtain ⟨⟨q0,q1,q2,q3,q4,q5,q6,q7⟩,qf⟩:=q';have f0:=qf 0 (by omega);have f1:=qf 1 (by omega);have f2:=qf 2 (by omega);have f3:=qf 3 (by omega);have f4:=qf 4 (by omega);have f5:=qf 5 (by omega);have f6:=qf 6 (by omega);have f7:=qf 7 (by omega);clear qf;dsimp only [sp0] at q0 q1 q2 q3 q4 q5 q6 q7;go_wp2;clear k0 k1 k2 k3 k4 k5 k6 k7;clear q0 q1 q2 q3 q4 q5 q6 q7 f0 f1 f2 f3 f4 f5 f6 f7;obtain ⟨q0,q1,q2,q3,q4,q5,q6,q7⟩:=XK HQ.out.1 S;unfold wr8 at q0 q1 q2 q3 q4 q5 q6 q7;refine bodyPost_ret (v:=.tuple #[spV S,.int .i64 P,.int .i64 0]) ?_ rfl ⟨rfl,JA HB.out (jB _) S⟩;simp [results,Tryz.results63,go_sem,spV,q0,q1,q2,q3,q4,q5,q6,q7]
structure SpOk (S:List Int):Prop where
 lo:8<=S.length
 hi:S.length<=4096
 st:∀z∈S,0<=z/\z<=3
def newS (n:Nat):List Int:=((List.replicate n (0:Int)).set 0 1).set 1 1
def frI (S:List Int):Nat:=S.findIdx (· ==0)
def alE (S:List Int):Int:=if frI S<S.length then 0 else 6
def alN (S:List Int):Int:=if frI S<S.length then (frI S:Int) else 0
def alL (S:List Int):List Int:=if frI S<S.length then S.set (frI S) 2 else S
def gvB (S:List Int) (p:Int):Bool:=decide (2<=p)&&decide (p<(S.length:Int))
def gvE (S:List Int) (p:Int):Int:=if gvB S p then (if S.getD p.toNat 0=2 then 0 else if S.getD p.toNat 0=1 then 0 else 10) else 1
def gvL (S:List Int) (p:Int):List Int:=if gvB S p then (if S.getD p.toNat 0=2 then S.set p.toNat 0 else if S.getD p.toNat 0=1 then S.set p.toNat 3 else S) else S
def trZ (o p z:Int):Int:=if z=2 then o else if z=3 then p else z
def trS (o p:Int) (S:List Int):List Int:=S.map (trZ o p)
def usB (z:Int):Bool:=z==1||z==2
theorem SpOk.at {S:List Int} (h:SpOk S) (i:Nat):0<=S.getD i 0/\S.getD i 0<=3:=by
 by_cases hi:i<S.length
 ·rw [jA,jC hi];exact h.st _ (qA hi)
 ·rw [jA,jX (by omega)];simp
theorem SpOk.set {S:List Int} (h:SpOk S) (i:Nat) {z:Int} (h0:0<=z) (h3:z<=3):SpOk (S.set i z):=
 ⟨by rw [qC];exact h.lo,by rw [qC];exact h.hi,fun y hy=>by
  rcases List.mem_or_eq_of_mem_set hy with hy|rfl
  ·exact h.st y hy
  ·exact ⟨h0,h3⟩⟩
theorem SpOk.map {S:List Int} (h:SpOk S) {f:Int->Int} (hf:∀z,0<=z->z<=3->0<=f z/\f z<=3):SpOk (S.map f):=
 ⟨by rw [qQ];exact h.lo,by rw [qQ];exact h.hi,fun y hy=>by
  obtain ⟨z,hz,rfl⟩:=List.mem_map.1 hy;exact hf z (h.st z hz).1 (h.st z hz).2⟩
theorem JF (n:Nat):(newS n).length=n:=by simp [newS]
theorem newS_ok {n:Nat} (h8:8<=n) (h4:n<=4096):SpOk (newS n):=by
 have h:SpOk (List.replicate n (0:Int)):=⟨by simpa using h8,by simpa using h4,fun z hz=>by rw [(List.mem_replicate.1 hz).2];omega⟩;exact (h.set 0 (by omega) (by omega)).set 1 (by omega) (by omega)
theorem alL_ok {S:List Int} (h:SpOk S):SpOk (alL S):=by
 unfold alL;split
 ·exact h.set _ (by omega) (by omega)
 ·exact h
theorem alL_len (S:List Int):(alL S).length=S.length:=by unfold alL;split<;>simp
theorem gvL_ok {S:List Int} (h:SpOk S) (p:Int):SpOk (gvL S p):=by
 unfold gvL
 repeat' split
 all_goals first|exact h|exact h.set _ (by omega) (by omega)
theorem gvL_len (S:List Int) (p:Int):(gvL S p).length=S.length:=by
 unfold gvL
 repeat' split
 all_goals simp
theorem fB {S:List Int} (h:SpOk S) {o p:Int} (ho:0<=o/\o<=3) (hp:0<=p/\p<=3):SpOk (trS o p S):=h.map fun z h0 h3=>by
 unfold trZ
 repeat' split
 all_goals first|exact ho|exact hp|exact ⟨h0,h3⟩
theorem JB (o p:Int) (S:List Int):(trS o p S).length=S.length:=by simp [trS]
theorem frI_le (S:List Int):frI S<=S.length:=List.findIdx_le_length
theorem VN {S:List Int} (h:frI S<S.length):S.getD (frI S) 0=0:=by
 have:=List.findIdx_getElem (w:=h);rw [jA,jC h,qG];exact eq_of_beq this
theorem frI_not {S:List Int} {i:Nat} (h:i<frI S):S.getD i 0≠0:=by
 have hl:i<S.length:=jV h (frI_le S);have:=List.not_of_lt_findIdx h;rw [jA,jC hl]
 simpa using this
theorem frI_eq {S:List Int} {i:Nat} (hi:i<S.length) (h0:S.getD i 0=0) (h:∀j,j<i->S.getD j 0≠0):frI S=i:=by
 by_cases h1:frI S<i
 ·exact absurd (VN (by omega)) (h _ h1)
 ·by_cases h2:i<frI S
  ·exact absurd h0 (frI_not h2)
  ·omega
theorem GM {S:List Int} (h:∀j,j<S.length->S.getD j 0≠0):frI S=S.length:=by
 have:=frI_le S;by_cases h1:frI S<S.length
 ·exact absurd (VN h1) (h _ h1)
 ·omega
def by8 (a b c d e f g h:Bool):Int:=(if a then 1 else 0)+(if b then 2 else 0)+(if c then 4 else 0)+(if d then 8 else 0)+(if e then 16 else 0)+(if f then 32 else 0)+(if g then 64 else 0)+(if h then 128 else 0)
def byB (u:Nat->Bool):Int:=by8 (u 0) (u 1) (u 2) (u 3) (u 4) (u 5) (u 6) (u 7)
def bitZ (z:Int) (b:Nat):Bool:=z/2^b%2==1
def bitR (zs:List Int) (i:Nat):Bool:=bitZ (zs.getD (i/8) 0) (i%8)
def bitsP (u:Nat->Bool) (n:Nat):List Int:=(List.range ((n+7)/8)).map fun j=>byB (fun b=>u (8*j+b))
theorem by8_in:∀a b c d e f g h:Bool,0<=by8 a b c d e f g h/\by8 a b c d e f g h<=255:=by decide+kernel
theorem or8_0:∀a b c d e f g h:Bool,bits .or .u8 (by8 a b c d e f g h) 1=by8 true b c d e f g h:=by decide+kernel
theorem or8_1:∀a b c d e f g h:Bool,bits .or .u8 (by8 a b c d e f g h) 2=by8 a true c d e f g h:=by decide+kernel
theorem or8_2:∀a b c d e f g h:Bool,bits .or .u8 (by8 a b c d e f g h) 4=by8 a b true d e f g h:=by decide+kernel
theorem or8_3:∀a b c d e f g h:Bool,bits .or .u8 (by8 a b c d e f g h) 8=by8 a b c true e f g h:=by decide+kernel
theorem or8_4:∀a b c d e f g h:Bool,bits .or .u8 (by8 a b c d e f g h) 16=by8 a b c d true f g h:=by decide+kernel
theorem or8_5:∀a b c d e f g h:Bool,bits .or .u8 (by8 a b c d e f g h) 32=by8 a b c d e true g h:=by decide+kernel
theorem or8_6:∀a b c d e f g h:Bool,bits .or .u8 (by8 a b c d e f g h) 64=by8 a b c d e f true h:=by decide+kernel
theorem or8_7:∀a b c d e f g h:Bool,bits .or .u8 (by8 a b c d e f g h) 128=by8 a b c d e f g true:=by decide+kernel
theorem at8:∀a b c d e f g h:Bool,bitZ (by8 a b c d e f g h) 0=a/\bitZ (by8 a b c d e f g h) 1=b/\bitZ (by8 a b c d e f g h) 2=c/\bitZ (by8 a b c d e f g h) 3=d/\bitZ (by8 a b c d e f g h) 4=e/\bitZ (by8 a b c d e f g h) 5=f/\bitZ (by8 a b c d e f g h) 6=g/\bitZ (by8 a b c d e f g h) 7=h:=by decide+kernel
theorem by_at:∀z:Fin 256,byB (bitZ (z.val:Int))=z.val:=by decide+kernel
theorem and1z:∀z:Fin 256,bits .and .u8 (z.val:Int) 1=(z.val:Int)%2:=by decide+kernel
theorem FP (u:Nat->Bool):0<=byB u/\byB u<=255:=by8_in _ _ _ _ _ _ _ _
theorem byB_or (u v:Nat->Bool) (b:Nat) (hb:b<8) (hv:v b=true) (h:∀x,x≠b->v x=u x):bits .or .u8 (byB u) (2^b%256)=byB v:=by
 unfold byB
 match b,hb with
 |0,_=>rw [h 1 (by omega),h 2 (by omega),h 3 (by omega),h 4 (by omega),h 5 (by omega),h 6 (by omega),h 7 (by omega),hv];exact or8_0 _ _ _ _ _ _ _ _
 |1,_=>rw [h 0 (by omega),h 2 (by omega),h 3 (by omega),h 4 (by omega),h 5 (by omega),h 6 (by omega),h 7 (by omega),hv];exact or8_1 _ _ _ _ _ _ _ _
 |2,_=>rw [h 0 (by omega),h 1 (by omega),h 3 (by omega),h 4 (by omega),h 5 (by omega),h 6 (by omega),h 7 (by omega),hv];exact or8_2 _ _ _ _ _ _ _ _
 |3,_=>rw [h 0 (by omega),h 1 (by omega),h 2 (by omega),h 4 (by omega),h 5 (by omega),h 6 (by omega),h 7 (by omega),hv];exact or8_3 _ _ _ _ _ _ _ _
 |4,_=>rw [h 0 (by omega),h 1 (by omega),h 2 (by omega),h 3 (by omega),h 5 (by omega),h 6 (by omega),h 7 (by omega),hv];exact or8_4 _ _ _ _ _ _ _ _
 |5,_=>rw [h 0 (by omega),h 1 (by omega),h 2 (by omega),h 3 (by omega),h 4 (by omega),h 6 (by omega),h 7 (by omega),hv];exact or8_5 _ _ _ _ _ _ _ _
 |6,_=>rw [h 0 (by omega),h 1 (by omega),h 2 (by omega),h 3 (by omega),h 4 (by omega),h 5 (by omega),h 7 (by omega),hv];exact or8_6 _ _ _ _ _ _ _ _
 |7,_=>rw [h 0 (by omega),h 1 (by omega),h 2 (by omega),h 3 (by omega),h 4 (by omega),h 5 (by omega),h 6 (by omega),hv];exact or8_7 _ _ _ _ _ _ _ _
theorem ZX (u:Nat->Bool) (b:Nat) (hb:b<8):bitZ (byB u) b=u b:=by
 have h:=at8 (u 0) (u 1) (u 2) (u 3) (u 4) (u 5) (u 6) (u 7);unfold byB
 match b,hb with
 |0,_=>exact h.1
 |1,_=>exact h.2.1
 |2,_=>exact h.2.2.1
 |3,_=>exact h.2.2.2.1
 |4,_=>exact h.2.2.2.2.1
 |5,_=>exact h.2.2.2.2.2.1
 |6,_=>exact h.2.2.2.2.2.2.1
 |7,_=>exact h.2.2.2.2.2.2.2
theorem byB_bitZ {z:Int} (h0:0<=z) (h1:z<=255):byB (bitZ z)=z:=by
 obtain ⟨n,rfl⟩:=qB h0;exact by_at ⟨n,by omega⟩
theorem ZW {u v:Nat->Bool} (h:∀b,b<8->u b=v b):byB u=byB v:=by
 unfold byB;rw [h 0 (by omega),h 1 (by omega),h 2 (by omega),h 3 (by omega),h 4 (by omega),h 5 (by omega),h 6 (by omega),h 7 (by omega)]
theorem bit_and {z:Int} (h0:0<=z) (h1:z<=255) (b:Nat):bits .and .u8 (z/2^b) 1=z/2^b%2:=by
 obtain ⟨n,rfl⟩:=qB h0;have e:((n:Int)/2^b)=((n/2^b:Nat):Int):=by simp
 have hl:n/2^b<256:=Nat.lt_of_le_of_lt (Nat.div_le_self _ _) (by omega);rw [e];exact and1z ⟨n/2^b,hl⟩
theorem yT (u:Nat->Bool) (n:Nat):(bitsP u n).length=(n+7)/8:=by simp [bitsP]
theorem zT {u:Nat->Bool} {n j:Nat} (h:j<(n+7)/8):(bitsP u n).getD j 0=byB (fun b=>u (8*j+b)):=by
 unfold bitsP;rw [jA,jC (by simpa using h)];simp
theorem zP (u:Nat->Bool) (n:Nat):Bys (bitsP u n):=fun z hz=>by
 obtain ⟨j,_,rfl⟩:=List.mem_map.1 hz;exact FP _
theorem YX (n:Nat):bitsP (fun _=>false) n=List.replicate ((n+7)/8) 0:=by
 unfold bitsP;rw [show (fun j:Nat=>byB (fun _=>false))=fun _:Nat=>(0:Int) from rfl];simp [List.map_const']
theorem zA {u v:Nat->Bool} {n:Nat} (h:∀i,i<(n+7)/8*8->u i=v i):bitsP u n=bitsP v n:=by
 unfold bitsP;refine qW fun j hj=>ZW fun b hb=>h _ ?_
 have:=List.mem_range.1 hj;omega
theorem XV {u v:Nat->Bool} {n k:Nat} (hk:k<n) (hv:v k=true) (h:∀i,i≠k->v i=u i):(bitsP u n).set (k/8) (bits .or .u8 ((bitsP u n).getD (k/8) 0) (2^(k%8)%256))=bitsP v n:=by
 have hj:k/8<(n+7)/8:=by omega
 rw [zT hj,byB_or _ (fun b=>v (8*(k/8)+b)) (k%8) (by omega) (by show v _=true;rw [show 8*(k/8)+k%8=k by omega];exact hv) (fun x hx=>h _ (by omega))];refine yV (by rw [qC,yT,yT]) fun i hi=>?_
 rw [qC,yT] at hi;rw [zT hi];by_cases e:i=k/8
 ·subst e;rw [jA,qT (by rw [yT];exact hi),qG]
 ·rw [jA,xG (by omega),<-jA,zT hi];exact ZW fun b hb=>(h _ (by omega)).symm
theorem XH {u:Nat->Bool} {n i:Nat} (h:i<(n+7)/8*8):bitR (bitsP u n) i=u i:=by
 unfold bitR;rw [zT (by omega),ZX _ _ (by omega),show 8*(i/8)+i%8=i by omega]
theorem VZ {zs:List Int} {n:Nat} (hb:Bys zs) (hl:zs.length=(n+7)/8):bitsP (bitR zs) n=zs:=by
 refine yV (by rw [yT,hl]) fun j hj=>?_
 rw [yT] at hj;rw [zT hj];refine Eq.trans (ZW fun b hb=>?_) (byB_bitZ (hb.at j).1 (hb.at j).2);unfold bitR;rw [show (8*j+b)/8=j by omega,show (8*j+b)%8=b by omega]
def bitL (S:List Int):List Int:=bitsP (fun i=>usB (S.getD i 0)) S.length
end Go.Proofs.YtaijfhadecennabGreat.Oct
