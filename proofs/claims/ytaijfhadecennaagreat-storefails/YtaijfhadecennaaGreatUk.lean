/- Part of a proof. -/
import Derived.Test.YtaijfhadecennaaGreatUf
import Derived.Test.YtaijfhadecennaaGreatR
import Derived.Test.YtaijfhadecennaaGreatRi
open Go.Proofs.Tryz
set_option maxHeartbeats 4000000
namespace Go.Proofs.YtaijfhadecennaaGreat.Oct
open Go.RowKit
theorem de_no {zs:List Int} (h:opE zs≠0):deE zs=opE zs/\deS zs=sp0:=by
 have e:deE zs=opE zs:=by unfold deE;rw [if_neg h]
 refine ⟨e,?_⟩;unfold deS;rw [if_neg (by rw [e];exact h)]
theorem GL {zs:List Int} (h:opE zs=0) (hB:deB (opP zs)=false):deE zs=4/\deS zs=sp0:=by
 have e:deE zs=4:=by unfold deE;rw [if_pos h,hB];rfl
 refine ⟨e,?_⟩;unfold deS;rw [if_neg (by rw [e];decide)]
theorem de_good {zs:List Int} (h:opE zs=0) (hB:deB (opP zs)=true):deE zs=0/\deS zs=sdL (opP zs).body:=by
 have e:deE zs=0:=by unfold deE;rw [if_pos h,hB];rfl
 refine ⟨e,?_⟩;unfold deS;rw [if_pos e]
theorem ok_read {zs:List Int} (h:okS (sdL zs)=true):getB zs 0 8=true:=by
 have hg:=(ZI h).1;cases hb:getB zs 0 8
 ·exfalso
  have e:getI zs 0 8=0:=by
   unfold getB at hb;unfold getI;split at hb
   ·rename_i hi
    rw [if_pos hi];unfold capB at hb;have:=of_decide_eq_false hb;exact (UD (by omega)).1
   ·rename_i hi
    rw [if_neg hi]
  have:(sdL zs).g=0:=e;omega
 ·rfl
theorem deB_split (P:Pg):deB P=(decide (P.kind=1)&&decide (P.level=0)&&decide (P.count=0)&&rdB P.body&&okS (sdL P.body)):=by
 unfold deB rdB;by_cases h1:P.kind=1<;>by_cases h2:P.level=0<;>by_cases h3:P.count=0<;>simp [h1,h2,h3]
 cases h4:okS (sdL P.body)
 ·simp
 ·rw [ok_read h4];simp
def wr8 (w:World) (B:Nat) (T:Sp):World:=(((((((w.setCell ⟨B,0,none⟩ (.int .i64 T.g)).setCell ⟨B,1,none⟩ (.int .i64 T.p)).setCell ⟨B,2,none⟩ (.int .i64 T.r)).setCell ⟨B,3,none⟩ (.int .i64 T.h)).setCell ⟨B,4,none⟩ (.int .i64 T.b)).setCell ⟨B,5,none⟩ (.int .i64 T.l)).setCell ⟨B,6,none⟩ (.int .i64 T.s)).setCell ⟨B,7,none⟩ (.int .i64 T.f)
theorem sl_o {w:World} {B i j:Nat} {u v:Value} (h:w.cell? ⟨B,i,none⟩=some u) (e:j≠i):(w.setCell ⟨B,j,none⟩ v).cell? ⟨B,i,none⟩=some u:=by
 rw [World.cell?_setCell_other _ _ _ _ (fun q=>e (by simp only [Addr.mk.injEq] at q;omega)),h]
theorem sl_s {w:World} {B i:Nat} {u v:Value} (h:w.cell? ⟨B,i,none⟩=some u):(w.setCell ⟨B,i,none⟩ v).cell? ⟨B,i,none⟩=some v:=World.cell?_setCell_same _ _ _ h
theorem JN {w:World} {B:Nat} {S:Sp} (h:Sl8 w B S) (T:Sp):Sl8 (wr8 w B T) B T:=by
 obtain ⟨h0,h1,h2,h3,h4,h5,h6,h7⟩:=h;unfold wr8;exact ⟨sl_o (sl_o (sl_o (sl_o (sl_o (sl_o (sl_o (sl_s h0) (by decide)) (by decide)) (by decide)) (by decide)) (by decide)) (by decide)) (by decide),sl_o (sl_o (sl_o (sl_o (sl_o (sl_o (sl_s (sl_o h1 (by decide))) (by decide)) (by decide)) (by decide)) (by decide)) (by decide)) (by decide),sl_o (sl_o (sl_o (sl_o (sl_o (sl_s (sl_o (sl_o h2 (by decide)) (by decide))) (by decide)) (by decide)) (by decide)) (by decide)) (by decide),sl_o (sl_o (sl_o (sl_o (sl_s (sl_o (sl_o (sl_o h3 (by decide)) (by decide)) (by decide))) (by decide)) (by decide)) (by decide)) (by decide),sl_o (sl_o (sl_o (sl_s (sl_o (sl_o (sl_o (sl_o h4 (by decide)) (by decide)) (by decide)) (by decide))) (by decide)) (by decide)) (by decide),sl_o (sl_o (sl_s (sl_o (sl_o (sl_o (sl_o (sl_o h5 (by decide)) (by decide)) (by decide)) (by decide)) (by decide))) (by decide)) (by decide),sl_o (sl_s (sl_o (sl_o (sl_o (sl_o (sl_o (sl_o h6 (by decide)) (by decide)) (by decide)) (by decide)) (by decide)) (by decide))) (by decide),sl_s (sl_o (sl_o (sl_o (sl_o (sl_o (sl_o (sl_o h7 (by decide)) (by decide)) (by decide)) (by decide)) (by decide)) (by decide)) (by decide))⟩
theorem Sw8.below {w w1:World} {B:Nat} {S:Sp} (h:Sw8 w B S) (k:Below w.heap.size w w1):Sw8 w1 B S:=h.same (k.block B h.1.lt)
theorem Sw8.alloc {w:World} {B:Nat} {S:Sp} (h:Sw8 w B S) (o:Obj):Sw8 (w.alloc o) B S:=h.below ((Below.refl _ _).alloc (jB _) o)
theorem zF {w0 w:World} {B C:Nat} (h:Below C w0 w) (hC:C<=B) (T:Sp):Below C w0 (wr8 w B T):=
 (((((((h.setCell (p:=⟨B,0,none⟩) hC _).setCell (p:=⟨B,1,none⟩) hC _).setCell (p:=⟨B,2,none⟩) hC _).setCell (p:=⟨B,3,none⟩) hC _).setCell (p:=⟨B,4,none⟩) hC _).setCell (p:=⟨B,5,none⟩) hC _).setCell (p:=⟨B,6,none⟩) hC _).setCell (p:=⟨B,7,none⟩) hC _
theorem dec_err (a:Option Addr) (cap n:Nat) (w:World) (P:Pg) (E:Int)
  (C:∀o:Obj,Calls prog 173 #[.slice a n cap] (w.alloc o) fun e w'=>∃g c,e=.returned (.tuple #[pgV P g c,.int .i64 E])/\Own (w.alloc o).heap.size w' (.slice g P.body.length c) P.body/\Below (w.alloc o).heap.size (w.alloc o) w') (hE:(E !=0)=true):
  Calls prog 151 #[.slice a n cap] w fun e w'=>e=.returned (.tuple #[spV sp0,.int .i64 E])/\Below w.heap.size w w':=by
 dsimp only [spV,sp0];dsimp only [pgV] at C;go_enter func151,ntmps151
 go_wp2_with fail
 refine (C _).mono ?_;clear C;rintro e w1 ⟨g,c,rfl,ho,hb⟩;have q:Sw8 w1 w.heap.size sp0:=(JG w sp0 29).same (hb.block _ (by simp));have HB:Hid (Below w.heap.size w w1):=((Below.refl _ w).alloc (jB _) _).trans (hb.mono (by simp));have HQ:Hid (Sl8 (w1.alloc (.cells #[.int .i64 P.kind,.int .i64 P.level,.int .i64 P.count,.slice g P.body.length c] 171)) w.heap.size sp0):=(q.alloc _).1;have q':=q.alloc (.cells #[.int .i64 P.kind,.int .i64 P.level,.int .i64 P.count,.slice g P.body.length c] 171);clear hb ho q;obtain ⟨⟨q0,q1,q2,q3,q4,q5,q6,q7⟩,qf⟩:=q';have f0:=qf 0 (by omega);have f1:=qf 1 (by omega);have f2:=qf 2 (by omega);have f3:=qf 3 (by omega);have f4:=qf 4 (by omega);have f5:=qf 5 (by omega);have f6:=qf 6 (by omega);have f7:=qf 7 (by omega);clear qf;dsimp only [sp0] at q0 q1 q2 q3 q4 q5 q6 q7;go_wp2;clear q0 q1 q2 q3 q4 q5 q6 q7 f0 f1 f2 f3 f4 f5 f6 f7;obtain ⟨q0,q1,q2,q3,q4,q5,q6,q7⟩:=JN HQ.out sp0;unfold wr8 at q0 q1 q2 q3 q4 q5 q6 q7
 try dsimp only [sp0] at q0 q1 q2 q3 q4 q5 q6 q7
 refine bodyPost_ret (v:=.tuple #[spV sp0,.int .i64 E]) ?_ rfl ⟨rfl,zF (HB.out.alloc HB.out.size _) (jB _) sp0⟩;simp [results,Tryz.results151,go_sem,spV,sp0,q0,q1,q2,q3,q4,q5,q6,q7]
theorem UA (a:Option Addr) (cap n:Nat) (w:World) (P:Pg) (E:Int)
  (C:∀o:Obj,Calls prog 173 #[.slice a n cap] (w.alloc o) fun e w'=>∃g c,e=.returned (.tuple #[pgV P g c,.int .i64 E])/\Own (w.alloc o).heap.size w' (.slice g P.body.length c) P.body/\Below (w.alloc o).heap.size (w.alloc o) w') (hE:E=0) (hz:(P.kind !=1)=true\/((P.kind !=1)=false/\(P.level !=0)=true)\/(P.kind !=1)=false/\(P.level !=0)=false/\(P.count !=0)=true):
  Calls prog 151 #[.slice a n cap] w fun e w'=>e=.returned (.tuple #[spV sp0,.int .i64 4])/\Below w.heap.size w w':=by
 subst hE;dsimp only [spV,sp0];dsimp only [pgV] at C;go_enter func151,ntmps151
 go_wp2_with fail
 refine (C _).mono ?_;clear C;rintro e w1 ⟨g,c,rfl,ho,hb⟩;have q:Sw8 w1 w.heap.size sp0:=(JG w sp0 29).same (hb.block _ (by simp));have HB:Hid (Below w.heap.size w w1):=((Below.refl _ w).alloc (jB _) _).trans (hb.mono (by simp));have HQ:Hid (Sl8 ((w1.alloc (.cells #[.int .i64 P.kind,.int .i64 P.level,.int .i64 P.count,.slice g P.body.length c] 171)).alloc (.cells #[.int .i64 0,.int .i64 0,.int .i64 0,.int .i64 0,.int .i64 0,.int .i64 0,.int .i64 0,.int .i64 0] 168)) w.heap.size sp0):=((q.alloc _).alloc _).1;have q':=(q.alloc (.cells #[.int .i64 P.kind,.int .i64 P.level,.int .i64 P.count,.slice g P.body.length c] 171)).alloc (.cells #[.int .i64 0,.int .i64 0,.int .i64 0,.int .i64 0,.int .i64 0,.int .i64 0,.int .i64 0,.int .i64 0] 168);clear hb ho q;obtain ⟨⟨q0,q1,q2,q3,q4,q5,q6,q7⟩,qf⟩:=q';have f0:=qf 0 (by omega);have f1:=qf 1 (by omega);have f2:=qf 2 (by omega);have f3:=qf 3 (by omega);have f4:=qf 4 (by omega);have f5:=qf 5 (by omega);have f6:=qf 6 (by omega);have f7:=qf 7 (by omega);clear qf;dsimp only [sp0] at q0 q1 q2 q3 q4 q5 q6 q7;rcases hz with hk|⟨hk,hl⟩|⟨hk,hl,hc⟩
 all_goals (
  go_wp2;clear q0 q1 q2 q3 q4 q5 q6 q7 f0 f1 f2 f3 f4 f5 f6 f7;obtain ⟨q0,q1,q2,q3,q4,q5,q6,q7⟩:=JN HQ.out sp0;unfold wr8 at q0 q1 q2 q3 q4 q5 q6 q7
  try dsimp only [sp0] at q0 q1 q2 q3 q4 q5 q6 q7
  refine bodyPost_ret (v:=.tuple #[spV sp0,.int .i64 4]) ?_ rfl ⟨rfl,zF ((HB.out.alloc HB.out.size _).alloc (jP HB.out.size (by simp)) _) (jB _) sp0⟩;simp [results,Tryz.results151,go_sem,spV,sp0,q0,q1,q2,q3,q4,q5,q6,q7])
theorem dec_read (a:Option Addr) (cap n:Nat) (w:World) (P:Pg) (E:Int)
  (C:∀o:Obj,Calls prog 173 #[.slice a n cap] (w.alloc o) fun e w'=>∃g c,e=.returned (.tuple #[pgV P g c,.int .i64 E])/\Own (w.alloc o).heap.size w' (.slice g P.body.length c) P.body/\Below (w.alloc o).heap.size (w.alloc o) w') (hE:E=0) (hk:(P.kind !=1)=false) (hl:(P.level !=0)=false) (hc:(P.count !=0)=false) (hlen:P.body.length=248) (hbys:Bys P.body) (hrd:rdB P.body=false):
  Calls prog 151 #[.slice a n cap] w fun e w'=>e=.returned (.tuple #[spV sp0,.int .i64 4])/\Below w.heap.size w w':=by
 subst hE;dsimp only [spV,sp0];dsimp only [pgV] at C;go_enter func151,ntmps151
 go_wp2_with fail
 refine (C _).mono ?_;clear C;rintro e w1 ⟨g,c,rfl,ho,hb⟩;have q:Sw8 w1 w.heap.size sp0:=(JG w sp0 29).same (hb.block _ (by simp));have HB:Hid (Below w.heap.size w w1):=((Below.refl _ w).alloc (jB _) _).trans (hb.mono (by simp));have HQ:Hid (Sw8 ((w1.alloc (.cells #[.int .i64 P.kind,.int .i64 P.level,.int .i64 P.count,.slice g P.body.length c] 171)).alloc (.cells #[.int .i64 0,.int .i64 0,.int .i64 0,.int .i64 0,.int .i64 0,.int .i64 0,.int .i64 0,.int .i64 0] 168)) w.heap.size sp0):=(q.alloc _).alloc _;have HW:Hid (Below w.heap.size w ((w1.alloc (.cells #[.int .i64 P.kind,.int .i64 P.level,.int .i64 P.count,.slice g P.body.length c] 171)).alloc (.cells #[.int .i64 0,.int .i64 0,.int .i64 0,.int .i64 0,.int .i64 0,.int .i64 0,.int .i64 0,.int .i64 0] 168))):=(HB.out.alloc HB.out.size _).alloc (jP HB.out.size (by simp)) _;have hqlt:=q.1.lt;obtain ⟨g0,c0,eg,_,_,_,_⟩:=kC ho 0 (by rw [hlen];decide);simp only [Value.slice.injEq,true_and] at eg;obtain ⟨rfl,rfl⟩:=eg;have hg:=(World.ownsRow.lt ho g0 rfl).2;have hr:Row ((w1.alloc (.cells #[.int .i64 P.kind,.int .i64 P.level,.int .i64 P.count,.slice (some ⟨g0,0,none⟩) P.body.length c] 171)).alloc (.cells #[.int .i64 0,.int .i64 0,.int .i64 0,.int .i64 0,.int .i64 0,.int .i64 0,.int .i64 0,.int .i64 0] 168)) (some ⟨g0,0,none⟩) c P.body:=(ho.row' hbys).2.below (((Below.refl _ w1).alloc (jB _) _).alloc (by simp) _)
 have hs:Sw8 ((w1.alloc (.cells #[.int .i64 P.kind,.int .i64 P.level,.int .i64 P.count,.slice (some ⟨g0,0,none⟩) P.body.length c] 171)).alloc (.cells #[.int .i64 0,.int .i64 0,.int .i64 0,.int .i64 0,.int .i64 0,.int .i64 0,.int .i64 0,.int .i64 0] 168)) (w1.heap.size+1) sp0:=by
  have:=JG (w1.alloc (.cells #[.int .i64 P.kind,.int .i64 P.level,.int .i64 P.count,.slice (some ⟨g0,0,none⟩) P.body.length c] 171)) sp0 168
  simpa [sp0] using this
 have CR:=fH (w1.heap.size+1) g0 0 c P.body _ hs hr hlen (by omega);rw [hlen] at CR HQ HW ⊢;clear hs hr ho hb hg q;go_wp2_with fail
 refine CR.mono ?_;clear CR;rintro e w3 ⟨rfl,-,hb3⟩;rw [hrd];have q':Sw8 w3 w.heap.size sp0:=HQ.out.same (hb3.block _ (by omega));have HB3:Hid (Below w.heap.size w w3):=HW.out.trans (hb3.mono (by omega));clear HQ hb3;have HQ:Hid (Sl8 w3 w.heap.size sp0):=q'.1;obtain ⟨⟨q0,q1,q2,q3,q4,q5,q6,q7⟩,qf⟩:=q';have f0:=qf 0 (by omega);have f1:=qf 1 (by omega);have f2:=qf 2 (by omega);have f3:=qf 3 (by omega);have f4:=qf 4 (by omega);have f5:=qf 5 (by omega);have f6:=qf 6 (by omega);have f7:=qf 7 (by omega);clear qf;dsimp only [sp0] at q0 q1 q2 q3 q4 q5 q6 q7;go_wp2;clear q0 q1 q2 q3 q4 q5 q6 q7 f0 f1 f2 f3 f4 f5 f6 f7;obtain ⟨q0,q1,q2,q3,q4,q5,q6,q7⟩:=JN HQ.out sp0;unfold wr8 at q0 q1 q2 q3 q4 q5 q6 q7
 try dsimp only [sp0] at q0 q1 q2 q3 q4 q5 q6 q7
 refine bodyPost_ret (v:=.tuple #[spV sp0,.int .i64 4]) ?_ rfl ⟨rfl,zF HB3.out (jB _) sp0⟩;simp [results,Tryz.results151,go_sem,spV,sp0,q0,q1,q2,q3,q4,q5,q6,q7]
theorem dec_fin (a:Option Addr) (cap n:Nat) (w:World) (P:Pg) (E:Int)
  (C:∀o:Obj,Calls prog 173 #[.slice a n cap] (w.alloc o) fun e w'=>∃g c,e=.returned (.tuple #[pgV P g c,.int .i64 E])/\Own (w.alloc o).heap.size w' (.slice g P.body.length c) P.body/\Below (w.alloc o).heap.size (w.alloc o) w') (hE:E=0) (hk:(P.kind !=1)=false) (hl:(P.level !=0)=false) (hc:(P.count !=0)=false) (hlen:P.body.length=248) (hbys:Bys P.body) (hrd:rdB P.body=true) (x:Int) (hEN:enE (sdL P.body)=x) (T:Sp) (hT:sdL P.body=T) (V:Sp) (R:Int) (h2:x=1/\V=sp0/\R=4\/x=0/\V=T/\R=0):
  Calls prog 151 #[.slice a n cap] w fun e w'=>e=.returned (.tuple #[spV V,.int .i64 R])/\Below w.heap.size w w':=by
 subst hE;dsimp only [spV];dsimp only [pgV] at C;go_enter func151,ntmps151
 go_wp2_with fail
 refine (C _).mono ?_;clear C;rintro e w1 ⟨g,c,rfl,ho,hb⟩;have q:Sw8 w1 w.heap.size sp0:=(JG w sp0 29).same (hb.block _ (by simp));have HB:Hid (Below w.heap.size w w1):=((Below.refl _ w).alloc (jB _) _).trans (hb.mono (by simp));have HQ:Hid (Sw8 ((w1.alloc (.cells #[.int .i64 P.kind,.int .i64 P.level,.int .i64 P.count,.slice g P.body.length c] 171)).alloc (.cells #[.int .i64 0,.int .i64 0,.int .i64 0,.int .i64 0,.int .i64 0,.int .i64 0,.int .i64 0,.int .i64 0] 168)) w.heap.size sp0):=(q.alloc _).alloc _;have HW:Hid (Below w.heap.size w ((w1.alloc (.cells #[.int .i64 P.kind,.int .i64 P.level,.int .i64 P.count,.slice g P.body.length c] 171)).alloc (.cells #[.int .i64 0,.int .i64 0,.int .i64 0,.int .i64 0,.int .i64 0,.int .i64 0,.int .i64 0,.int .i64 0] 168))):=(HB.out.alloc HB.out.size _).alloc (jP HB.out.size (by simp)) _;have hqlt:=q.1.lt;obtain ⟨g0,c0,eg,_,_,_,_⟩:=kC ho 0 (by rw [hlen];decide);simp only [Value.slice.injEq,true_and] at eg;obtain ⟨rfl,rfl⟩:=eg;have hg:=(World.ownsRow.lt ho g0 rfl).2;have hr:Row ((w1.alloc (.cells #[.int .i64 P.kind,.int .i64 P.level,.int .i64 P.count,.slice (some ⟨g0,0,none⟩) P.body.length c] 171)).alloc (.cells #[.int .i64 0,.int .i64 0,.int .i64 0,.int .i64 0,.int .i64 0,.int .i64 0,.int .i64 0,.int .i64 0] 168)) (some ⟨g0,0,none⟩) c P.body:=(ho.row' hbys).2.below (((Below.refl _ w1).alloc (jB _) _).alloc (by simp) _)
 have hs:Sw8 ((w1.alloc (.cells #[.int .i64 P.kind,.int .i64 P.level,.int .i64 P.count,.slice (some ⟨g0,0,none⟩) P.body.length c] 171)).alloc (.cells #[.int .i64 0,.int .i64 0,.int .i64 0,.int .i64 0,.int .i64 0,.int .i64 0,.int .i64 0,.int .i64 0] 168)) (w1.heap.size+1) sp0:=by
  have:=JG (w1.alloc (.cells #[.int .i64 P.kind,.int .i64 P.level,.int .i64 P.count,.slice (some ⟨g0,0,none⟩) P.body.length c] 171)) sp0 168
  simpa [sp0] using this
 have CR:=fH (w1.heap.size+1) g0 0 c P.body _ hs hr hlen (by omega);rw [hlen] at CR HQ HW ⊢;clear hs hr ho hb hg q;go_wp2_with fail
 refine CR.mono ?_;clear CR;rintro e w3 ⟨rfl,hs3,hb3⟩;have hs3:=hs3 hrd;rw [hrd];have q':Sw8 w3 w.heap.size sp0:=HQ.out.same (hb3.block _ (by omega));have HB3:Hid (Below w.heap.size w w3):=HW.out.trans (hb3.mono (by omega));clear HQ hb3;have CK:=UY (sdL P.body) w3 _ rfl;rw [hEN] at CK;have HS3:Hid (Sl8 w3 (w1.heap.size+1) (sdL P.body)):=hs3.1;have HQ3:Hid (Sw8 w3 w.heap.size sp0):=q';rw [hT] at CK HS3;clear hs3 q' hEN hrd;dsimp only [spV] at CK;obtain ⟨k0,k1,k2,k3,k4,k5,k6,k7⟩:=HS3.out;go_wp2_with fail
 refine CK.mono ?_;clear CK;rintro e w4 ⟨rfl,hb4⟩;have hs4:=HS3.out.below hb4;have q':=HQ3.out.below hb4;have HB4:Hid (Below w.heap.size w w4):=HB3.out.trans (hb4.mono HB3.out.size);clear hb4 k0 k1 k2 k3 k4 k5 k6 k7;have HQ:Hid (Sl8 w4 w.heap.size sp0):=q'.1;obtain ⟨k0,k1,k2,k3,k4,k5,k6,k7⟩:=hs4;obtain ⟨⟨q0,q1,q2,q3,q4,q5,q6,q7⟩,qf⟩:=q';have f0:=qf 0 (by omega);have f1:=qf 1 (by omega);have f2:=qf 2 (by omega);have f3:=qf 3 (by omega);have f4:=qf 4 (by omega);have f5:=qf 5 (by omega);have f6:=qf 6 (by omega);have f7:=qf 7 (by omega);clear qf;dsimp only [sp0] at q0 q1 q2 q3 q4 q5 q6 q7;clear hT;rcases h2 with ⟨rfl,rfl,rfl⟩|⟨rfl,rfl,rfl⟩
 ·go_wp2;clear k0 k1 k2 k3 k4 k5 k6 k7;clear q0 q1 q2 q3 q4 q5 q6 q7 f0 f1 f2 f3 f4 f5 f6 f7;obtain ⟨q0,q1,q2,q3,q4,q5,q6,q7⟩:=JN HQ.out sp0;unfold wr8 at q0 q1 q2 q3 q4 q5 q6 q7
  try dsimp only [sp0] at q0 q1 q2 q3 q4 q5 q6 q7
  refine bodyPost_ret (v:=.tuple #[spV sp0,.int .i64 4]) ?_ rfl ⟨rfl,zF HB4.out (jB _) sp0⟩;simp [results,Tryz.results151,go_sem,spV,sp0,q0,q1,q2,q3,q4,q5,q6,q7]
 ·go_wp2;clear k0 k1 k2 k3 k4 k5 k6 k7;clear q0 q1 q2 q3 q4 q5 q6 q7 f0 f1 f2 f3 f4 f5 f6 f7;obtain ⟨q0,q1,q2,q3,q4,q5,q6,q7⟩:=JN HQ.out V;unfold wr8 at q0 q1 q2 q3 q4 q5 q6 q7
  try dsimp only [sp0] at q0 q1 q2 q3 q4 q5 q6 q7
  refine bodyPost_ret (v:=.tuple #[spV V,.int .i64 0]) ?_ rfl ⟨rfl,zF HB4.out (jB _) V⟩;simp [results,Tryz.results151,go_sem,spV,q0,q1,q2,q3,q4,q5,q6,q7]
theorem decode_v (a:Option Addr) (cap n:Nat) (zs:List Int) (w:World) (h:Row w a cap zs) (hn:zs.length=n) (T:Sp) (hT:deS zs=T) (E:Int) (hE:deE zs=E):
  Calls prog 151 #[.slice a n cap] w fun e w'=>e=.returned (.tuple #[spV T,.int .i64 E])/\Below w.heap.size w w':=by
 subst hT hE;have C:∀o:Obj,Calls prog 173 #[.slice a n cap] (w.alloc o) fun e w'=>∃g c,e=.returned (.tuple #[pgV (opP zs) g c,.int .i64 (opE zs)])/\Own (w.alloc o).heap.size w' (.slice g (opP zs).body.length c) (opP zs).body/\Below (w.alloc o).heap.size (w.alloc o) w':=fun o=>open_v a cap n zs _ (h.below ((Below.refl _ w).alloc (jB _) o)) hn _ rfl _ rfl
 by_cases ho:opE zs=0
 ·have hlen:(opP zs).body.length=248:=(JW h.1 ho).2.2.2;have hbys:Bys (opP zs).body:=XA h.1;have hd:=deB_split (opP zs);have bad:deB (opP zs)=false->(deS zs=sp0/\deE zs=4):=fun hB=>⟨(GL ho hB).2,(GL ho hB).1⟩
  by_cases hk:(opP zs).kind=1;rotate_left
  ·obtain ⟨e1,e2⟩:=bad (by rw [hd];simp [hk]);rw [e1,e2];exact UA a cap n w _ _ C ho (.inl (by simpa using hk))
  by_cases hl:(opP zs).level=0;rotate_left
  ·obtain ⟨e1,e2⟩:=bad (by rw [hd];simp [hl]);rw [e1,e2];exact UA a cap n w _ _ C ho (.inr (.inl ⟨by simpa using hk,by simpa using hl⟩))
  by_cases hc:(opP zs).count=0;rotate_left
  ·obtain ⟨e1,e2⟩:=bad (by rw [hd];simp [hc]);rw [e1,e2];exact UA a cap n w _ _ C ho (.inr (.inr ⟨by simpa using hk,by simpa using hl,by simpa using hc⟩))
  cases hr:rdB (opP zs).body
  ·obtain ⟨e1,e2⟩:=bad (by rw [hd,hr];simp);rw [e1,e2];exact dec_read a cap n w _ _ C ho (by simpa using hk) (by simpa using hl) (by simpa using hc) hlen hbys hr
  cases hok:okS (sdL (opP zs).body)
  ·obtain ⟨e1,e2⟩:=bad (by rw [hd,hok];simp);rw [e1,e2];exact dec_fin a cap n w _ _ C ho (by simpa using hk) (by simpa using hl) (by simpa using hc) hlen hbys hr 1 (by unfold enE;rw [hok];rfl) _ rfl _ _ (.inl ⟨rfl,rfl,rfl⟩)
  ·obtain ⟨e1,e2⟩:=de_good ho (by rw [hd,hok,hr];simp [hk,hl,hc]);rw [e1,e2];exact dec_fin a cap n w _ _ C ho (by simpa using hk) (by simpa using hl) (by simpa using hc) hlen hbys hr 0 (by unfold enE;rw [hok];rfl) _ rfl _ _ (.inr ⟨rfl,rfl,rfl⟩)
 ·obtain ⟨e1,e2⟩:=de_no ho;rw [e1,e2];exact dec_err a cap n w _ _ C (by simpa using ho)
theorem rdec_cs {V:World} {L:List Int} {g0 c:Nat} {T:Sp} (hT:sdL L=T)
  (CG:∀p n,Calls prog 198 #[.slice (some ⟨g0,0,none⟩) 248 c,.int .i64 p,.int .i64 n] V fun e w'=>e=.returned (.int .i64 (getI L p n))/\V=w'):
  Hid (Calls prog 198 #[.slice (some ⟨g0,0,none⟩) 248 c,.int .i64 0,.int .i64 8] V fun e w'=>e=.returned (.int .i64 T.g)/\V=w')/\
  Hid (Calls prog 198 #[.slice (some ⟨g0,0,none⟩) 248 c,.int .i64 8,.int .i64 4] V fun e w'=>e=.returned (.int .i64 T.p)/\V=w')/\
  Hid (Calls prog 198 #[.slice (some ⟨g0,0,none⟩) 248 c,.int .i64 12,.int .i64 4] V fun e w'=>e=.returned (.int .i64 T.r)/\V=w')/\
  Hid (Calls prog 198 #[.slice (some ⟨g0,0,none⟩) 248 c,.int .i64 16,.int .i64 2] V fun e w'=>e=.returned (.int .i64 T.h)/\V=w')/\
  Hid (Calls prog 198 #[.slice (some ⟨g0,0,none⟩) 248 c,.int .i64 18,.int .i64 4] V fun e w'=>e=.returned (.int .i64 T.b)/\V=w')/\
  Hid (Calls prog 198 #[.slice (some ⟨g0,0,none⟩) 248 c,.int .i64 22,.int .i64 4] V fun e w'=>e=.returned (.int .i64 T.l)/\V=w')/\
  Hid (Calls prog 198 #[.slice (some ⟨g0,0,none⟩) 248 c,.int .i64 26,.int .i64 4] V fun e w'=>e=.returned (.int .i64 T.s)/\V=w')/\
  Hid (Calls prog 198 #[.slice (some ⟨g0,0,none⟩) 248 c,.int .i64 30,.int .i64 4] V fun e w'=>e=.returned (.int .i64 T.f)/\V=w'):=by
 subst hT;exact ⟨CG 0 8,CG 8 4,CG 12 4,CG 16 2,CG 18 4,CG 22 4,CG 26 4,CG 30 4⟩
theorem rdec_err (a:Option Addr) (cap n:Nat) (w:World) (P:Pg) (E:Int)
  (C:∀o:Obj,Calls prog 197 #[.slice a n cap] (w.alloc o) fun e w'=>∃g c,e=.returned (.tuple #[pgV P g c,.int .i64 E])/\Own (w.alloc o).heap.size w' (.slice g P.body.length c) P.body/\Below (w.alloc o).heap.size (w.alloc o) w') (hE:(E !=0)=true):
  Calls prog 164 #[.slice a n cap] w fun e w'=>e=.returned (.tuple #[spV sp0,.int .i64 E])/\Below w.heap.size w w':=by
 dsimp only [spV,sp0];dsimp only [pgV] at C;go_enter func164,ntmps164
 go_wp2_with fail
 refine (C _).mono ?_;clear C;rintro e w1 ⟨g,c,rfl,ho,hb⟩;have q:Sw8 w1 w.heap.size sp0:=(JG w sp0 29).same (hb.block _ (by simp));have HB:Hid (Below w.heap.size w w1):=((Below.refl _ w).alloc (jB _) _).trans (hb.mono (by simp));have HQ:Hid (Sl8 (w1.alloc (.cells #[.int .i64 P.kind,.int .i64 P.level,.int .i64 P.count,.slice g P.body.length c] 171)) w.heap.size sp0):=(q.alloc _).1;have q':=q.alloc (.cells #[.int .i64 P.kind,.int .i64 P.level,.int .i64 P.count,.slice g P.body.length c] 171);clear hb ho q;obtain ⟨⟨q0,q1,q2,q3,q4,q5,q6,q7⟩,qf⟩:=q';have f0:=qf 0 (by omega);have f1:=qf 1 (by omega);have f2:=qf 2 (by omega);have f3:=qf 3 (by omega);have f4:=qf 4 (by omega);have f5:=qf 5 (by omega);have f6:=qf 6 (by omega);have f7:=qf 7 (by omega);clear qf;dsimp only [sp0] at q0 q1 q2 q3 q4 q5 q6 q7;go_wp2;clear q0 q1 q2 q3 q4 q5 q6 q7 f0 f1 f2 f3 f4 f5 f6 f7;obtain ⟨q0,q1,q2,q3,q4,q5,q6,q7⟩:=JN HQ.out sp0;unfold wr8 at q0 q1 q2 q3 q4 q5 q6 q7
 try dsimp only [sp0] at q0 q1 q2 q3 q4 q5 q6 q7
 refine bodyPost_ret (v:=.tuple #[spV sp0,.int .i64 E]) ?_ rfl ⟨rfl,zF (HB.out.alloc HB.out.size _) (jB _) sp0⟩;simp [results,Tryz.results164,go_sem,spV,sp0,q0,q1,q2,q3,q4,q5,q6,q7]
theorem uC (a:Option Addr) (cap n:Nat) (w:World) (P:Pg) (E:Int)
  (C:∀o:Obj,Calls prog 197 #[.slice a n cap] (w.alloc o) fun e w'=>∃g c,e=.returned (.tuple #[pgV P g c,.int .i64 E])/\Own (w.alloc o).heap.size w' (.slice g P.body.length c) P.body/\Below (w.alloc o).heap.size (w.alloc o) w') (hE:E=0) (hlen:P.body.length=248) (hbys:Bys P.body) (T:Sp) (hT:sdL P.body=T) (x:Bool) (hnu:nouB (P.body.drop 34)=x) (hb:(P.kind !=1)=true\/((P.kind !=1)=false/\(P.level !=0)=true)\/((P.kind !=1)=false/\(P.level !=0)=false/\(P.count !=0)=true)\/(P.kind !=1)=false/\(P.level !=0)=false/\(P.count !=0)=false/\x=false):
  Calls prog 164 #[.slice a n cap] w fun e w'=>e=.returned (.tuple #[spV sp0,.int .i64 4])/\Below w.heap.size w w':=by
 subst hE;dsimp only [spV,sp0];dsimp only [pgV] at C;go_enter func164,ntmps164
 go_wp2_with fail
 refine (C _).mono ?_;clear C;rintro e w1 ⟨g,c,rfl,ho,hbl⟩;have q:Sw8 w1 w.heap.size sp0:=(JG w sp0 29).same (hbl.block _ (by simp));have HB:Hid (Below w.heap.size w w1):=((Below.refl _ w).alloc (jB _) _).trans (hbl.mono (by simp));have HQ:Hid (Sw8 ((w1.alloc (.cells #[.int .i64 P.kind,.int .i64 P.level,.int .i64 P.count,.slice g P.body.length c] 171)).alloc (.cells #[.int .i64 T.g,.int .i64 T.p,.int .i64 T.r,.int .i64 T.h,.int .i64 T.b,.int .i64 T.l,.int .i64 T.s,.int .i64 T.f] 29)) w.heap.size sp0):=(q.alloc _).alloc _;have HW:Hid (Below w.heap.size w ((w1.alloc (.cells #[.int .i64 P.kind,.int .i64 P.level,.int .i64 P.count,.slice g P.body.length c] 171)).alloc (.cells #[.int .i64 T.g,.int .i64 T.p,.int .i64 T.r,.int .i64 T.h,.int .i64 T.b,.int .i64 T.l,.int .i64 T.s,.int .i64 T.f] 29))):=(HB.out.alloc HB.out.size _).alloc (jP HB.out.size (by simp)) _;obtain ⟨g0,c0,eg,hx1,hx2,hx3,hx4⟩:=kC ho 0 (by rw [hlen];decide);clear hx1 hx2 hx3 hx4;simp only [Value.slice.injEq,true_and] at eg;obtain ⟨rfl,rfl⟩:=eg;have hr:Row (w1.alloc (.cells #[.int .i64 P.kind,.int .i64 P.level,.int .i64 P.count,.slice (some ⟨g0,0,none⟩) P.body.length c] 171)) (some ⟨g0,0,none⟩) c P.body:=(ho.row' hbys).2.below ((Below.refl _ w1).alloc (jB _) _);have CG:=fun p n=>JQ _ _ _ p n _ hr
 have HR2:Hid (Row ((w1.alloc (.cells #[.int .i64 P.kind,.int .i64 P.level,.int .i64 P.count,.slice (some ⟨g0,0,none⟩) P.body.length c] 171)).alloc (.cells #[.int .i64 T.g,.int .i64 T.p,.int .i64 T.r,.int .i64 T.h,.int .i64 T.b,.int .i64 T.l,.int .i64 T.s,.int .i64 T.f] 29)) (some ⟨g0,0,none⟩) c P.body):=hr.below ((Below.refl _ _).alloc (jB _) _);rw [hlen] at CG;rw [hlen] at HR2;rw [hlen] at HQ HW ⊢;obtain ⟨C0,C1,C2,C3,C4,C5,C6,C7⟩:=rdec_cs hT CG;clear CG ho hbl q hr;have CN:=XQ g0 0 c 248 34 P.body _ HR2.out hlen (by decide) x hnu;have q':=HQ.out;obtain ⟨⟨q0,q1,q2,q3,q4,q5,q6,q7⟩,qf⟩:=q';have f0:=qf 0 (by omega);have f1:=qf 1 (by omega);have f2:=qf 2 (by omega);have f3:=qf 3 (by omega);have f4:=qf 4 (by omega);have f5:=qf 5 (by omega);have f6:=qf 6 (by omega);have f7:=qf 7 (by omega);clear qf;dsimp only [sp0] at q0 q1 q2 q3 q4 q5 q6 q7;clear HR2 hT hnu;go_wp2_with fail
 refine C0.out.mono ?_;clear C0;rintro e wx ⟨rfl,rfl⟩;go_wp2_with fail
 refine C1.out.mono ?_;clear C1;rintro e wx ⟨rfl,rfl⟩;go_wp2_with fail
 refine C2.out.mono ?_;clear C2;rintro e wx ⟨rfl,rfl⟩;go_wp2_with fail
 refine C3.out.mono ?_;clear C3;rintro e wx ⟨rfl,rfl⟩;go_wp2_with fail
 refine C4.out.mono ?_;clear C4;rintro e wx ⟨rfl,rfl⟩;go_wp2_with fail
 refine C5.out.mono ?_;clear C5;rintro e wx ⟨rfl,rfl⟩;go_wp2_with fail
 refine C6.out.mono ?_;clear C6;rintro e wx ⟨rfl,rfl⟩;go_wp2_with fail
 refine C7.out.mono ?_;clear C7;rintro e wx ⟨rfl,rfl⟩;rcases hb with hk|⟨hk,hl⟩|⟨hk,hl,hc⟩|⟨hk,hl,hc,rfl⟩;rotate_left 3
 ·go_wp2_with fail
  refine CN.mono ?_;clear CN;rintro e wx ⟨rfl,rfl⟩;go_wp2;clear q0 q1 q2 q3 q4 q5 q6 q7 f0 f1 f2 f3 f4 f5 f6 f7;obtain ⟨q0,q1,q2,q3,q4,q5,q6,q7⟩:=JN HQ.out.1 sp0;unfold wr8 at q0 q1 q2 q3 q4 q5 q6 q7
  try dsimp only [sp0] at q0 q1 q2 q3 q4 q5 q6 q7
  refine bodyPost_ret (v:=.tuple #[spV sp0,.int .i64 4]) ?_ rfl ⟨rfl,zF HW.out (jB _) sp0⟩;simp [results,Tryz.results164,go_sem,spV,sp0,q0,q1,q2,q3,q4,q5,q6,q7]
 all_goals (
  clear CN;go_wp2;clear q0 q1 q2 q3 q4 q5 q6 q7 f0 f1 f2 f3 f4 f5 f6 f7;obtain ⟨q0,q1,q2,q3,q4,q5,q6,q7⟩:=JN HQ.out.1 sp0;unfold wr8 at q0 q1 q2 q3 q4 q5 q6 q7
  try dsimp only [sp0] at q0 q1 q2 q3 q4 q5 q6 q7
  refine bodyPost_ret (v:=.tuple #[spV sp0,.int .i64 4]) ?_ rfl ⟨rfl,zF HW.out (jB _) sp0⟩;simp [results,Tryz.results164,go_sem,spV,sp0,q0,q1,q2,q3,q4,q5,q6,q7])
theorem rdec_fin (a:Option Addr) (cap n:Nat) (w:World) (P:Pg) (E:Int)
  (C:∀o:Obj,Calls prog 197 #[.slice a n cap] (w.alloc o) fun e w'=>∃g c,e=.returned (.tuple #[pgV P g c,.int .i64 E])/\Own (w.alloc o).heap.size w' (.slice g P.body.length c) P.body/\Below (w.alloc o).heap.size (w.alloc o) w') (hE:E=0) (hlen:P.body.length=248) (hbys:Bys P.body) (T:Sp) (hT:sdL P.body=T) (hk:(P.kind !=1)=false) (hl:(P.level !=0)=false) (hc:(P.count !=0)=false) (hnu:nouB (P.body.drop 34)=true) (x:Int) (hEN:enE T=x) (V:Sp) (R:Int) (h2:x=1/\V=sp0/\R=4\/x=0/\V=T/\R=0):
  Calls prog 164 #[.slice a n cap] w fun e w'=>e=.returned (.tuple #[spV V,.int .i64 R])/\Below w.heap.size w w':=by
 subst hE;dsimp only [spV];dsimp only [pgV] at C;go_enter func164,ntmps164
 go_wp2_with fail
 refine (C _).mono ?_;clear C;rintro e w1 ⟨g,c,rfl,ho,hb⟩;have q:Sw8 w1 w.heap.size sp0:=(JG w sp0 29).same (hb.block _ (by simp));have HB:Hid (Below w.heap.size w w1):=((Below.refl _ w).alloc (jB _) _).trans (hb.mono (by simp));have HQ:Hid (Sw8 ((w1.alloc (.cells #[.int .i64 P.kind,.int .i64 P.level,.int .i64 P.count,.slice g P.body.length c] 171)).alloc (.cells #[.int .i64 T.g,.int .i64 T.p,.int .i64 T.r,.int .i64 T.h,.int .i64 T.b,.int .i64 T.l,.int .i64 T.s,.int .i64 T.f] 29)) w.heap.size sp0):=(q.alloc _).alloc _;have HW:Hid (Below w.heap.size w ((w1.alloc (.cells #[.int .i64 P.kind,.int .i64 P.level,.int .i64 P.count,.slice g P.body.length c] 171)).alloc (.cells #[.int .i64 T.g,.int .i64 T.p,.int .i64 T.r,.int .i64 T.h,.int .i64 T.b,.int .i64 T.l,.int .i64 T.s,.int .i64 T.f] 29))):=(HB.out.alloc HB.out.size _).alloc (jP HB.out.size (by simp)) _;obtain ⟨g0,c0,eg,hx1,hx2,hx3,hx4⟩:=kC ho 0 (by rw [hlen];decide);clear hx1 hx2 hx3 hx4;simp only [Value.slice.injEq,true_and] at eg;obtain ⟨rfl,rfl⟩:=eg;have hr:Row (w1.alloc (.cells #[.int .i64 P.kind,.int .i64 P.level,.int .i64 P.count,.slice (some ⟨g0,0,none⟩) P.body.length c] 171)) (some ⟨g0,0,none⟩) c P.body:=(ho.row' hbys).2.below ((Below.refl _ w1).alloc (jB _) _);have CG:=fun p n=>JQ _ _ _ p n _ hr
 have HR2:Hid (Row ((w1.alloc (.cells #[.int .i64 P.kind,.int .i64 P.level,.int .i64 P.count,.slice (some ⟨g0,0,none⟩) P.body.length c] 171)).alloc (.cells #[.int .i64 T.g,.int .i64 T.p,.int .i64 T.r,.int .i64 T.h,.int .i64 T.b,.int .i64 T.l,.int .i64 T.s,.int .i64 T.f] 29)) (some ⟨g0,0,none⟩) c P.body):=hr.below ((Below.refl _ _).alloc (jB _) _);rw [hlen] at CG;rw [hlen] at HR2;rw [hlen] at HQ HW ⊢;obtain ⟨C0,C1,C2,C3,C4,C5,C6,C7⟩:=rdec_cs hT CG;clear CG ho hb q hr;have CN:=XQ g0 0 c 248 34 P.body _ HR2.out hlen (by decide) true hnu;have CK:=XR T ((w1.alloc (.cells #[.int .i64 P.kind,.int .i64 P.level,.int .i64 P.count,.slice (some ⟨g0,0,none⟩) 248 c] 171)).alloc (.cells #[.int .i64 T.g,.int .i64 T.p,.int .i64 T.r,.int .i64 T.h,.int .i64 T.b,.int .i64 T.l,.int .i64 T.s,.int .i64 T.f] 29));rw [hEN] at CK;dsimp only [spV] at CK
 have HS:Hid (Sl8 ((w1.alloc (.cells #[.int .i64 P.kind,.int .i64 P.level,.int .i64 P.count,.slice (some ⟨g0,0,none⟩) 248 c] 171)).alloc (.cells #[.int .i64 T.g,.int .i64 T.p,.int .i64 T.r,.int .i64 T.h,.int .i64 T.b,.int .i64 T.l,.int .i64 T.s,.int .i64 T.f] 29)) (w1.heap.size+1) T):=by
  show Sl8 _ _ _;have:=JK (w1.alloc (.cells #[.int .i64 P.kind,.int .i64 P.level,.int .i64 P.count,.slice (some ⟨g0,0,none⟩) 248 c] 171)) T 29
  simpa using this
 clear HR2 hT hnu hEN;go_wp2_with fail
 refine C0.out.mono ?_;clear C0;rintro e wx ⟨rfl,rfl⟩;go_wp2_with fail
 refine C1.out.mono ?_;clear C1;rintro e wx ⟨rfl,rfl⟩;go_wp2_with fail
 refine C2.out.mono ?_;clear C2;rintro e wx ⟨rfl,rfl⟩;go_wp2_with fail
 refine C3.out.mono ?_;clear C3;rintro e wx ⟨rfl,rfl⟩;go_wp2_with fail
 refine C4.out.mono ?_;clear C4;rintro e wx ⟨rfl,rfl⟩;go_wp2_with fail
 refine C5.out.mono ?_;clear C5;rintro e wx ⟨rfl,rfl⟩;go_wp2_with fail
 refine C6.out.mono ?_;clear C6;rintro e wx ⟨rfl,rfl⟩;go_wp2_with fail
 refine C7.out.mono ?_;clear C7;rintro e wx ⟨rfl,rfl⟩;go_wp2_with fail
 refine CN.mono ?_;clear CN;rintro e wx ⟨rfl,rfl⟩;go_wp2_with fail
 refine CK.mono ?_;clear CK;rintro e w4 ⟨rfl,hb4⟩;have q':=HQ.out.below hb4;have hs4:=HS.out.below hb4;have HB4:Hid (Below w.heap.size w w4):=HW.out.trans (hb4.mono HW.out.size);have HQ4:Hid (Sl8 w4 w.heap.size sp0):=q'.1;obtain ⟨k0,k1,k2,k3,k4,k5,k6,k7⟩:=hs4;clear hb4;obtain ⟨⟨q0,q1,q2,q3,q4,q5,q6,q7⟩,qf⟩:=q';have f0:=qf 0 (by omega);have f1:=qf 1 (by omega);have f2:=qf 2 (by omega);have f3:=qf 3 (by omega);have f4:=qf 4 (by omega);have f5:=qf 5 (by omega);have f6:=qf 6 (by omega);have f7:=qf 7 (by omega);clear qf;dsimp only [sp0] at q0 q1 q2 q3 q4 q5 q6 q7;rcases h2 with ⟨rfl,rfl,rfl⟩|⟨rfl,rfl,rfl⟩
 ·go_wp2;clear k0 k1 k2 k3 k4 k5 k6 k7;clear q0 q1 q2 q3 q4 q5 q6 q7 f0 f1 f2 f3 f4 f5 f6 f7;obtain ⟨q0,q1,q2,q3,q4,q5,q6,q7⟩:=JN HQ4.out sp0;unfold wr8 at q0 q1 q2 q3 q4 q5 q6 q7
  try dsimp only [sp0] at q0 q1 q2 q3 q4 q5 q6 q7
  refine bodyPost_ret (v:=.tuple #[spV sp0,.int .i64 4]) ?_ rfl ⟨rfl,zF HB4.out (jB _) sp0⟩;simp [results,Tryz.results164,go_sem,spV,sp0,q0,q1,q2,q3,q4,q5,q6,q7]
 ·go_wp2;clear k0 k1 k2 k3 k4 k5 k6 k7;clear q0 q1 q2 q3 q4 q5 q6 q7 f0 f1 f2 f3 f4 f5 f6 f7;obtain ⟨q0,q1,q2,q3,q4,q5,q6,q7⟩:=JN HQ4.out V;unfold wr8 at q0 q1 q2 q3 q4 q5 q6 q7
  try dsimp only [sp0] at q0 q1 q2 q3 q4 q5 q6 q7
  refine bodyPost_ret (v:=.tuple #[spV V,.int .i64 0]) ?_ rfl ⟨rfl,zF HB4.out (jB _) V⟩;simp [results,Tryz.results164,go_sem,spV,q0,q1,q2,q3,q4,q5,q6,q7]
theorem fL (a:Option Addr) (cap n:Nat) (zs:List Int) (w:World) (h:Row w a cap zs) (hn:zs.length=n) (T:Sp) (hT:deS zs=T) (E:Int) (hE:deE zs=E):
  Calls prog 164 #[.slice a n cap] w fun e w'=>e=.returned (.tuple #[spV T,.int .i64 E])/\Below w.heap.size w w':=by
 subst hT hE;have C:∀o:Obj,Calls prog 197 #[.slice a n cap] (w.alloc o) fun e w'=>∃g c,e=.returned (.tuple #[pgV (opP zs) g c,.int .i64 (opE zs)])/\Own (w.alloc o).heap.size w' (.slice g (opP zs).body.length c) (opP zs).body/\Below (w.alloc o).heap.size (w.alloc o) w':=fun o=>ropen_v a cap n zs _ (h.below ((Below.refl _ w).alloc (jB _) o)) hn _ rfl _ rfl
 by_cases ho:opE zs=0
 ·have hlen:(opP zs).body.length=248:=(JW h.1 ho).2.2.2;have hbys:Bys (opP zs).body:=XA h.1;have bad:deB (opP zs)=false->(deS zs=sp0/\deE zs=4):=fun hB=>⟨(GL ho hB).2,(GL ho hB).1⟩
  by_cases hk:(opP zs).kind=1;rotate_left
  ·obtain ⟨e1,e2⟩:=bad (by unfold deB;simp [hk]);rw [e1,e2];exact uC a cap n w _ _ C ho hlen hbys _ rfl _ rfl (.inl (by simpa using hk))
  by_cases hl:(opP zs).level=0;rotate_left
  ·obtain ⟨e1,e2⟩:=bad (by unfold deB;simp [hl]);rw [e1,e2];exact uC a cap n w _ _ C ho hlen hbys _ rfl _ rfl (.inr (.inl ⟨by simpa using hk,by simpa using hl⟩))
  by_cases hc:(opP zs).count=0;rotate_left
  ·obtain ⟨e1,e2⟩:=bad (by unfold deB;simp [hc]);rw [e1,e2];exact uC a cap n w _ _ C ho hlen hbys _ rfl _ rfl (.inr (.inr (.inl ⟨by simpa using hk,by simpa using hl,by simpa using hc⟩)))
  cases hr:nouB ((opP zs).body.drop 34)
  ·obtain ⟨e1,e2⟩:=bad (by unfold deB;rw [hr];simp);rw [e1,e2];exact uC a cap n w _ _ C ho hlen hbys _ rfl _ rfl (.inr (.inr (.inr ⟨by simpa using hk,by simpa using hl,by simpa using hc,hr⟩)))
  cases hok:okS (sdL (opP zs).body)
  ·obtain ⟨e1,e2⟩:=bad (by unfold deB;rw [hok];simp);rw [e1,e2];exact rdec_fin a cap n w _ _ C ho hlen hbys _ rfl (by simpa using hk) (by simpa using hl) (by simpa using hc) hr 1 (by unfold enE;rw [hok];rfl) _ _ (.inl ⟨rfl,rfl,rfl⟩)
  ·obtain ⟨e1,e2⟩:=de_good ho (by unfold deB;rw [hok,hr];simp [hk,hl,hc]);rw [e1,e2];exact rdec_fin a cap n w _ _ C ho hlen hbys _ rfl (by simpa using hk) (by simpa using hl) (by simpa using hc) hr 0 (by unfold enE;rw [hok];rfl) _ _ (.inr ⟨rfl,rfl,rfl⟩)
 ·obtain ⟨e1,e2⟩:=de_no ho;rw [e1,e2];exact rdec_err a cap n w _ _ C (by simpa using ho)
def chStep (i:Int) (z:List Int) (c:Sp × Int):Sp × Int:=if deE z=0/\c.1.g<(deS z).g then (deS z,i) else c
def chC (x y:List Int) (k:Nat):Sp × Int:=match k with
 |0=>(sp0,-1)
 |1=>chStep 0 x (sp0,-1)
 |_=>chStep 1 y (chStep 0 x (sp0,-1))
def chS (x y:List Int):Sp:=if deE x=0/\(deE y≠0\/(deS y).g<=(deS x).g) then deS x else deS y
def chP (x y:List Int):Int:=if deE x=0/\(deE y≠0\/(deS y).g<=(deS x).g) then 0 else if deE y=0 then 1 else-1
def chE (x y:List Int):Int:=if deE x≠0/\deE y≠0 then 8 else 0
theorem de_g {z:List Int} (h:deE z=0):0<(deS z).g:=by
 have:=(ZI (de_gen h)).1;omega
theorem de_0 {z:List Int} (h:deE z≠0):deS z=sp0:=by unfold deS;rw [if_neg h]
theorem ch_no {x y:List Int} (h:(chC x y 2).2<0):chS x y=sp0/\chP x y= -1/\chE x y=8/\(chC x y 2).2= -1:=by
 by_cases hx:deE x=0
 ·exfalso;have gx:=de_g hx;have e1:chStep 0 x (sp0,-1)=(deS x,0):=by unfold chStep;rw [if_pos ⟨hx,gx⟩]
  have:chC x y 2=chStep 1 y (deS x,0):=by unfold chC;rw [e1];rfl
  rw [this] at h;unfold chStep at h;split at h<;>simp at h
 ·have e1:chStep 0 x (sp0,-1)=(sp0,-1):=by unfold chStep;rw [if_neg (fun hh=>hx hh.1)]
  have e2:chC x y 2=chStep 1 y (sp0,-1):=by unfold chC;rw [e1];rfl
  by_cases hy:deE y=0
  ·exfalso;have gy:=de_g hy;rw [e2] at h;unfold chStep at h;rw [if_pos ⟨hy,gy⟩] at h;simp at h
  ·have e3:chC x y 2=(sp0,-1):=by rw [e2];unfold chStep;rw [if_neg (fun hh=>hy hh.1)]
   refine ⟨?_,?_,?_,?_⟩
   ·unfold chS;rw [if_neg (fun hh=>hx hh.1)];exact de_0 hy
   ·unfold chP;rw [if_neg (fun hh=>hx hh.1),if_neg hy]
   ·unfold chE;rw [if_pos ⟨hx,hy⟩]
   ·rw [e3]
theorem ch_yes {x y:List Int} (h:¬(chC x y 2).2<0):chS x y=(chC x y 2).1/\chP x y=(chC x y 2).2/\chE x y=0:=by
 by_cases hx:deE x=0
 ·have gx:=de_g hx;have e1:chStep 0 x (sp0,-1)=(deS x,0):=by unfold chStep;rw [if_pos ⟨hx,gx⟩]
  have e2:chC x y 2=chStep 1 y (deS x,0):=by unfold chC;rw [e1];rfl
  have e0:chE x y=0:=by unfold chE;rw [if_neg (fun hh=>hh.1 hx)]
  by_cases hy:deE y=0/\(deS x).g<(deS y).g
  ·have e3:chC x y 2=(deS y,1):=by rw [e2];unfold chStep;rw [if_pos hy]
   have hn:¬(deE x=0/\(deE y≠0\/(deS y).g<=(deS x).g)):=fun hh=>by
    rcases hh.2 with h1|h1
    ·exact h1 hy.1
    ·omega
   rw [e3];refine ⟨?_,?_,e0⟩
   ·unfold chS;rw [if_neg hn]
   ·unfold chP;rw [if_neg hn,if_pos hy.1]
  ·have e3:chC x y 2=(deS x,0):=by rw [e2];unfold chStep;rw [if_neg hy]
   have hn:deE x=0/\(deE y≠0\/(deS y).g<=(deS x).g):=⟨hx,by
    by_cases hy0:deE y=0
    ·right;by_cases hg:(deS x).g<(deS y).g
     ·exact absurd ⟨hy0,hg⟩ hy
     ·omega
    ·exact .inl hy0⟩
   rw [e3];refine ⟨?_,?_,e0⟩
   ·unfold chS;rw [if_pos hn]
   ·unfold chP;rw [if_pos hn]
 ·have e1:chStep 0 x (sp0,-1)=(sp0,-1):=by unfold chStep;rw [if_neg (fun hh=>hx hh.1)]
  have e2:chC x y 2=chStep 1 y (sp0,-1):=by unfold chC;rw [e1];rfl
  by_cases hy:deE y=0
  ·have gy:=de_g hy;have e3:chC x y 2=(deS y,1):=by rw [e2];unfold chStep;rw [if_pos ⟨hy,gy⟩]
   rw [e3];refine ⟨?_,?_,?_⟩
   ·unfold chS;rw [if_neg (fun hh=>hx hh.1)]
   ·unfold chP;rw [if_neg (fun hh=>hx hh.1),if_pos hy]
   ·unfold chE;rw [if_neg (fun hh=>hh.2 hy)]
  ·exfalso;apply h;have e3:chC x y 2=(sp0,-1):=by rw [e2];unfold chStep;rw [if_neg (fun hh=>hy hh.1)]
   rw [e3];decide
structure Chz (w wr:World) (x y:List Int) (a a':Option Addr) (n n' cap cap':Nat) (k:Nat):Prop where
 r:Sw8 wr w.heap.size sp0
 c:Sw8 wr (w.heap.size+1) (chC x y k).1
 l0:wr.cell? ⟨w.heap.size+1+1,0,none⟩=some (.slice a n cap)
 l1:wr.cell? ⟨w.heap.size+1+1,1,none⟩=some (.slice a' n' cap')
 bel:Below w.heap.size w wr
theorem Chz.below {w wr w1:World} {x y:List Int} {a a':Option Addr} {n n' cap cap' k:Nat} (h:Chz w wr x y a a' n n' cap cap' k) (hb:Below wr.heap.size wr w1):Chz w w1 x y a a' n n' cap cap' k where
 r:=h.r.below hb
 c:=h.c.below hb
 l0:=(hb.cell (p:=⟨_,_,_⟩) (block_lt_of_cell h.l0)).trans h.l0
 l1:=(hb.cell (p:=⟨_,_,_⟩) (block_lt_of_cell h.l1)).trans h.l1
 bel:=h.bel.trans (hb.mono h.bel.size)
theorem VD (w:World) (B:Nat) (T:Sp) (j:Nat) (h:j≠B):(wr8 w B T).heap[j]?=w.heap[j]?:=by
 have ne:∀i,j≠(⟨B,i,none⟩:Addr).block:=fun i=>h
 unfold wr8;rw [Below.heap_setCell _ _ _ _ (ne 7),Below.heap_setCell _ _ _ _ (ne 6),Below.heap_setCell _ _ _ _ (ne 5),Below.heap_setCell _ _ _ _ (ne 4),Below.heap_setCell _ _ _ _ (ne 3),Below.heap_setCell _ _ _ _ (ne 2),Below.heap_setCell _ _ _ _ (ne 1),Below.heap_setCell _ _ _ _ (ne 0)]
theorem wr8_sw {w:World} {B:Nat} {S:Sp} (h:Sw8 w B S) (T:Sp):Sw8 (wr8 w B T) B T:=
 ⟨JN h.1 T,fun k hk=>by unfold wr8;simp only [World.frozen?_setCell];exact h.2 k hk⟩
theorem Chz.took {w wr:World} {x y:List Int} {a a':Option Addr} {n n' cap cap' k:Nat} (h:Chz w wr x y a a' n n' cap cap' k) (T:Sp) (hT:(chC x y (k+1)).1=T):Chz w (wr8 wr (w.heap.size+1) T) x y a a' n n' cap cap' (k+1) where
 r:=h.r.same (VD _ _ _ _ (by omega))
 c:=by rw [hT];exact wr8_sw h.c T
 l0:=(World.cell?_of_block (a:=⟨_,_,_⟩) (VD _ _ _ _ (by show w.heap.size+1+1≠_;omega))).trans h.l0
 l1:=(World.cell?_of_block (a:=⟨_,_,_⟩) (VD _ _ _ _ (by show w.heap.size+1+1≠_;omega))).trans h.l1
 bel:=zF h.bel (by omega) T
theorem Chz.kept {w wr:World} {x y:List Int} {a a':Option Addr} {n n' cap cap' k:Nat} (h:Chz w wr x y a a' n n' cap cap' k) (hT:chC x y (k+1)=chC x y k):Chz w wr x y a a' n n' cap cap' (k+1) where
 r:=h.r
 c:=by rw [hT];exact h.c
 l0:=h.l0
 l1:=h.l1
 bel:=h.bel
theorem choose_v (a a':Option Addr) (cap cap' n n':Nat) (x y:List Int) (w:World) (hx:Row w a cap x) (hnx:x.length=n) (hy:Row w a' cap' y) (hny:y.length=n')
  (S:Sp) (hS:chS x y=S) (P:Int) (hP:chP x y=P) (E:Int) (hE:chE x y=E):
  Calls prog 99 #[.slice a n cap,.slice a' n' cap'] w fun e w'=>e=.returned (.tuple #[spV S,.int .i64 P,.int .i64 E])/\Below w.heap.size w w':=by
 have HX:Hid (Row w a cap x):=hx;have HNX:Hid (x.length=n):=hnx;have HY:Hid (Row w a' cap' y):=hy;have HNY:Hid (y.length=n'):=hny;have HS:Hid (chS x y=S):=hS;have HP:Hid (chP x y=P):=hP;have HE:Hid (chE x y=E):=hE;clear hx hnx hy hny hS hP hE;dsimp only [spV];go_enter func99,ntmps99
 go_wp2_with fail
 have HC:Hid (Chz w (((w.alloc (.cells #[.int .i64 0,.int .i64 0,.int .i64 0,.int .i64 0,.int .i64 0,.int .i64 0,.int .i64 0,.int .i64 0] 29)).alloc (.cells #[.int .i64 0,.int .i64 0,.int .i64 0,.int .i64 0,.int .i64 0,.int .i64 0,.int .i64 0,.int .i64 0] 29)).alloc (.cells #[.slice a n cap,.slice a' n' cap'] 32)) x y a a' n n' cap cap' 0):=by
  have b1:Below (w.alloc (.cells #[.int .i64 0,.int .i64 0,.int .i64 0,.int .i64 0,.int .i64 0,.int .i64 0,.int .i64 0,.int .i64 0] 29)).heap.size (w.alloc (.cells #[.int .i64 0,.int .i64 0,.int .i64 0,.int .i64 0,.int .i64 0,.int .i64 0,.int .i64 0,.int .i64 0] 29)) (((w.alloc (.cells #[.int .i64 0,.int .i64 0,.int .i64 0,.int .i64 0,.int .i64 0,.int .i64 0,.int .i64 0,.int .i64 0] 29)).alloc (.cells #[.int .i64 0,.int .i64 0,.int .i64 0,.int .i64 0,.int .i64 0,.int .i64 0,.int .i64 0,.int .i64 0] 29)).alloc (.cells #[.slice a n cap,.slice a' n' cap'] 32)):=((Below.refl _ _).alloc (jB _) _).alloc (by simp) _;refine ⟨(JG w sp0 29).below b1,?_,?_,?_,?_⟩
  ·have:=(JG (w.alloc (.cells #[.int .i64 0,.int .i64 0,.int .i64 0,.int .i64 0,.int .i64 0,.int .i64 0,.int .i64 0,.int .i64 0] 29)) sp0 29).alloc (.cells #[.slice a n cap,.slice a' n' cap'] 32)
   simpa [sp0,chC] using this
  ·simp [World.cell?_alloc_at]
  ·simp [World.cell?_alloc_at]
  ·exact ((Below.refl _ w).alloc (jB _) _).trans (b1.mono (by simp))
 obtain ⟨W,hW⟩:∃W,((w.alloc (.cells #[.int .i64 0,.int .i64 0,.int .i64 0,.int .i64 0,.int .i64 0,.int .i64 0,.int .i64 0,.int .i64 0] 29)).alloc (.cells #[.int .i64 0,.int .i64 0,.int .i64 0,.int .i64 0,.int .i64 0,.int .i64 0,.int .i64 0,.int .i64 0] 29)).alloc (.cells #[.slice a n cap,.slice a' n' cap'] 32)=W:=⟨_,rfl⟩;rw [hW] at HC ⊢;clear hW;go_loopw [8,18] (fun p i wr=>∃k:Nat,k<=2/\p=.int .i64 (chC x y k).2/\i=.int .i64 k/\Chz w wr x y a a' n n' cap cap' k) (fun _ i _=>2-(intOf i).toNat)
 case atStart=>exact ⟨0,jT _,rfl,rfl,HC.out⟩
 case round=>
  obtain ⟨k,hk,rfl,rfl,hch⟩:=hrel;clear HC;by_cases hlt:k<2
  ·obtain ⟨za,zn,zc,z,hz,hzn,hzc,hst⟩:∃(za:Option Addr) (zn zc:Nat) (z:List Int),Row wr za zc z/\z.length=zn/\wr.cell? ⟨w.heap.size+1+1,k,none⟩=some (.slice za zn zc)/\chC x y (k+1)=chStep k z (chC x y k):=by
    have:k=0\/k=1:=by omega
    rcases this with rfl|rfl
    ·exact ⟨a,n,cap,x,HX.out.below hch.bel,HNX.out,hch.l0,rfl⟩
    ·exact ⟨a',n',cap',y,HY.out.below hch.bel,HNY.out,hch.l1,rfl⟩
   obtain ⟨T,hT⟩:∃T,deS z=T:=⟨_,rfl⟩;obtain ⟨D,hD⟩:∃D,deE z=D:=⟨_,rfl⟩;have CD:=decode_v za zc zn z wr hz hzn T hT D hD;dsimp only [spV] at CD;unfold chStep at hst;rw [hT,hD] at hst;have HCH:Hid (Chz w wr x y a a' n n' cap cap' k):=hch;obtain ⟨c,hc⟩:∃c,(chC x y k).1=c:=⟨_,rfl⟩;obtain ⟨p,hp⟩:∃p,(chC x y k).2=p:=⟨_,rfl⟩;have HCC:Hid ((chC x y k).1=c):=hc;have HPP:Hid ((chC x y k).2=p):=hp;rw [hp];rw [hc] at hst;clear hch hz hzn hT hD hc hp;by_cases hD0:D=0
   ·subst hD0;by_cases hg:c.g<T.g
    ·rw [if_pos ⟨rfl,hg⟩] at hst;have HST:Hid (chC x y (k+1)=(T,(k:Int))):=hst;clear hst;go_wp2_with fail
     refine CD.mono ?_;clear CD;rintro e w3 ⟨rfl,hb3⟩;have HC4:Hid (Chz w (w3.alloc (.cells #[.int .i64 T.g,.int .i64 T.p,.int .i64 T.r,.int .i64 T.h,.int .i64 T.b,.int .i64 T.l,.int .i64 T.s,.int .i64 T.f] 29)) x y a a' n n' cap cap' k):=HCH.out.below (hb3.trans (((Below.refl _ w3).alloc (jB _) _).mono hb3.size));have q':=HC4.out.c;rw [HCC.out] at q';clear hb3 hzc HCH HX HY;obtain ⟨⟨q0,q1,q2,q3,q4,q5,q6,q7⟩,qf⟩:=q';have f0:=qf 0 (by omega);have f1:=qf 1 (by omega);have f2:=qf 2 (by omega);have f3:=qf 3 (by omega);have f4:=qf 4 (by omega);have f5:=qf 5 (by omega);have f6:=qf 6 (by omega);have f7:=qf 7 (by omega);clear qf;go_wp2;go_roundw
     case rel=>exact ⟨k+1,by omega,by rw [HST.out],by go_num,HC4.out.took T (by rw [HST.out])⟩
     case measure=>simp [intOf];omega
    ·rw [if_neg (fun h=>hg h.2)] at hst;have HST:Hid (chC x y (k+1)=chC x y k):=hst;clear hst;have hgb:¬c.g<T.g:=hg;clear hg;go_wp2_with fail
     refine CD.mono ?_;clear CD;rintro e w3 ⟨rfl,hb3⟩;have HC4:Hid (Chz w (w3.alloc (.cells #[.int .i64 T.g,.int .i64 T.p,.int .i64 T.r,.int .i64 T.h,.int .i64 T.b,.int .i64 T.l,.int .i64 T.s,.int .i64 T.f] 29)) x y a a' n n' cap cap' k):=HCH.out.below (hb3.trans (((Below.refl _ w3).alloc (jB _) _).mono hb3.size));have q0:=HC4.out.c.1.1;rw [HCC.out] at q0;clear hb3 hzc HCH HX HY;go_wp2;go_roundw
     case rel=>exact ⟨k+1,by omega,by rw [HST.out,HPP.out],by go_num,HC4.out.kept HST.out⟩
     case measure=>simp [intOf];omega
   ·rw [if_neg (fun h=>hD0 h.1)] at hst;have HST:Hid (chC x y (k+1)=chC x y k):=hst;clear hst;have hDb:(D==0)=false:=by simpa using hD0
    clear hD0;go_wp2_with fail
    refine CD.mono ?_;clear CD;rintro e w3 ⟨rfl,hb3⟩;have HC4:Hid (Chz w (w3.alloc (.cells #[.int .i64 T.g,.int .i64 T.p,.int .i64 T.r,.int .i64 T.h,.int .i64 T.b,.int .i64 T.l,.int .i64 T.s,.int .i64 T.f] 29)) x y a a' n n' cap cap' k):=HCH.out.below (hb3.trans (((Below.refl _ w3).alloc (jB _) _).mono hb3.size));clear hb3 hzc HCH HX HY;go_wp2;go_roundw
    case rel=>exact ⟨k+1,by omega,by rw [HST.out,HPP.out],by go_num,HC4.out.kept HST.out⟩
    case measure=>simp [intOf];omega
  ·have hk2:k=2:=by omega
   subst hk2;have HCH:Hid (Chz w wr x y a a' n n' cap cap' 2):=hch;obtain ⟨c,hc⟩:∃c,(chC x y 2).1=c:=⟨_,rfl⟩;obtain ⟨p,hp⟩:∃p,(chC x y 2).2=p:=⟨_,rfl⟩;have HCQ:Hid (Sw8 wr (w.heap.size+1) c):=by rw [<-hc];exact hch.c
   have HQ:Hid (Sw8 wr w.heap.size sp0):=hch.r;have HB:Hid (Below w.heap.size w wr):=hch.bel;by_cases hp0:p<0
   ·obtain ⟨e1,e2,e3,e4⟩:=ch_no (x:=x) (y:=y) (by rw [hp];exact hp0);rw [hp] at e4;have f1:S=sp0:=HS.out.symm.trans e1;have f2:P= -1:=HP.out.symm.trans e2;have f3:E=8:=HE.out.symm.trans e3;rw [hp];clear hch HCH hc hp HS HP HE e1 e2 e3 HX HY hp0;subst f1;subst f2;subst f3;subst e4;have q':=HQ.out;obtain ⟨⟨q0,q1,q2,q3,q4,q5,q6,q7⟩,qf⟩:=q';have f0:=qf 0 (by omega);have f1:=qf 1 (by omega);have f2:=qf 2 (by omega);have f3:=qf 3 (by omega);have f4:=qf 4 (by omega);have f5:=qf 5 (by omega);have f6:=qf 6 (by omega);have f7:=qf 7 (by omega);clear qf;dsimp only [sp0] at q0 q1 q2 q3 q4 q5 q6 q7;go_wp2;clear q0 q1 q2 q3 q4 q5 q6 q7 f0 f1 f2 f3 f4 f5 f6 f7;obtain ⟨q0,q1,q2,q3,q4,q5,q6,q7⟩:=JN HQ.out.1 sp0;unfold wr8 at q0 q1 q2 q3 q4 q5 q6 q7;dsimp only [sp0] at q0 q1 q2 q3 q4 q5 q6 q7;refine bodyPost_ret (v:=.tuple #[spV sp0,.int .i64 (-1),.int .i64 8]) ?_ rfl ⟨rfl,zF HB.out (jB _) sp0⟩;simp [results,Tryz.results99,go_sem,spV,sp0,q0,q1,q2,q3,q4,q5,q6,q7]
   ·obtain ⟨e1,e2,e3⟩:=ch_yes (x:=x) (y:=y) (by rw [hp];exact hp0);rw [hc] at e1;rw [hp] at e2;have f1:S=c:=HS.out.symm.trans e1;have f2:P=p:=HP.out.symm.trans e2;have f3:E=0:=HE.out.symm.trans e3;rw [hp];clear hch HCH hc hp HS HP HE e1 e2 e3 HX HY;subst f1;subst f2;subst f3;have q':=HQ.out;obtain ⟨k0,k1,k2,k3,k4,k5,k6,k7⟩:=HCQ.out.1;obtain ⟨⟨q0,q1,q2,q3,q4,q5,q6,q7⟩,qf⟩:=q';have f0:=qf 0 (by omega);have f1:=qf 1 (by omega);have f2:=qf 2 (by omega);have f3:=qf 3 (by omega);have f4:=qf 4 (by omega);have f5:=qf 5 (by omega);have f6:=qf 6 (by omega);have f7:=qf 7 (by omega);clear qf;dsimp only [sp0] at q0 q1 q2 q3 q4 q5 q6 q7;go_wp2;clear k0 k1 k2 k3 k4 k5 k6 k7;clear q0 q1 q2 q3 q4 q5 q6 q7 f0 f1 f2 f3 f4 f5 f6 f7;obtain ⟨q0,q1,q2,q3,q4,q5,q6,q7⟩:=JN HQ.out.1 S;unfold wr8 at q0 q1 q2 q3 q4 q5 q6 q7;refine bodyPost_ret (v:=.tuple #[spV S,.int .i64 P,.int .i64 0]) ?_ rfl ⟨rfl,zF HB.out (jB _) S⟩;simp [results,Tryz.results99,go_sem,spV,q0,q1,q2,q3,q4,q5,q6,q7]
structure SpOk (S:List Int):Prop where
 lo:8<=S.length
 hi:S.length<=4096
 st:∀z∈S,0<=z/\z<=3
def newS (n:Nat):List Int:=((List.replicate n (0:Int)).set 0 1).set 1 1
def frI (S:List Int):Nat:=S.findIdx (· ==0)
def alE (S:List Int):Int:=if frI S<S.length then 0 else 6
def alN (S:List Int):Int:=if frI S<S.length then (frI S:Int) else 0
def alL (S:List Int):List Int:=if frI S<S.length then S.set (frI S) 2 else S
def gvB (S:List Int) (p:Int):Bool:=decide (2<=p)&&decide (p<(S.length:Int))
def gvE (S:List Int) (p:Int):Int:=if gvB S p then (if S.getD p.toNat 0=2 then 0 else if S.getD p.toNat 0=1 then 0 else 10) else 1
def gvL (S:List Int) (p:Int):List Int:=if gvB S p then (if S.getD p.toNat 0=2 then S.set p.toNat 0 else if S.getD p.toNat 0=1 then S.set p.toNat 3 else S) else S
def trZ (o p z:Int):Int:=if z=2 then o else if z=3 then p else z
def trS (o p:Int) (S:List Int):List Int:=S.map (trZ o p)
def usB (z:Int):Bool:=z==1||z==2
theorem SpOk.at {S:List Int} (h:SpOk S) (i:Nat):0<=S.getD i 0/\S.getD i 0<=3:=by
 by_cases hi:i<S.length
 ·rw [jA,jC hi];exact h.st _ (qB hi)
 ·rw [jA,qD (by omega)];simp
theorem SpOk.set {S:List Int} (h:SpOk S) (i:Nat) {z:Int} (h0:0<=z) (h3:z<=3):SpOk (S.set i z):=
 ⟨by rw [jY];exact h.lo,by rw [jY];exact h.hi,fun y hy=>by
  rcases List.mem_or_eq_of_mem_set hy with hy|rfl
  ·exact h.st y hy
  ·exact ⟨h0,h3⟩⟩
theorem SpOk.map {S:List Int} (h:SpOk S) {f:Int->Int} (hf:∀z,0<=z->z<=3->0<=f z/\f z<=3):SpOk (S.map f):=
 ⟨by rw [qU];exact h.lo,by rw [qU];exact h.hi,fun y hy=>by
  obtain ⟨z,hz,rfl⟩:=List.mem_map.1 hy;exact hf z (h.st z hz).1 (h.st z hz).2⟩
theorem JT (n:Nat):(newS n).length=n:=by simp [newS]
theorem newS_ok {n:Nat} (h8:8<=n) (h4:n<=4096):SpOk (newS n):=by
 have h:SpOk (List.replicate n (0:Int)):=⟨by simpa using h8,by simpa using h4,fun z hz=>by rw [(List.mem_replicate.1 hz).2];omega⟩;exact (h.set 0 (by omega) (by omega)).set 1 (by omega) (by omega)
theorem alL_ok {S:List Int} (h:SpOk S):SpOk (alL S):=by
 unfold alL;split
 ·exact h.set _ (by omega) (by omega)
 ·exact h
theorem alL_len (S:List Int):(alL S).length=S.length:=by unfold alL;split<;>simp
theorem gvL_ok {S:List Int} (h:SpOk S) (p:Int):SpOk (gvL S p):=by
 unfold gvL
 repeat' split
 all_goals first|exact h|exact h.set _ (by omega) (by omega)
theorem gvL_len (S:List Int) (p:Int):(gvL S p).length=S.length:=by
 unfold gvL
 repeat' split
 all_goals simp
theorem FV {S:List Int} (h:SpOk S) {o p:Int} (ho:0<=o/\o<=3) (hp:0<=p/\p<=3):SpOk (trS o p S):=h.map fun z h0 h3=>by
 unfold trZ
 repeat' split
 all_goals first|exact ho|exact hp|exact ⟨h0,h3⟩
theorem JR (o p:Int) (S:List Int):(trS o p S).length=S.length:=by simp [trS]
theorem frI_le (S:List Int):frI S<=S.length:=List.findIdx_le_length
theorem kY {S:List Int} (h:frI S<S.length):S.getD (frI S) 0=0:=by
 have:=List.findIdx_getElem (w:=h);rw [jA,jC h,qJ];exact eq_of_beq this
theorem frI_not {S:List Int} {i:Nat} (h:i<frI S):S.getD i 0≠0:=by
 have hl:i<S.length:=qA h (frI_le S);have:=List.not_of_lt_findIdx h;rw [jA,jC hl]
 simpa using this
theorem frI_eq {S:List Int} {i:Nat} (hi:i<S.length) (h0:S.getD i 0=0) (h:∀j,j<i->S.getD j 0≠0):frI S=i:=by
 by_cases h1:frI S<i
 ·exact absurd (kY (by omega)) (h _ h1)
 ·by_cases h2:i<frI S
  ·exact absurd h0 (frI_not h2)
  ·omega
theorem frI_none {S:List Int} (h:∀j,j<S.length->S.getD j 0≠0):frI S=S.length:=by
 have:=frI_le S;by_cases h1:frI S<S.length
 ·exact absurd (kY h1) (h _ h1)
 ·omega
end Go.Proofs.YtaijfhadecennaaGreat.Oct
