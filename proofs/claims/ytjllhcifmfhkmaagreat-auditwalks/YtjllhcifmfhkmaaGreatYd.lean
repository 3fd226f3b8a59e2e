/- Part of a proof. -/
import Derived.Test.YtjllhcifmfhkmaaGreatBa
set_option maxHeartbeats 2000000
namespace Go.Proofs.YtjllhcifmfhkmaaGreat.Oct
open Go.RowKit
def pg0:Pg:=⟨0,0,0,[]⟩
def soE (s:St) (zs:List Int):Int:=if opE zs=0 then (if opB s (opP zs) then 0 else 4) else opE zs
def soP (s:St) (zs:List Int):Pg:=if soE s zs=0 then opP zs else pg0
theorem so_err (s:St) (a:Option Addr) (cap n:Nat) (w:World) (P:Pg) (E:Int)
  (C:∀w1,Below w.heap.size w w1→Calls Tryz.prog 77 #[.slice a n cap] w1 fun e w'=>∃g c,e=.returned (.tuple #[pgV P g c,.int .i64 E])∧Own w1.heap.size w' (.slice g P.body.length c) P.body∧Below w1.heap.size w1 w') (hE:(E !=0)=true):
  Calls Tryz.prog 128 #[.agg #[.int .i64 s.kind,.int .i64 s.lo,.int .i64 s.hi,.int .i64 s.most],.slice a n cap] w fun e w'=>∃g c,e=.returned (.tuple #[pgV pg0 g c,.int .i64 E])∧Own w.heap.size w' (.slice g pg0.body.length c) pg0.body∧Below w.heap.size w w':=by
  dsimp only [pgV,pg0];dsimp only [pgV] at C;have HC:Hid _:=C;clear C;go_enter Tryz.func128,Tryz.ntmps128
  go_wp2_with fail
  refine (HC.out _ (((Below.refl _ w).alloc (Nat.le_refl _) _).alloc (by simp) _)).mono ?_;rintro e w1 ⟨g,c,rfl,ho,hb⟩
  have q:Slot w1 (w.heap.size+1) (.int .i64 0) (.int .i64 0) (.int .i64 0) (.slice none 0 0):=by
   have:=(slot_new (w.alloc (.cells #[.int .i64 s.kind,.int .i64 s.lo,.int .i64 s.hi,.int .i64 s.most] 179)) (.int .i64 0) (.int .i64 0) (.int .i64 0) (.slice none 0 0) 127).below hb
   simpa using this
  have sl:Sl4 w1 w.heap.size s.kind s.lo s.hi s.most:=((sl4_new w s.kind s.lo s.hi s.most 179).below ((Below.refl _ _).alloc (Nat.le_refl _) _)).below hb;have HB1:Hid (Below w.heap.size w w1):=(((Below.refl _ w).alloc (Nat.le_refl _) _).alloc (by simp) _).trans (hb.mono (by simp;omega));have HO1:Hid (Own (w.heap.size+1+1) w1 (.slice g P.body.length c) P.body):=ho.weaken (by simp);clear hb ho HC;have HQ1:Hid (Slot w1 (w.heap.size+1) (.int .i64 0) (.int .i64 0) (.int .i64 0) (.slice none 0 0)):=q;have sl':Sl4 (w1.alloc (.cells #[.int .i64 P.kind,.int .i64 P.level,.int .i64 P.count,.slice g P.body.length c] 127)) w.heap.size s.kind s.lo s.hi s.most:=sl.below ((Below.refl _ _).alloc (Nat.le_refl _) _);have q':Slot (w1.alloc (.cells #[.int .i64 P.kind,.int .i64 P.level,.int .i64 P.count,.slice g P.body.length c] 127)) (w.heap.size+1) (.int .i64 0) (.int .i64 0) (.int .i64 0) (.slice none 0 0):=q.below ((Below.refl _ _).alloc (Nat.le_refl _) _);clear sl q;obtain ⟨k0,k1,k2,k3⟩:=sl';obtain ⟨⟨q0,q1,q2,q3⟩,f0,f1,f2,f3⟩:=q';have HQ:Hid (Slot (w1.alloc (.cells #[.int .i64 P.kind,.int .i64 P.level,.int .i64 P.count,.slice g P.body.length c] 127)) (w.heap.size+1) (.int .i64 0) (.int .i64 0) (.int .i64 0) (.slice none 0 0)):=HQ1.out.below ((Below.refl _ _).alloc (Nat.le_refl _) _);have HB:Hid (Below w.heap.size w (w1.alloc (.cells #[.int .i64 P.kind,.int .i64 P.level,.int .i64 P.count,.slice g P.body.length c] 127))):=HB1.out.alloc HB1.out.size _;go_wp2;clear q0 q1 q2 q3 f0 f1 f2 f3 k0 k1 k2 k3;obtain ⟨⟨q0,q1,q2,q3⟩,_⟩:=HQ.out.wrote (.int .i64 0) (.int .i64 0) (.int .i64 0) (.slice none 0 0);refine bodyPost_ret (v:=.tuple #[.agg #[.int .i64 0,.int .i64 0,.int .i64 0,.slice none 0 0],.int .i64 E]) ?_ rfl ⟨none,0,rfl,World.ownsRow_nil _ _ _ _,below_wrote HB.out (Nat.le_succ _) _ _ _ _⟩;simp [results,Tryz.results128,go_sem,q0,q1,q2,q3]
theorem so_kind (s:St) (a:Option Addr) (cap n:Nat) (w:World) (P:Pg) (E:Int)
  (C:∀w1,Below w.heap.size w w1→Calls Tryz.prog 77 #[.slice a n cap] w1 fun e w'=>∃g c,e=.returned (.tuple #[pgV P g c,.int .i64 E])∧Own w1.heap.size w' (.slice g P.body.length c) P.body∧Below w1.heap.size w1 w') (hE:E=0) (hk:(P.kind !=s.kind)=true):
  Calls Tryz.prog 128 #[.agg #[.int .i64 s.kind,.int .i64 s.lo,.int .i64 s.hi,.int .i64 s.most],.slice a n cap] w fun e w'=>∃g c,e=.returned (.tuple #[pgV pg0 g c,.int .i64 4])∧Own w.heap.size w' (.slice g pg0.body.length c) pg0.body∧Below w.heap.size w w':=by
  dsimp only [pgV,pg0];dsimp only [pgV] at C;have HC:Hid _:=C;clear C;go_enter Tryz.func128,Tryz.ntmps128
  go_wp2_with fail
  refine (HC.out _ (((Below.refl _ w).alloc (Nat.le_refl _) _).alloc (by simp) _)).mono ?_;rintro e w1 ⟨g,c,rfl,ho,hb⟩
  have q:Slot w1 (w.heap.size+1) (.int .i64 0) (.int .i64 0) (.int .i64 0) (.slice none 0 0):=by
   have:=(slot_new (w.alloc (.cells #[.int .i64 s.kind,.int .i64 s.lo,.int .i64 s.hi,.int .i64 s.most] 179)) (.int .i64 0) (.int .i64 0) (.int .i64 0) (.slice none 0 0) 127).below hb
   simpa using this
  have sl:Sl4 w1 w.heap.size s.kind s.lo s.hi s.most:=((sl4_new w s.kind s.lo s.hi s.most 179).below ((Below.refl _ _).alloc (Nat.le_refl _) _)).below hb;have HB1:Hid (Below w.heap.size w w1):=(((Below.refl _ w).alloc (Nat.le_refl _) _).alloc (by simp) _).trans (hb.mono (by simp;omega));have HO1:Hid (Own (w.heap.size+1+1) w1 (.slice g P.body.length c) P.body):=ho.weaken (by simp);clear hb ho HC;have HQ1:Hid (Slot w1 (w.heap.size+1) (.int .i64 0) (.int .i64 0) (.int .i64 0) (.slice none 0 0)):=q;have sl':Sl4 (w1.alloc (.cells #[.int .i64 P.kind,.int .i64 P.level,.int .i64 P.count,.slice g P.body.length c] 127)) w.heap.size s.kind s.lo s.hi s.most:=sl.below ((Below.refl _ _).alloc (Nat.le_refl _) _);have q':Slot (w1.alloc (.cells #[.int .i64 P.kind,.int .i64 P.level,.int .i64 P.count,.slice g P.body.length c] 127)) (w.heap.size+1) (.int .i64 0) (.int .i64 0) (.int .i64 0) (.slice none 0 0):=q.below ((Below.refl _ _).alloc (Nat.le_refl _) _);clear sl q;obtain ⟨k0,k1,k2,k3⟩:=sl';obtain ⟨⟨q0,q1,q2,q3⟩,f0,f1,f2,f3⟩:=q';subst hE;have HQ:Hid (Slot (w1.alloc (.cells #[.int .i64 P.kind,.int .i64 P.level,.int .i64 P.count,.slice g P.body.length c] 127)) (w.heap.size+1) (.int .i64 0) (.int .i64 0) (.int .i64 0) (.slice none 0 0)):=HQ1.out.below ((Below.refl _ _).alloc (Nat.le_refl _) _);have HB:Hid (Below w.heap.size w (w1.alloc (.cells #[.int .i64 P.kind,.int .i64 P.level,.int .i64 P.count,.slice g P.body.length c] 127))):=HB1.out.alloc HB1.out.size _;go_wp2;clear q0 q1 q2 q3 f0 f1 f2 f3 k0 k1 k2 k3;obtain ⟨⟨q0,q1,q2,q3⟩,_⟩:=HQ.out.wrote (.int .i64 0) (.int .i64 0) (.int .i64 0) (.slice none 0 0);refine bodyPost_ret (v:=.tuple #[.agg #[.int .i64 0,.int .i64 0,.int .i64 0,.slice none 0 0],.int .i64 4]) ?_ rfl ⟨none,0,rfl,World.ownsRow_nil _ _ _ _,below_wrote HB.out (Nat.le_succ _) _ _ _ _⟩;simp [results,Tryz.results128,go_sem,q0,q1,q2,q3]
theorem so_takes (s:St) (a:Option Addr) (cap n:Nat) (w:World) (P:Pg) (E:Int)
  (C:∀w1,Below w.heap.size w w1→Calls Tryz.prog 77 #[.slice a n cap] w1 fun e w'=>∃g c,e=.returned (.tuple #[pgV P g c,.int .i64 E])∧Own w1.heap.size w' (.slice g P.body.length c) P.body∧Below w1.heap.size w1 w') (hE:E=0) (hk:(P.kind !=s.kind)=false) (ht:takesB s P.level P.count=false):
  Calls Tryz.prog 128 #[.agg #[.int .i64 s.kind,.int .i64 s.lo,.int .i64 s.hi,.int .i64 s.most],.slice a n cap] w fun e w'=>∃g c,e=.returned (.tuple #[pgV pg0 g c,.int .i64 4])∧Own w.heap.size w' (.slice g pg0.body.length c) pg0.body∧Below w.heap.size w w':=by
  dsimp only [pgV,pg0];dsimp only [pgV] at C;have HC:Hid _:=C;clear C;go_enter Tryz.func128,Tryz.ntmps128
  go_wp2_with fail
  refine (HC.out _ (((Below.refl _ w).alloc (Nat.le_refl _) _).alloc (by simp) _)).mono ?_;rintro e w1 ⟨g,c,rfl,ho,hb⟩
  have q:Slot w1 (w.heap.size+1) (.int .i64 0) (.int .i64 0) (.int .i64 0) (.slice none 0 0):=by
   have:=(slot_new (w.alloc (.cells #[.int .i64 s.kind,.int .i64 s.lo,.int .i64 s.hi,.int .i64 s.most] 179)) (.int .i64 0) (.int .i64 0) (.int .i64 0) (.slice none 0 0) 127).below hb
   simpa using this
  have sl:Sl4 w1 w.heap.size s.kind s.lo s.hi s.most:=((sl4_new w s.kind s.lo s.hi s.most 179).below ((Below.refl _ _).alloc (Nat.le_refl _) _)).below hb;have HB1:Hid (Below w.heap.size w w1):=(((Below.refl _ w).alloc (Nat.le_refl _) _).alloc (by simp) _).trans (hb.mono (by simp;omega));have HO1:Hid (Own (w.heap.size+1+1) w1 (.slice g P.body.length c) P.body):=ho.weaken (by simp);clear hb ho HC;have HQ1:Hid (Slot w1 (w.heap.size+1) (.int .i64 0) (.int .i64 0) (.int .i64 0) (.slice none 0 0)):=q;have sl':Sl4 (w1.alloc (.cells #[.int .i64 P.kind,.int .i64 P.level,.int .i64 P.count,.slice g P.body.length c] 127)) w.heap.size s.kind s.lo s.hi s.most:=sl.below ((Below.refl _ _).alloc (Nat.le_refl _) _);have q':Slot (w1.alloc (.cells #[.int .i64 P.kind,.int .i64 P.level,.int .i64 P.count,.slice g P.body.length c] 127)) (w.heap.size+1) (.int .i64 0) (.int .i64 0) (.int .i64 0) (.slice none 0 0):=q.below ((Below.refl _ _).alloc (Nat.le_refl _) _);clear sl q;obtain ⟨k0,k1,k2,k3⟩:=sl';obtain ⟨⟨q0,q1,q2,q3⟩,f0,f1,f2,f3⟩:=q';subst hE;have HT:Hid _:=fun w=>takes_v s P.level P.count w _ ht
  clear ht;go_wp2_with fail
  refine (HT.out _).mono ?_;rintro e w2 ⟨rfl,hb2⟩;have hb3:Below w1.heap.size w1 w2:=((Below.refl _ w1).alloc (Nat.le_refl _) _).trans (hb2.mono (by simp));have HQ:Hid (Slot w2 (w.heap.size+1) (.int .i64 0) (.int .i64 0) (.int .i64 0) (.slice none 0 0)):=HQ1.out.below hb3;have HB:Hid (Below w.heap.size w w2):=HB1.out.trans (hb3.mono HB1.out.size);have HO:Hid (Own (w.heap.size+1+1) w2 (.slice g P.body.length c) P.body):=HO1.out.below' hb3;obtain ⟨⟨p0,p1,p2,p3⟩,_⟩:=(slot_new w1 (.int .i64 P.kind) (.int .i64 P.level) (.int .i64 P.count) (.slice g P.body.length c) 127).below hb2;clear hb2 hb3 q0 q1 q2 q3 f0 f1 f2 f3 k0 k1 k2 k3;have q:=HQ.out;obtain ⟨⟨q0,q1,q2,q3⟩,f0,f1,f2,f3⟩:=q;go_wp2;clear q0 q1 q2 q3 f0 f1 f2 f3 p0 p1 p2 p3;obtain ⟨⟨q0,q1,q2,q3⟩,_⟩:=HQ.out.wrote (.int .i64 0) (.int .i64 0) (.int .i64 0) (.slice none 0 0);refine bodyPost_ret (v:=.tuple #[.agg #[.int .i64 0,.int .i64 0,.int .i64 0,.slice none 0 0],.int .i64 4]) ?_ rfl ⟨none,0,rfl,World.ownsRow_nil _ _ _ _,below_wrote HB.out (Nat.le_succ _) _ _ _ _⟩;simp [results,Tryz.results128,go_sem,q0,q1,q2,q3]
theorem so_good (s:St) (a:Option Addr) (cap n:Nat) (w:World) (P:Pg) (E:Int)
  (C:∀w1,Below w.heap.size w w1→Calls Tryz.prog 77 #[.slice a n cap] w1 fun e w'=>∃g c,e=.returned (.tuple #[pgV P g c,.int .i64 E])∧Own w1.heap.size w' (.slice g P.body.length c) P.body∧Below w1.heap.size w1 w') (hE:E=0) (hk:(P.kind !=s.kind)=false) (ht:takesB s P.level P.count=true):
  Calls Tryz.prog 128 #[.agg #[.int .i64 s.kind,.int .i64 s.lo,.int .i64 s.hi,.int .i64 s.most],.slice a n cap] w fun e w'=>∃g c,e=.returned (.tuple #[pgV P g c,.int .i64 0])∧Own w.heap.size w' (.slice g P.body.length c) P.body∧Below w.heap.size w w':=by
  dsimp only [pgV];dsimp only [pgV] at C;have HC:Hid _:=C;clear C;go_enter Tryz.func128,Tryz.ntmps128
  go_wp2_with fail
  refine (HC.out _ (((Below.refl _ w).alloc (Nat.le_refl _) _).alloc (by simp) _)).mono ?_;rintro e w1 ⟨g,c,rfl,ho,hb⟩
  have q:Slot w1 (w.heap.size+1) (.int .i64 0) (.int .i64 0) (.int .i64 0) (.slice none 0 0):=by
   have:=(slot_new (w.alloc (.cells #[.int .i64 s.kind,.int .i64 s.lo,.int .i64 s.hi,.int .i64 s.most] 179)) (.int .i64 0) (.int .i64 0) (.int .i64 0) (.slice none 0 0) 127).below hb
   simpa using this
  have sl:Sl4 w1 w.heap.size s.kind s.lo s.hi s.most:=((sl4_new w s.kind s.lo s.hi s.most 179).below ((Below.refl _ _).alloc (Nat.le_refl _) _)).below hb;have HB1:Hid (Below w.heap.size w w1):=(((Below.refl _ w).alloc (Nat.le_refl _) _).alloc (by simp) _).trans (hb.mono (by simp;omega));have HO1:Hid (Own (w.heap.size+1+1) w1 (.slice g P.body.length c) P.body):=ho.weaken (by simp);clear hb ho HC;have HQ1:Hid (Slot w1 (w.heap.size+1) (.int .i64 0) (.int .i64 0) (.int .i64 0) (.slice none 0 0)):=q;have sl':Sl4 (w1.alloc (.cells #[.int .i64 P.kind,.int .i64 P.level,.int .i64 P.count,.slice g P.body.length c] 127)) w.heap.size s.kind s.lo s.hi s.most:=sl.below ((Below.refl _ _).alloc (Nat.le_refl _) _);have q':Slot (w1.alloc (.cells #[.int .i64 P.kind,.int .i64 P.level,.int .i64 P.count,.slice g P.body.length c] 127)) (w.heap.size+1) (.int .i64 0) (.int .i64 0) (.int .i64 0) (.slice none 0 0):=q.below ((Below.refl _ _).alloc (Nat.le_refl _) _);clear sl q;obtain ⟨k0,k1,k2,k3⟩:=sl';obtain ⟨⟨q0,q1,q2,q3⟩,f0,f1,f2,f3⟩:=q';subst hE;have HT:Hid _:=fun w=>takes_v s P.level P.count w _ ht
  clear ht;go_wp2_with fail
  refine (HT.out _).mono ?_;rintro e w2 ⟨rfl,hb2⟩;have hb3:Below w1.heap.size w1 w2:=((Below.refl _ w1).alloc (Nat.le_refl _) _).trans (hb2.mono (by simp));have HQ:Hid (Slot w2 (w.heap.size+1) (.int .i64 0) (.int .i64 0) (.int .i64 0) (.slice none 0 0)):=HQ1.out.below hb3;have HB:Hid (Below w.heap.size w w2):=HB1.out.trans (hb3.mono HB1.out.size);have HO:Hid (Own (w.heap.size+1+1) w2 (.slice g P.body.length c) P.body):=HO1.out.below' hb3;obtain ⟨⟨p0,p1,p2,p3⟩,_⟩:=(slot_new w1 (.int .i64 P.kind) (.int .i64 P.level) (.int .i64 P.count) (.slice g P.body.length c) 127).below hb2;clear hb2 hb3 q0 q1 q2 q3 f0 f1 f2 f3 k0 k1 k2 k3;have q:=HQ.out;obtain ⟨⟨q0,q1,q2,q3⟩,f0,f1,f2,f3⟩:=q;go_wp2;clear q0 q1 q2 q3 f0 f1 f2 f3 p0 p1 p2 p3;obtain ⟨⟨q0,q1,q2,q3⟩,_⟩:=HQ.out.wrote (.int .i64 P.kind) (.int .i64 P.level) (.int .i64 P.count) (.slice g P.body.length c);refine bodyPost_ret (v:=.tuple #[.agg #[.int .i64 P.kind,.int .i64 P.level,.int .i64 P.count,.slice g P.body.length c],.int .i64 0]) ?_ rfl ⟨g,c,rfl,?_,below_wrote HB.out (Nat.le_succ _) _ _ _ _⟩
  ·simp [results,Tryz.results128,go_sem,q0,q1,q2,q3]
  ·exact (HO.out.keep fun j hj=>heap_wrote _ _ _ _ _ _ _ (by omega)).weaken (by omega)
theorem sheetOpen_v (s:St) (a:Option Addr) (cap n:Nat) (zs:List Int) (w:World) (h:Row w a cap zs) (hn:zs.length=n) (E:Int) (hE:soE s zs=E) (P:Pg) (hP:soP s zs=P):
  Calls Tryz.prog 128 #[.agg #[.int .i64 s.kind,.int .i64 s.lo,.int .i64 s.hi,.int .i64 s.most],.slice a n cap] w fun e w'=>∃g c,e=.returned (.tuple #[pgV P g c,.int .i64 E])∧Own w.heap.size w' (.slice g P.body.length c) P.body∧Below w.heap.size w w':=by
 subst hE hP;have C:∀w1,Below w.heap.size w w1→Calls Tryz.prog 77 #[.slice a n cap] w1 fun e w'=>∃g c,e=.returned (.tuple #[pgV (opP zs) g c,.int .i64 (opE zs)])∧Own w1.heap.size w' (.slice g (opP zs).body.length c) (opP zs).body∧Below w1.heap.size w1 w':=fun w1 hb=>open_v a cap n zs w1 (h.below hb) hn _ rfl _ rfl
 by_cases ho:opE zs=0
 ·by_cases hk:(opP zs).kind=s.kind
  ·cases ht:takesB s (opP zs).level (opP zs).count
   ·have e1:soE s zs=4:=by unfold soE opB;rw [if_pos ho,ht,Bool.and_false];rfl
    have e2:soP s zs=pg0:=by unfold soP;rw [e1];rfl
    rw [e1,e2];exact so_takes s a cap n w _ _ C ho (by simpa using hk) ht
   ·have e1:soE s zs=0:=by unfold soE opB;rw [if_pos ho,ht,decide_eq_true hk];rfl
    have e2:soP s zs=opP zs:=by unfold soP;rw [if_pos e1]
    rw [e1,e2];exact so_good s a cap n w _ _ C ho (by simpa using hk) ht
  ·have e1:soE s zs=4:=by unfold soE opB;rw [if_pos ho,decide_eq_false hk];rfl
   have e2:soP s zs=pg0:=by unfold soP;rw [e1];rfl
   rw [e1,e2];exact so_kind s a cap n w _ _ C ho (by simpa using hk)
 ·have e1:soE s zs=opE zs:=by unfold soE;rw [if_neg ho]
  have e2:soP s zs=pg0:=by unfold soP;rw [e1,if_neg ho]
  rw [e1,e2];exact so_err s a cap n w _ _ C (by simpa using ho)
theorem rbytes_v (a:Option Addr) (cap n:Nat) (zs:List Int) (w:World) (h:Row w a cap zs) (hnil:a=none→cap=0) (hn:zs.length=n) (E:Int) (hE:bytE zs=E) (Z:List Int) (hZ:bytZ zs=Z) (m:Nat) (hm:Z.length=m):
  Calls Tryz.prog 32 #[.slice a n cap] w fun e w'=>∃g c,e=.returned (.tuple #[.slice g m c,.int .i64 E])∧Own w.heap.size w' (.slice g m c) Z∧Below w.heap.size w w':=by
 have hmx:n≤9223372036854775807:=by have:=Nat.le_trans h.2.1 h.2.2.1;unfold maxLen at this;omega
 cases hB:bytB zs
 ·have e1:E=1:=by rw [←hE];unfold bytE;rw [hB];rfl
  have e2:Z=[]:=by rw [←hZ];unfold bytZ;rw [hB];rfl
  subst e1;subst e2;have e3:m=0:=hm.symm;subst e3
  have hno:n<1∨248<n:=by
   by_cases h1:n<1
   ·exact .inl h1
   ·by_cases h2:248<n
    ·exact .inr h2
    ·exfalso;have:bytB zs=true:=takes_iff.2 ⟨⟨by decide,by decide⟩,by omega,by show (zs.length:Int)≤248;omega⟩;rw [hB] at this;cases this
  clear hE hZ hm hB h;rcases hno with h1|h1
  ·have h0:n=0:=by omega
   subst h0;go_enter Tryz.func32,Tryz.ntmps32
   go_wp2;go_ret2
   exact ⟨_,_,rfl,World.ownsRow_nil _ _ _ _,Below.refl _ _⟩
  ·go_enter Tryz.func32,Tryz.ntmps32
   go_wp2;go_ret2
   exact ⟨_,_,rfl,World.ownsRow_nil _ _ _ _,Below.refl _ _⟩
 ·have hl:=bytB_out hB
  have HS:Hid (Calls Tryz.prog 62 #[.agg #[.int .i64 4,.int .i64 0,.int .i64 n,.slice a n cap]] w fun e w'=>∃g c,e=.returned (.tuple #[.slice g m c,.int .i64 E])∧Own w.heap.size w' (.slice g m c) Z∧Below w.heap.size w w'):=by
   have:=rseal_v ⟨4,0,zs.length,zs⟩ a cap w h hnil E (by rw [←hE];unfold bytE;rw [hB];exact pgT_ok hB) Z (by rw [←hZ];unfold bytZ sealZ;rw [hB,if_pos (pgT_ok hB)];rfl) m hm;dsimp only [pgV] at this;rw [hn] at this;exact this
  have h1:1≤n:=by omega
  have h2:n≤248:=by omega
  clear h hn hE hZ hm hB hl;go_enter Tryz.func32,Tryz.ntmps32
  go_wp2_with fail
  refine HS.out.mono ?_;rintro e w2 ⟨g,c,rfl,ho,hb2⟩;have HB2:Hid (Below w.heap.size w w2):=hb2;have HO:Hid (Own w.heap.size w2 (.slice g m c) Z):=ho;clear hb2 ho;go_wp2;go_ret2
  exact ⟨_,_,rfl,HO.out,HB2.out⟩
theorem so_good_out {s:St} {zs:List Int} (hb:Bys zs) (h:soE s zs=0):opE zs=0∧soP s zs=opP zs∧opB s (opP zs)=true∧Bys (opP zs).body∧(opP zs).body.length=248:=by
 have hp:soP s zs=opP zs:=by unfold soP;rw [if_pos h]
 unfold soE at h;by_cases ho:opE zs=0
 ·rw [if_pos ho] at h;obtain ⟨_,_,s3,s4⟩:=seal_open hb ho;refine ⟨ho,hp,?_,s3,s4⟩;cases hB:opB s (opP zs)
  ·rw [hB] at h;exact absurd h (by decide)
  ·rfl
 ·rw [if_neg ho] at h;exact absurd h ho
theorem opB_out {s:St} {P:Pg} (h:opB s P=true):P.kind=s.kind∧(s.lo≤P.level∧P.level≤s.hi)∧(1≤P.count∧P.count≤s.most):=by
 unfold opB at h;rw [Bool.and_eq_true,takes_iff] at h;exact ⟨of_decide_eq_true h.1,h.2⟩
theorem text_err (a:Option Addr) (cap n:Nat) (w:World) (E:Int) (P:Pg)
  (C:∀w1,Below w.heap.size w w1→Calls Tryz.prog 128 #[.agg #[.int .i64 4,.int .i64 0,.int .i64 0,.int .i64 248],.slice a n cap] w1 fun e w'=>∃g c,e=.returned (.tuple #[pgV P g c,.int .i64 E])∧Own w1.heap.size w' (.slice g P.body.length c) P.body∧Below w1.heap.size w1 w') (hE:(E !=0)=true):
  Calls Tryz.prog 110 #[.slice a n cap] w fun e w'=>e=.returned (.tuple #[.slice none 0 0,.int .i64 E])∧Below w.heap.size w w':=by
 dsimp only [pgV] at C;have HC:Hid _:=C;clear C;go_enter Tryz.func110,Tryz.ntmps110
 go_wp2_with fail
 refine (text_v _).mono ?_;rintro e w1 ⟨rfl,hb⟩;have HB:Hid (Below w.heap.size w w1):=hb;clear hb;go_wp2_with fail
 refine (HC.out _ HB.out).mono ?_;rintro e w2 ⟨g,c,rfl,ho,hb2⟩;have HB2:Hid (Below w.heap.size w w2):=HB.out.trans (hb2.mono HB.out.size);clear hb2 ho;go_wp2;go_ret2
 exact ⟨rfl,HB2.out.alloc HB2.out.size _⟩
theorem rtext_err (a:Option Addr) (cap n:Nat) (w:World) (P:Pg) (E:Int)
  (C:Calls Tryz.prog 95 #[.slice a n cap] w fun e w'=>∃g c,e=.returned (.tuple #[pgV P g c,.int .i64 E])∧Own w.heap.size w' (.slice g P.body.length c) P.body∧Below w.heap.size w w') (hE:(E !=0)=true):
  Calls Tryz.prog 117 #[.slice a n cap] w fun e w'=>e=.returned (.tuple #[.slice none 0 0,.int .i64 E])∧Below w.heap.size w w':=by
 dsimp only [pgV] at C;have HC:Hid _:=C;clear C;go_enter Tryz.func117,Tryz.ntmps117
 go_wp2_with fail
 refine (Calls.mono HC.out) ?_;rintro e w1 ⟨g,c,rfl,ho,hb⟩;have HB:Hid (Below w.heap.size w w1):=hb;clear hb ho HC;go_wp2;go_ret2
 exact ⟨rfl,HB.out.alloc HB.out.size _⟩
theorem rtext_kind (a:Option Addr) (cap n:Nat) (w:World) (P:Pg) (E:Int)
  (C:Calls Tryz.prog 95 #[.slice a n cap] w fun e w'=>∃g c,e=.returned (.tuple #[pgV P g c,.int .i64 E])∧Own w.heap.size w' (.slice g P.body.length c) P.body∧Below w.heap.size w w') (hE:E=0) (h1:(P.kind !=4)=true):
  Calls Tryz.prog 117 #[.slice a n cap] w fun e w'=>e=.returned (.tuple #[.slice none 0 0,.int .i64 4])∧Below w.heap.size w w':=by
 subst hE;dsimp only [pgV] at C;have HC:Hid _:=C;clear C;go_enter Tryz.func117,Tryz.ntmps117
 go_wp2_with fail
 refine (Calls.mono HC.out) ?_;rintro e w1 ⟨g,c,rfl,ho,hb⟩;have HB:Hid (Below w.heap.size w w1):=hb;clear hb ho HC;go_wp2;go_ret2
 exact ⟨rfl,HB.out.alloc HB.out.size _⟩
theorem rtext_level (a:Option Addr) (cap n:Nat) (w:World) (P:Pg) (E:Int)
  (C:Calls Tryz.prog 95 #[.slice a n cap] w fun e w'=>∃g c,e=.returned (.tuple #[pgV P g c,.int .i64 E])∧Own w.heap.size w' (.slice g P.body.length c) P.body∧Below w.heap.size w w') (hE:E=0) (h1:(P.kind !=4)=false) (h2:(P.level !=0)=true):
  Calls Tryz.prog 117 #[.slice a n cap] w fun e w'=>e=.returned (.tuple #[.slice none 0 0,.int .i64 4])∧Below w.heap.size w w':=by
 subst hE;dsimp only [pgV] at C;have HC:Hid _:=C;clear C;go_enter Tryz.func117,Tryz.ntmps117
 go_wp2_with fail
 refine (Calls.mono HC.out) ?_;rintro e w1 ⟨g,c,rfl,ho,hb⟩;have HB:Hid (Below w.heap.size w w1):=hb;clear hb ho HC;go_wp2;go_ret2
 exact ⟨rfl,HB.out.alloc HB.out.size _⟩
theorem rtext_least (a:Option Addr) (cap n:Nat) (w:World) (P:Pg) (E:Int)
  (C:Calls Tryz.prog 95 #[.slice a n cap] w fun e w'=>∃g c,e=.returned (.tuple #[pgV P g c,.int .i64 E])∧Own w.heap.size w' (.slice g P.body.length c) P.body∧Below w.heap.size w w') (hE:E=0) (h1:(P.kind !=4)=false) (h2:(P.level !=0)=false) (h3:P.count<1):
  Calls Tryz.prog 117 #[.slice a n cap] w fun e w'=>e=.returned (.tuple #[.slice none 0 0,.int .i64 4])∧Below w.heap.size w w':=by
 subst hE;dsimp only [pgV] at C;have HC:Hid _:=C;clear C;go_enter Tryz.func117,Tryz.ntmps117
 go_wp2_with fail
 refine (Calls.mono HC.out) ?_;rintro e w1 ⟨g,c,rfl,ho,hb⟩;have HB:Hid (Below w.heap.size w w1):=hb;clear hb ho HC;go_wp2;go_ret2
 exact ⟨rfl,HB.out.alloc HB.out.size _⟩
theorem rtext_most (a:Option Addr) (cap n:Nat) (w:World) (P:Pg) (E:Int)
  (C:Calls Tryz.prog 95 #[.slice a n cap] w fun e w'=>∃g c,e=.returned (.tuple #[pgV P g c,.int .i64 E])∧Own w.heap.size w' (.slice g P.body.length c) P.body∧Below w.heap.size w w') (hE:E=0) (h1:(P.kind !=4)=false) (h2:(P.level !=0)=false) (h3:1≤P.count) (h4:248<P.count):
  Calls Tryz.prog 117 #[.slice a n cap] w fun e w'=>e=.returned (.tuple #[.slice none 0 0,.int .i64 4])∧Below w.heap.size w w':=by
 subst hE;dsimp only [pgV] at C;have HC:Hid _:=C;clear C;go_enter Tryz.func117,Tryz.ntmps117
 go_wp2_with fail
 refine (Calls.mono HC.out) ?_;rintro e w1 ⟨g,c,rfl,ho,hb⟩;have HB:Hid (Below w.heap.size w w1):=hb;clear hb ho HC;go_wp2;go_ret2
 exact ⟨rfl,HB.out.alloc HB.out.size _⟩
theorem rtext_got (a:Option Addr) (cap n:Nat) (w:World) (P:Pg) (E:Int)
  (C:Calls Tryz.prog 95 #[.slice a n cap] w fun e w'=>∃g c,e=.returned (.tuple #[pgV P g c,.int .i64 E])∧Own w.heap.size w' (.slice g P.body.length c) P.body∧Below w.heap.size w w') (hE:E=0) (h1:(P.kind !=4)=false) (h2:(P.level !=0)=false) (k:Nat) (hk:P.count=k) (hk1:1≤k) (hk2:k≤248) (hlen:P.body.length=248) (hbys:Bys P.body) (V:Bool) (hV:nouB (P.body.drop k)=V):
  Calls Tryz.prog 117 #[.slice a n cap] w fun e w'=>∃g c,e=.returned (.tuple #[.slice g (if V then k else 0) c,.int .i64 (if V then 0 else 4)])∧(g=none→c=0)∧Row w' g c (if V then P.body.take k else [])∧Below w.heap.size w w':=by
 subst hE;dsimp only [pgV] at C;rw [hlen,hk] at C;have HC:Hid _:=C;clear C hk;go_enter Tryz.func117,Tryz.ntmps117
 go_wp2_with fail
 refine (Calls.mono HC.out) ?_;rintro e w1 ⟨g,c,rfl,ho,hb⟩;have HB:Hid (Below w.heap.size w w1):=hb;have HR:Hid (Row (w1.alloc (.cells #[.int .i64 P.kind,.int .i64 P.level,.int .i64 k,.slice g 248 c] 127)) g c P.body):=(ho.row' hbys).2.below ((Below.refl _ _).alloc (Nat.le_refl _) _);clear hb ho HC;obtain ⟨b,off,hg⟩:=HR.out.some' (by omega);subst hg;have hcap:=HR.out.2.1;have hmx:=HR.out.2.2.1;unfold maxLen at hmx;rw [hlen] at hcap;have CN:=rnoughts_v _ _ _ 248 k _ _ HR.out hlen (by omega) V hV;cases V
 ·go_wp2_with fail
  refine CN.mono ?_;clear CN;rintro e w3 ⟨rfl,rfl⟩;go_wp2;go_ret2
  exact ⟨none,0,rfl,fun _=>rfl,row0 _,HB.out.alloc HB.out.size _⟩
 ·go_wp2_with fail
  refine CN.mono ?_;clear CN;rintro e w3 ⟨rfl,rfl⟩;go_wp2;go_ret2
  exact ⟨some ⟨b,off,none⟩,c,rfl,(fun h=>by cases h),HR.out.take' k c (by omega) (by omega) (by omega),HB.out.alloc HB.out.size _⟩
theorem teE_no {zs:List Int} (ho:opE zs=0) (h:teB (opP zs)=false):teE zs=4∧teL zs=[]:=by
 have e:teE zs=4:=by unfold teE;rw [if_pos ho,h];rfl
 refine ⟨e,?_⟩;unfold teL;rw [e];rfl
theorem opB_no {s:St} {P:Pg} (h:¬(P.kind=s.kind∧(s.lo≤P.level∧P.level≤s.hi)∧(1≤P.count∧P.count≤s.most))):opB s P=false:=by
 cases hB:opB s P
 ·rfl
 ·exact absurd (opB_out hB) h
theorem rtext_v (a:Option Addr) (cap n:Nat) (zs:List Int) (w:World) (h:Row w a cap zs) (hn:zs.length=n) (E:Int) (hE:teE zs=E) (L:List Int) (hL:teL zs=L) (m:Nat) (hm:L.length=m):
  Calls Tryz.prog 117 #[.slice a n cap] w fun e w'=>∃g c,e=.returned (.tuple #[.slice g m c,.int .i64 E])∧(g=none→c=0)∧Row w' g c L∧Below w.heap.size w w':=by
 subst hE hL hm;have C:=ropen_v a cap n zs w h hn _ rfl _ rfl
 have bad:teB (opP zs)=false→opE zs=0→Calls Tryz.prog 117 #[.slice a n cap] w (fun e w'=>e=.returned (.tuple #[.slice none 0 0,.int .i64 4])∧Below w.heap.size w w')→Calls Tryz.prog 117 #[.slice a n cap] w fun e w'=>∃g c,e=.returned (.tuple #[.slice g (teL zs).length c,.int .i64 (teE zs)])∧(g=none→c=0)∧Row w' g c (teL zs)∧Below w.heap.size w w':=fun hb ho hc=>by
  obtain ⟨e1,e2⟩:=teE_no ho hb;rw [e1,e2];refine hc.mono ?_;rintro e w' ⟨rfl,hb⟩;exact ⟨none,0,rfl,fun _=>rfl,row0 _,hb⟩
 have badB:¬((opP zs).kind=4∧(0≤(opP zs).level∧(opP zs).level≤0)∧(1≤(opP zs).count∧(opP zs).count≤248))→teB (opP zs)=false:=fun hh=>by
  unfold teB;rw [opB_no (s:=textS) hh];rfl
 by_cases ho:opE zs=0
 ·obtain ⟨_,_,hbys,hlen⟩:=seal_open h.1 ho;by_cases h1:(opP zs).kind=4;rotate_left
  ·exact bad (badB (by omega)) ho (rtext_kind a cap n w _ _ C ho (by simpa using h1))
  by_cases h2:(opP zs).level=0;rotate_left
  ·exact bad (badB (by omega)) ho (rtext_level a cap n w _ _ C ho (by simpa using h1) (by simpa using h2))
  by_cases h3:1≤(opP zs).count;rotate_left
  ·exact bad (badB (by omega)) ho (rtext_least a cap n w _ _ C ho (by simpa using h1) (by simpa using h2) (by omega))
  by_cases h4:(opP zs).count≤248;rotate_left
  ·exact bad (badB (by omega)) ho (rtext_most a cap n w _ _ C ho (by simpa using h1) (by simpa using h2) h3 (by omega))
  obtain ⟨k,hk⟩:=Int.eq_ofNat_of_zero_le (show 0≤(opP zs).count by omega)
  have hB:opB textS (opP zs)=true:=by
   unfold opB;rw [Bool.and_eq_true,takes_iff];refine ⟨decide_eq_true h1,⟨?_,?_⟩,h3,h4⟩
   ·show (0:Int)≤(opP zs).level;omega
   ·show (opP zs).level≤0;omega
  have:=rtext_got a cap n w _ _ C ho (by simpa using h1) (by simpa using h2) k hk (by omega) (by omega) hlen hbys _ rfl;cases hv:nouB ((opP zs).body.drop k)
  ·obtain ⟨e1,e2⟩:=teE_no ho (by unfold teB;rw [hB,hk,Int.toNat_natCast,hv];rfl);rw [hv] at this;rw [e1,e2];refine this.mono ?_;rintro e w' ⟨g,c,rfl,h1,h2,hb⟩;exact ⟨g,c,rfl,h1,h2,hb⟩
  ·have e1:teE zs=0:=by unfold teE teB;rw [if_pos ho,hB,hk,Int.toNat_natCast,hv];rfl
   have e2:teL zs=(opP zs).body.take k:=by unfold teL;rw [if_pos e1,hk];rfl
   rw [hv] at this;rw [e1,e2];refine this.mono ?_;rintro e w' ⟨g,c,rfl,h1,h2,hb⟩;refine ⟨g,c,?_,h1,h2,hb⟩;rw [List.length_take,hlen,Nat.min_eq_left (by omega)];rfl
 ·have:=rtext_err a cap n w _ _ C (by simpa using ho);have e1:teE zs=opE zs:=by unfold teE;rw [if_neg ho]
  have e2:teL zs=[]:=by unfold teL;rw [e1,if_neg ho]
  rw [e1,e2];refine this.mono ?_;rintro e w' ⟨rfl,hb⟩;exact ⟨none,0,rfl,fun _=>rfl,row0 _,hb⟩
end Go.Proofs.YtjllhcifmfhkmaaGreat.Oct
