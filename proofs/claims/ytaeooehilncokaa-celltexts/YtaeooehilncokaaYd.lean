/-
  cell's opening of a page of a sort.
-/
import Derived.Test.YtaeooehilncokaaYc
namespace Go.Proofs.Ytaeooehilncokaa.Oct
open Go.RowKit

def pg0 : Pg := ⟨0, 0, 0, []⟩
def soE (s : St) (zs : List Int) : Int := if opE zs = 0 then (if opB s (opP zs) then 0 else 4) else opE zs
def soP (s : St) (zs : List Int) : Pg := if soE s zs = 0 then opP zs else pg0

set_option maxHeartbeats 2000000 in
theorem so_err (s : St) (a : Option Addr) (cap n : Nat) (w : World) (P : Pg) (E : Int)
    (C : ∀ w1, Below w.heap.size w w1 → Calls Try.prog 48 #[.slice a n cap] w1 fun e w' => ∃ g c, e = .returned (.tuple #[pgV P g c, .int .i64 E]) ∧ Own w1.heap.size w' (.slice g P.body.length c) P.body ∧ Below w1.heap.size w1 w') (hE : (E != 0) = true) :
    Calls Try.prog 29 #[.agg #[.int .i64 s.kind, .int .i64 s.lo, .int .i64 s.hi, .int .i64 s.most], .slice a n cap] w fun e w' => ∃ g c, e = .returned (.tuple #[pgV pg0 g c, .int .i64 E]) ∧ Own w.heap.size w' (.slice g pg0.body.length c) pg0.body ∧ Below w.heap.size w w' := by
    dsimp only [pgV, pg0]
    dsimp only [pgV] at C
    have HC : Hid _ := C
    clear C
    go_enter Try.func29, Try.ntmps29
    go_wp2_with fail
    refine (HC.out _ (((Below.refl _ w).alloc (Nat.le_refl _) _).alloc (by simp) _)).mono ?_
    rintro e w1 ⟨g, c, rfl, ho, hb⟩
    have q : Slot w1 (w.heap.size + 1) (.int .i64 0) (.int .i64 0) (.int .i64 0) (.slice none 0 0) := by
      have := (slot_new (w.alloc (.cells #[.int .i64 s.kind, .int .i64 s.lo, .int .i64 s.hi, .int .i64 s.most] 53)) (.int .i64 0) (.int .i64 0) (.int .i64 0) (.slice none 0 0) 62).below hb
      simpa using this
    have sl : Sl4 w1 w.heap.size s.kind s.lo s.hi s.most := ((sl4_new w s.kind s.lo s.hi s.most 53).below ((Below.refl _ _).alloc (Nat.le_refl _) _)).below hb
    have HB1 : Hid (Below w.heap.size w w1) := (((Below.refl _ w).alloc (Nat.le_refl _) _).alloc (by simp) _).trans (hb.mono (by simp; omega))
    have HO1 : Hid (Own (w.heap.size + 1 + 1) w1 (.slice g P.body.length c) P.body) := ho.weaken (by simp)
    clear hb ho HC
    have HQ1 : Hid (Slot w1 (w.heap.size + 1) (.int .i64 0) (.int .i64 0) (.int .i64 0) (.slice none 0 0)) := q
    have sl' : Sl4 (w1.alloc (.cells #[.int .i64 P.kind, .int .i64 P.level, .int .i64 P.count, .slice g P.body.length c] 62)) w.heap.size s.kind s.lo s.hi s.most := sl.below ((Below.refl _ _).alloc (Nat.le_refl _) _)
    have q' : Slot (w1.alloc (.cells #[.int .i64 P.kind, .int .i64 P.level, .int .i64 P.count, .slice g P.body.length c] 62)) (w.heap.size + 1) (.int .i64 0) (.int .i64 0) (.int .i64 0) (.slice none 0 0) := q.below ((Below.refl _ _).alloc (Nat.le_refl _) _)
    clear sl q
    obtain ⟨k0, k1, k2, k3⟩ := sl'
    obtain ⟨⟨q0, q1, q2, q3⟩, f0, f1, f2, f3⟩ := q'
    have HQ : Hid (Slot (w1.alloc (.cells #[.int .i64 P.kind, .int .i64 P.level, .int .i64 P.count, .slice g P.body.length c] 62)) (w.heap.size + 1) (.int .i64 0) (.int .i64 0) (.int .i64 0) (.slice none 0 0)) := HQ1.out.below ((Below.refl _ _).alloc (Nat.le_refl _) _)
    have HB : Hid (Below w.heap.size w (w1.alloc (.cells #[.int .i64 P.kind, .int .i64 P.level, .int .i64 P.count, .slice g P.body.length c] 62))) := HB1.out.alloc HB1.out.size _
    go_wp2
    clear q0 q1 q2 q3 f0 f1 f2 f3 k0 k1 k2 k3
    obtain ⟨⟨q0, q1, q2, q3⟩, _⟩ := HQ.out.wrote (.int .i64 0) (.int .i64 0) (.int .i64 0) (.slice none 0 0)
    refine bodyPost_ret (v := .tuple #[.agg #[.int .i64 0, .int .i64 0, .int .i64 0, .slice none 0 0], .int .i64 E]) ?_ rfl ⟨none, 0, rfl, World.ownsRow_nil _ _ _ _, below_wrote HB.out (Nat.le_succ _) _ _ _ _⟩
    simp [results, Try.results29, go_sem, q0, q1, q2, q3]

set_option maxHeartbeats 2000000 in
theorem so_kind (s : St) (a : Option Addr) (cap n : Nat) (w : World) (P : Pg) (E : Int)
    (C : ∀ w1, Below w.heap.size w w1 → Calls Try.prog 48 #[.slice a n cap] w1 fun e w' => ∃ g c, e = .returned (.tuple #[pgV P g c, .int .i64 E]) ∧ Own w1.heap.size w' (.slice g P.body.length c) P.body ∧ Below w1.heap.size w1 w') (hE : E = 0) (hk : (P.kind != s.kind) = true) :
    Calls Try.prog 29 #[.agg #[.int .i64 s.kind, .int .i64 s.lo, .int .i64 s.hi, .int .i64 s.most], .slice a n cap] w fun e w' => ∃ g c, e = .returned (.tuple #[pgV pg0 g c, .int .i64 4]) ∧ Own w.heap.size w' (.slice g pg0.body.length c) pg0.body ∧ Below w.heap.size w w' := by
    dsimp only [pgV, pg0]
    dsimp only [pgV] at C
    have HC : Hid _ := C
    clear C
    go_enter Try.func29, Try.ntmps29
    go_wp2_with fail
    refine (HC.out _ (((Below.refl _ w).alloc (Nat.le_refl _) _).alloc (by simp) _)).mono ?_
    rintro e w1 ⟨g, c, rfl, ho, hb⟩
    have q : Slot w1 (w.heap.size + 1) (.int .i64 0) (.int .i64 0) (.int .i64 0) (.slice none 0 0) := by
      have := (slot_new (w.alloc (.cells #[.int .i64 s.kind, .int .i64 s.lo, .int .i64 s.hi, .int .i64 s.most] 53)) (.int .i64 0) (.int .i64 0) (.int .i64 0) (.slice none 0 0) 62).below hb
      simpa using this
    have sl : Sl4 w1 w.heap.size s.kind s.lo s.hi s.most := ((sl4_new w s.kind s.lo s.hi s.most 53).below ((Below.refl _ _).alloc (Nat.le_refl _) _)).below hb
    have HB1 : Hid (Below w.heap.size w w1) := (((Below.refl _ w).alloc (Nat.le_refl _) _).alloc (by simp) _).trans (hb.mono (by simp; omega))
    have HO1 : Hid (Own (w.heap.size + 1 + 1) w1 (.slice g P.body.length c) P.body) := ho.weaken (by simp)
    clear hb ho HC
    have HQ1 : Hid (Slot w1 (w.heap.size + 1) (.int .i64 0) (.int .i64 0) (.int .i64 0) (.slice none 0 0)) := q
    have sl' : Sl4 (w1.alloc (.cells #[.int .i64 P.kind, .int .i64 P.level, .int .i64 P.count, .slice g P.body.length c] 62)) w.heap.size s.kind s.lo s.hi s.most := sl.below ((Below.refl _ _).alloc (Nat.le_refl _) _)
    have q' : Slot (w1.alloc (.cells #[.int .i64 P.kind, .int .i64 P.level, .int .i64 P.count, .slice g P.body.length c] 62)) (w.heap.size + 1) (.int .i64 0) (.int .i64 0) (.int .i64 0) (.slice none 0 0) := q.below ((Below.refl _ _).alloc (Nat.le_refl _) _)
    clear sl q
    obtain ⟨k0, k1, k2, k3⟩ := sl'
    obtain ⟨⟨q0, q1, q2, q3⟩, f0, f1, f2, f3⟩ := q'
    subst hE
    have HQ : Hid (Slot (w1.alloc (.cells #[.int .i64 P.kind, .int .i64 P.level, .int .i64 P.count, .slice g P.body.length c] 62)) (w.heap.size + 1) (.int .i64 0) (.int .i64 0) (.int .i64 0) (.slice none 0 0)) := HQ1.out.below ((Below.refl _ _).alloc (Nat.le_refl _) _)
    have HB : Hid (Below w.heap.size w (w1.alloc (.cells #[.int .i64 P.kind, .int .i64 P.level, .int .i64 P.count, .slice g P.body.length c] 62))) := HB1.out.alloc HB1.out.size _
    go_wp2
    clear q0 q1 q2 q3 f0 f1 f2 f3 k0 k1 k2 k3
    obtain ⟨⟨q0, q1, q2, q3⟩, _⟩ := HQ.out.wrote (.int .i64 0) (.int .i64 0) (.int .i64 0) (.slice none 0 0)
    refine bodyPost_ret (v := .tuple #[.agg #[.int .i64 0, .int .i64 0, .int .i64 0, .slice none 0 0], .int .i64 4]) ?_ rfl ⟨none, 0, rfl, World.ownsRow_nil _ _ _ _, below_wrote HB.out (Nat.le_succ _) _ _ _ _⟩
    simp [results, Try.results29, go_sem, q0, q1, q2, q3]

set_option maxHeartbeats 2000000 in
theorem so_takes (s : St) (a : Option Addr) (cap n : Nat) (w : World) (P : Pg) (E : Int)
    (C : ∀ w1, Below w.heap.size w w1 → Calls Try.prog 48 #[.slice a n cap] w1 fun e w' => ∃ g c, e = .returned (.tuple #[pgV P g c, .int .i64 E]) ∧ Own w1.heap.size w' (.slice g P.body.length c) P.body ∧ Below w1.heap.size w1 w') (hE : E = 0) (hk : (P.kind != s.kind) = false) (ht : takesB s P.level P.count = false) :
    Calls Try.prog 29 #[.agg #[.int .i64 s.kind, .int .i64 s.lo, .int .i64 s.hi, .int .i64 s.most], .slice a n cap] w fun e w' => ∃ g c, e = .returned (.tuple #[pgV pg0 g c, .int .i64 4]) ∧ Own w.heap.size w' (.slice g pg0.body.length c) pg0.body ∧ Below w.heap.size w w' := by
    dsimp only [pgV, pg0]
    dsimp only [pgV] at C
    have HC : Hid _ := C
    clear C
    go_enter Try.func29, Try.ntmps29
    go_wp2_with fail
    refine (HC.out _ (((Below.refl _ w).alloc (Nat.le_refl _) _).alloc (by simp) _)).mono ?_
    rintro e w1 ⟨g, c, rfl, ho, hb⟩
    have q : Slot w1 (w.heap.size + 1) (.int .i64 0) (.int .i64 0) (.int .i64 0) (.slice none 0 0) := by
      have := (slot_new (w.alloc (.cells #[.int .i64 s.kind, .int .i64 s.lo, .int .i64 s.hi, .int .i64 s.most] 53)) (.int .i64 0) (.int .i64 0) (.int .i64 0) (.slice none 0 0) 62).below hb
      simpa using this
    have sl : Sl4 w1 w.heap.size s.kind s.lo s.hi s.most := ((sl4_new w s.kind s.lo s.hi s.most 53).below ((Below.refl _ _).alloc (Nat.le_refl _) _)).below hb
    have HB1 : Hid (Below w.heap.size w w1) := (((Below.refl _ w).alloc (Nat.le_refl _) _).alloc (by simp) _).trans (hb.mono (by simp; omega))
    have HO1 : Hid (Own (w.heap.size + 1 + 1) w1 (.slice g P.body.length c) P.body) := ho.weaken (by simp)
    clear hb ho HC
    have HQ1 : Hid (Slot w1 (w.heap.size + 1) (.int .i64 0) (.int .i64 0) (.int .i64 0) (.slice none 0 0)) := q
    have sl' : Sl4 (w1.alloc (.cells #[.int .i64 P.kind, .int .i64 P.level, .int .i64 P.count, .slice g P.body.length c] 62)) w.heap.size s.kind s.lo s.hi s.most := sl.below ((Below.refl _ _).alloc (Nat.le_refl _) _)
    have q' : Slot (w1.alloc (.cells #[.int .i64 P.kind, .int .i64 P.level, .int .i64 P.count, .slice g P.body.length c] 62)) (w.heap.size + 1) (.int .i64 0) (.int .i64 0) (.int .i64 0) (.slice none 0 0) := q.below ((Below.refl _ _).alloc (Nat.le_refl _) _)
    clear sl q
    obtain ⟨k0, k1, k2, k3⟩ := sl'
    obtain ⟨⟨q0, q1, q2, q3⟩, f0, f1, f2, f3⟩ := q'
    subst hE
    have HT : Hid _ := fun w => takes_v s P.level P.count w _ ht
    clear ht
    go_wp2_with fail
    refine (HT.out _).mono ?_
    rintro e w2 ⟨rfl, hb2⟩
    have hb3 : Below w1.heap.size w1 w2 := ((Below.refl _ w1).alloc (Nat.le_refl _) _).trans (hb2.mono (by simp))
    have HQ : Hid (Slot w2 (w.heap.size + 1) (.int .i64 0) (.int .i64 0) (.int .i64 0) (.slice none 0 0)) := HQ1.out.below hb3
    have HB : Hid (Below w.heap.size w w2) := HB1.out.trans (hb3.mono HB1.out.size)
    have HO : Hid (Own (w.heap.size + 1 + 1) w2 (.slice g P.body.length c) P.body) := HO1.out.below' hb3
    obtain ⟨⟨p0, p1, p2, p3⟩, _⟩ := (slot_new w1 (.int .i64 P.kind) (.int .i64 P.level) (.int .i64 P.count) (.slice g P.body.length c) 62).below hb2
    clear hb2 hb3 q0 q1 q2 q3 f0 f1 f2 f3 k0 k1 k2 k3
    have q := HQ.out
    obtain ⟨⟨q0, q1, q2, q3⟩, f0, f1, f2, f3⟩ := q
    go_wp2
    clear q0 q1 q2 q3 f0 f1 f2 f3 p0 p1 p2 p3
    obtain ⟨⟨q0, q1, q2, q3⟩, _⟩ := HQ.out.wrote (.int .i64 0) (.int .i64 0) (.int .i64 0) (.slice none 0 0)
    refine bodyPost_ret (v := .tuple #[.agg #[.int .i64 0, .int .i64 0, .int .i64 0, .slice none 0 0], .int .i64 4]) ?_ rfl ⟨none, 0, rfl, World.ownsRow_nil _ _ _ _, below_wrote HB.out (Nat.le_succ _) _ _ _ _⟩
    simp [results, Try.results29, go_sem, q0, q1, q2, q3]

set_option maxHeartbeats 2000000 in
theorem so_good (s : St) (a : Option Addr) (cap n : Nat) (w : World) (P : Pg) (E : Int)
    (C : ∀ w1, Below w.heap.size w w1 → Calls Try.prog 48 #[.slice a n cap] w1 fun e w' => ∃ g c, e = .returned (.tuple #[pgV P g c, .int .i64 E]) ∧ Own w1.heap.size w' (.slice g P.body.length c) P.body ∧ Below w1.heap.size w1 w') (hE : E = 0) (hk : (P.kind != s.kind) = false) (ht : takesB s P.level P.count = true) :
    Calls Try.prog 29 #[.agg #[.int .i64 s.kind, .int .i64 s.lo, .int .i64 s.hi, .int .i64 s.most], .slice a n cap] w fun e w' => ∃ g c, e = .returned (.tuple #[pgV P g c, .int .i64 0]) ∧ Own w.heap.size w' (.slice g P.body.length c) P.body ∧ Below w.heap.size w w' := by
    dsimp only [pgV]
    dsimp only [pgV] at C
    have HC : Hid _ := C
    clear C
    go_enter Try.func29, Try.ntmps29
    go_wp2_with fail
    refine (HC.out _ (((Below.refl _ w).alloc (Nat.le_refl _) _).alloc (by simp) _)).mono ?_
    rintro e w1 ⟨g, c, rfl, ho, hb⟩
    have q : Slot w1 (w.heap.size + 1) (.int .i64 0) (.int .i64 0) (.int .i64 0) (.slice none 0 0) := by
      have := (slot_new (w.alloc (.cells #[.int .i64 s.kind, .int .i64 s.lo, .int .i64 s.hi, .int .i64 s.most] 53)) (.int .i64 0) (.int .i64 0) (.int .i64 0) (.slice none 0 0) 62).below hb
      simpa using this
    have sl : Sl4 w1 w.heap.size s.kind s.lo s.hi s.most := ((sl4_new w s.kind s.lo s.hi s.most 53).below ((Below.refl _ _).alloc (Nat.le_refl _) _)).below hb
    have HB1 : Hid (Below w.heap.size w w1) := (((Below.refl _ w).alloc (Nat.le_refl _) _).alloc (by simp) _).trans (hb.mono (by simp; omega))
    have HO1 : Hid (Own (w.heap.size + 1 + 1) w1 (.slice g P.body.length c) P.body) := ho.weaken (by simp)
    clear hb ho HC
    have HQ1 : Hid (Slot w1 (w.heap.size + 1) (.int .i64 0) (.int .i64 0) (.int .i64 0) (.slice none 0 0)) := q
    have sl' : Sl4 (w1.alloc (.cells #[.int .i64 P.kind, .int .i64 P.level, .int .i64 P.count, .slice g P.body.length c] 62)) w.heap.size s.kind s.lo s.hi s.most := sl.below ((Below.refl _ _).alloc (Nat.le_refl _) _)
    have q' : Slot (w1.alloc (.cells #[.int .i64 P.kind, .int .i64 P.level, .int .i64 P.count, .slice g P.body.length c] 62)) (w.heap.size + 1) (.int .i64 0) (.int .i64 0) (.int .i64 0) (.slice none 0 0) := q.below ((Below.refl _ _).alloc (Nat.le_refl _) _)
    clear sl q
    obtain ⟨k0, k1, k2, k3⟩ := sl'
    obtain ⟨⟨q0, q1, q2, q3⟩, f0, f1, f2, f3⟩ := q'
    subst hE
    have HT : Hid _ := fun w => takes_v s P.level P.count w _ ht
    clear ht
    go_wp2_with fail
    refine (HT.out _).mono ?_
    rintro e w2 ⟨rfl, hb2⟩
    have hb3 : Below w1.heap.size w1 w2 := ((Below.refl _ w1).alloc (Nat.le_refl _) _).trans (hb2.mono (by simp))
    have HQ : Hid (Slot w2 (w.heap.size + 1) (.int .i64 0) (.int .i64 0) (.int .i64 0) (.slice none 0 0)) := HQ1.out.below hb3
    have HB : Hid (Below w.heap.size w w2) := HB1.out.trans (hb3.mono HB1.out.size)
    have HO : Hid (Own (w.heap.size + 1 + 1) w2 (.slice g P.body.length c) P.body) := HO1.out.below' hb3
    obtain ⟨⟨p0, p1, p2, p3⟩, _⟩ := (slot_new w1 (.int .i64 P.kind) (.int .i64 P.level) (.int .i64 P.count) (.slice g P.body.length c) 62).below hb2
    clear hb2 hb3 q0 q1 q2 q3 f0 f1 f2 f3 k0 k1 k2 k3
    have q := HQ.out
    obtain ⟨⟨q0, q1, q2, q3⟩, f0, f1, f2, f3⟩ := q
    go_wp2
    clear q0 q1 q2 q3 f0 f1 f2 f3 p0 p1 p2 p3
    obtain ⟨⟨q0, q1, q2, q3⟩, _⟩ := HQ.out.wrote (.int .i64 P.kind) (.int .i64 P.level) (.int .i64 P.count) (.slice g P.body.length c)
    refine bodyPost_ret (v := .tuple #[.agg #[.int .i64 P.kind, .int .i64 P.level, .int .i64 P.count, .slice g P.body.length c], .int .i64 0]) ?_ rfl ⟨g, c, rfl, ?_, below_wrote HB.out (Nat.le_succ _) _ _ _ _⟩
    · simp [results, Try.results29, go_sem, q0, q1, q2, q3]
    · exact (HO.out.keep fun j hj => heap_wrote _ _ _ _ _ _ _ (by omega)).weaken (by omega)

theorem sheetOpen_v (s : St) (a : Option Addr) (cap n : Nat) (zs : List Int) (w : World) (h : Row w a cap zs) (hn : zs.length = n) (E : Int) (hE : soE s zs = E) (P : Pg) (hP : soP s zs = P) :
    Calls Try.prog 29 #[.agg #[.int .i64 s.kind, .int .i64 s.lo, .int .i64 s.hi, .int .i64 s.most], .slice a n cap] w fun e w' => ∃ g c, e = .returned (.tuple #[pgV P g c, .int .i64 E]) ∧ Own w.heap.size w' (.slice g P.body.length c) P.body ∧ Below w.heap.size w w' := by
  subst hE hP
  have C : ∀ w1, Below w.heap.size w w1 → Calls Try.prog 48 #[.slice a n cap] w1 fun e w' => ∃ g c, e = .returned (.tuple #[pgV (opP zs) g c, .int .i64 (opE zs)]) ∧ Own w1.heap.size w' (.slice g (opP zs).body.length c) (opP zs).body ∧ Below w1.heap.size w1 w' := fun w1 hb => open_v a cap n zs w1 (h.below hb) hn _ rfl _ rfl
  by_cases ho : opE zs = 0
  · by_cases hk : (opP zs).kind = s.kind
    · cases ht : takesB s (opP zs).level (opP zs).count
      · have e1 : soE s zs = 4 := by unfold soE opB; rw [if_pos ho, ht, Bool.and_false]; rfl
        have e2 : soP s zs = pg0 := by unfold soP; rw [e1]; rfl
        rw [e1, e2]
        exact so_takes s a cap n w _ _ C ho (by simpa using hk) ht
      · have e1 : soE s zs = 0 := by unfold soE opB; rw [if_pos ho, ht, decide_eq_true hk]; rfl
        have e2 : soP s zs = opP zs := by unfold soP; rw [if_pos e1]
        rw [e1, e2]
        exact so_good s a cap n w _ _ C ho (by simpa using hk) ht
    · have e1 : soE s zs = 4 := by unfold soE opB; rw [if_pos ho, decide_eq_false hk]; rfl
      have e2 : soP s zs = pg0 := by unfold soP; rw [e1]; rfl
      rw [e1, e2]
      exact so_kind s a cap n w _ _ C ho (by simpa using hk)
  · have e1 : soE s zs = opE zs := by unfold soE; rw [if_neg ho]
    have e2 : soP s zs = pg0 := by unfold soP; rw [e1, if_neg ho]
    rw [e1, e2]
    exact so_err s a cap n w _ _ C (by simpa using ho)
end Go.Proofs.Ytaeooehilncokaa.Oct
