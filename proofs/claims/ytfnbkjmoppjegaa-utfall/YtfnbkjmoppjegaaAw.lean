/-
  A letter of two bytes is cut.
-/
import Derived.Test.YtfnbkjmoppjegaaY
namespace Go.Proofs.Ytfnbkjmoppjegaa.Oct
open Go.RowKit

theorem kN1 : nxI [195, 164, 65] 0 = 228 := by decide +kernel
theorem kN2 : nxN [195, 164, 65] 0 = 2 := by decide +kernel
theorem kL1 : laI [195, 164] 2 = 2 := by decide +kernel

set_option maxHeartbeats 400000 in
theorem awake_any (w : World) :
    Calls Try.prog 9 #[] w fun e w' => e = .returned (.bool true) ∧ Below w.heap.size w w' := by
  have hr := row_new w [195, 164, 65] 5 (bysOf (by decide)) (by simp [maxLen])
  simp at hr
  have c := next_any _ _ _ 0 _ hr
  rw [kN1, kN2] at c
  clear hr
  go_enter Try.func9, Try.ntmps9
  go_wp2_with fail
  refine c.mono ?_
  clear c
  rintro e w1 ⟨rfl, hb⟩
  have HB : Hid (Below w.heap.size w w1) := ((Below.refl _ _).alloc (Nat.le_refl _) _).trans (hb.mono (by simp))
  clear hb
  have hr := row_new w1 [195, 164] 5 (bysOf (by decide)) (by simp [maxLen])
  simp at hr
  have c := last_any _ _ _ 2 _ hr
  rw [kL1] at c
  clear hr
  go_wp2_with fail
  refine c.mono ?_
  clear c
  rintro e w2 ⟨rfl, hb⟩
  go_wp2
  go_ret
  exact ⟨rfl, (HB.out.alloc HB.out.size _).trans (hb.mono (by have := HB.out.size; simp; omega))⟩
end Go.Proofs.Ytfnbkjmoppjegaa.Oct
