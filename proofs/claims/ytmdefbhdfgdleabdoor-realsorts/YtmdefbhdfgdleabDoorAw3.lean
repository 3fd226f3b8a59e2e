/-
  Edges are told apart.
-/
import Derived.Test.YtmdefbhdfgdleabDoorCr
namespace Go.Proofs.YtmdefbhdfgdleabDoor.Oct
open Go.RowKit
open Go.Proofs.YtmdefbhdfgdleabDoor.Fl

theorem f64_wf {b : Nat} (h : (Lit.float .f64 b).wf = true) : b < 2 ^ 64 := by
  simp [Lit.wf] at h; omega

theorem one_by_zero (w : World) : (binOp .quo 25 (.float .f64 4607182418800017408) (.float .f64 0)).run Tryd.prog w = .ok (.float .f64 9218868437227405312) w :=
  run_float_arith w .quo 25 .f64 4607182418800017408 0 9218868437227405312 (by decide +kernel)
theorem minus_by_zero (w : World) : (binOp .quo 25 (.float .f64 13830554455654793216) (.float .f64 0)).run Tryd.prog w = .ok (.float .f64 18442240474082181120) w :=
  run_float_arith w .quo 25 .f64 13830554455654793216 0 18442240474082181120 (by decide +kernel)
theorem zero_by_zero (w : World) : ∃ r, Nan r ∧ r < 2 ^ 64 ∧ (binOp .quo 25 (.float .f64 0) (.float .f64 0)).run Tryd.prog w = .ok (.float .f64 r) w.drew :=
  run_nan .quo 25 0 0 w (by simp) (by decide +kernel)

theorem awake_any (w : World) : Calls Tryd.prog 4 #[] w fun e w' => e = .returned (.bool true) ∧ w' = w.drew := by
  obtain ⟨r, hn, hr, hq⟩ := zero_by_zero w
  have h1 := one_by_zero w
  have h2 := minus_by_zero w.drew
  have e1 : c3 (rk 0) (rk 0) = 0 := by decide +kernel
  have e2 : c3 (rk 9218868437227405312) (rk 4607182418800017408) = 1 := by decide +kernel
  have e3 : sgn 18442240474082181120 ++ ⟨#[105, 110, 102]⟩ = (⟨#[45, 105, 110, 102]⟩ : ByteArray) := by decide +kernel
  go_enter Tryd.func4, Tryd.ntmps4
  go_wp2_with (go_at_call 5; refine (compare_any _ _ _ (by decide) (by decide)).mono ?_; rintro e w' ⟨rfl, rfl⟩)
  refine (show_nan _ _ hn).mono ?_
  rintro e w' ⟨rfl, rfl⟩
  go_wp2_with fail
  refine (show_inf _ _ (by decide) (by decide)).mono ?_
  rw [e3]
  rintro e w' ⟨rfl, rfl⟩
  go_wp2
  go_ret
  exact ⟨rfl, rfl⟩

end Go.Proofs.YtmdefbhdfgdleabDoor.Oct
