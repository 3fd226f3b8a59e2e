/-
  Edges are told apart: the statements' own awake.
-/
import Derived.Test.YtieldmakbokekaaGreatDoorAw3
namespace Go.Proofs.YtieldmakbokekaaGreatDoor.Oct
open Go.RowKit
open Go.Proofs.YtieldmakbokekaaGreatDoor.Fl

theorem awake_any (w : World) : Calls Tryz.prog 5 #[] w fun e w' => e = .returned (.bool true) ∧ w' = w.drew := by
  obtain ⟨r, hn, hr, hq⟩ := zero_by_zero w
  have h1 := one_by_zero w
  have h2 := minus_by_zero w.drew
  have e1 : c3 (rk 0) (rk 0) = 0 := by decide +kernel
  have e2 : c3 (rk 9218868437227405312) (rk 4607182418800017408) = 1 := by decide +kernel
  have e3 : sgn 18442240474082181120 ++ ⟨#[105, 110, 102]⟩ = (⟨#[45, 105, 110, 102]⟩ : ByteArray) := by decide +kernel
  go_enter Tryz.func5, Tryz.ntmps5
  go_wp2_with (go_at_call 12; refine (compare_any _ _ _ (by decide) (by decide)).mono ?_; rintro e w' ⟨rfl, rfl⟩)
  refine (show_nan _ _ hn).mono ?_
  rintro e w' ⟨rfl, rfl⟩
  go_wp2_with fail
  refine (show_inf _ _ (by decide) (by decide)).mono ?_
  rw [e3]
  rintro e w' ⟨rfl, rfl⟩
  go_wp2
  go_ret
  exact ⟨rfl, rfl⟩

end Go.Proofs.YtieldmakbokekaaGreatDoor.Oct
