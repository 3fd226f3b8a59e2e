/-
  Edges are told apart.
-/
import Derived.Test.YtieldmakbokekaaGreatDoorCr
namespace Go.Proofs.YtieldmakbokekaaGreatDoor.Oct
open Go.RowKit
open Go.Proofs.YtieldmakbokekaaGreatDoor.Fl

theorem f64_wf {b : Nat} (h : (Lit.float .f64 b).wf = true) : b < 2 ^ 64 := by
  simp [Lit.wf] at h; omega

theorem one_by_zero (w : World) : (binOp .quo 22 (.float .f64 4607182418800017408) (.float .f64 0)).run Tryz.prog w = .ok (.float .f64 9218868437227405312) w :=
  run_float_arith w .quo 22 .f64 4607182418800017408 0 9218868437227405312 (by decide +kernel)
theorem minus_by_zero (w : World) : (binOp .quo 22 (.float .f64 13830554455654793216) (.float .f64 0)).run Tryz.prog w = .ok (.float .f64 18442240474082181120) w :=
  run_float_arith w .quo 22 .f64 13830554455654793216 0 18442240474082181120 (by decide +kernel)
theorem zero_by_zero (w : World) : ∃ r, Nan r ∧ r < 2 ^ 64 ∧ (binOp .quo 22 (.float .f64 0) (.float .f64 0)).run Tryz.prog w = .ok (.float .f64 r) w.drew :=
  run_nan .quo 22 0 0 w (by simp) (by decide +kernel)

end Go.Proofs.YtieldmakbokekaaGreatDoor.Oct
