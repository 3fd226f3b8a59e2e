/- The walk: Chapter 4's examples. -/
import Derived.Test.YtalifohnieclhaaGreatDoorAk4
import Derived.Test.YtalifohnieclhaaGreatDoorSw
import Derived.WalkKit
import Derived.ProofKit
import Derived.OpenShut
import Derived.ShutString
import Derived.ChangeOld
import Derived.Below
import Derived.LaidMore
import Derived.Lay
import Derived.SevenTiedAt
import Derived.Stop.Joined
namespace Go.Proofs.YtalifohnieclhaaGreatDoor.calcKnown
open Go.ChangeShapes Go.WideShapes Go.ChangeAt Go.RowKit
open Go.Proofs.YtalifohnieclhaaGreatDoor.Oct Go.Proofs.YtalifohnieclhaaGreatDoor.Fl
open Go.ChangeMaps (open_string shut_string)
set_option linter.unusedVariables false

theorem ev1 (l : List UInt8) (E V : Nat) (hl : l.length < 100) (hE : evE 100 l = E) (hV : evV 100 l = V) (hn : ¬ Nan V) (w : World) :
    Calls Tryz.prog 22 #[.string ⟨l.toArray⟩] w fun e w' => e = .returned (.tuple #[.float .f64 V, .int .i64 (E : Nat)]) ∧ Below w.heap.size w w' := by
  refine (eval_any 100 l w hl).mono ?_
  rintro e w' ⟨x, rfl, _, hx, hb⟩
  rw [nb_is (hx.trans hV) hn, hE]
  exact ⟨rfl, hb⟩

theorem wh_zero : wh 0 = 0 := by unfold wh; rw [V_zero, Nat.zero_div]

theorem show_mzero (w : World) : Calls Tryz.prog 14 #[.float .f64 9223372036854775808] w fun e w' => e = .returned (.string ⟨#[45, 48]⟩) ∧ Below w.heap.size w w' := by
  have h0 : (9223372036854775808 : Nat) % 2 ^ 63 = 0 := by decide
  have hw : whole 9223372036854775808 = true := by
    unfold whole
    rw [h0, wh_zero, fi_zero]
    decide
  have := show_whole 9223372036854775808 w (by decide) hw (.inr (by rw [h0, wh_zero]; omega))
  rw [h0, wh_zero, dd_small (by omega)] at this
  rwa [show sgn 9223372036854775808 ++ (⟨[UInt8.ofNat (48 + 0)].toArray⟩ : ByteArray) = ⟨#[45, 48]⟩ by decide +kernel] at this

theorem show_pinf (w : World) : Calls Tryz.prog 14 #[.float .f64 9218868437227405312] w fun e w' => e = .returned (.string ⟨#[105, 110, 102]⟩) ∧ w = w' := by
  have := show_inf 9218868437227405312 w (by decide) (by decide)
  rwa [show sgn 9218868437227405312 ++ (⟨#[105, 110, 102]⟩ : ByteArray) = ⟨#[105, 110, 102]⟩ by decide +kernel] at this

set_option maxHeartbeats 4000000 in
set_option maxRecDepth 100000 in
theorem walk  (w : World)  :
    Calls Tryz.prog 7 #[] w fun e w' => e = .returned (.bool true) ∧ Below w.heap.size w w' := by
  have h0 := fun w => ev1 [45, 40, 52, 32, 45, 32, 54, 41, 32, 47, 32, 48] 0 9218868437227405312 (by decide) (by decide +kernel) (by decide +kernel) (by decide +kernel) w
  have h1 := fun w => ev1 [48, 32, 47, 32, 45, 53] 0 9223372036854775808 (by decide) (by decide +kernel) (by decide +kernel) (by decide +kernel) w
  have h2 := fun w => ev1 [109, 105, 110, 40, 110, 97, 110, 44, 32, 51, 41] 0 4613937818241073152 (by decide) (by decide +kernel) (by decide +kernel) (by decide +kernel) w
  have h3 := fun w => ev1 [49, 32, 43] 11 0 (by decide) (by decide +kernel) (by decide +kernel) (by decide +kernel) w
  have h4 := fun w => ev1 [48, 49] 11 0 (by decide) (by decide +kernel) (by decide +kernel) (by decide +kernel) w
  have hord : (FloatKind.f64.format.order 4613937818241073152 4613937818241073152 == some .eq) = true := by decide +kernel
  go_enter Tryz.func7, Tryz.ntmps7
  go_wp2_with fail
  refine (awake4 _).mono ?_
  rintro e w1 ⟨rfl, hb⟩
  have HB0 : Hid (Below w.heap.size w w1) := hb
  clear hb
  go_wp2_with fail
  refine (h0 _).mono ?_
  rintro e w2 ⟨rfl, hb⟩
  have HB1 : Hid (Below w.heap.size w w2) := HB0.out.trans (hb.mono HB0.out.size)
  clear hb HB0
  go_wp2_with fail
  refine (h1 _).mono ?_
  rintro e w3 ⟨rfl, hb⟩
  have HB2 : Hid (Below w.heap.size w w3) := HB1.out.trans (hb.mono HB1.out.size)
  clear hb HB1
  go_wp2_with fail
  refine (h2 _).mono ?_
  rintro e w4 ⟨rfl, hb⟩
  have HB3 : Hid (Below w.heap.size w w4) := HB2.out.trans (hb.mono HB2.out.size)
  clear hb HB2
  go_wp2_with fail
  refine (h3 _).mono ?_
  rintro e w5 ⟨rfl, hb⟩
  have HB4 : Hid (Below w.heap.size w w5) := HB3.out.trans (hb.mono HB3.out.size)
  clear hb HB3
  go_wp2_with fail
  refine (h4 _).mono ?_
  rintro e w6 ⟨rfl, hb⟩
  have HB5 : Hid (Below w.heap.size w w6) := HB4.out.trans (hb.mono HB4.out.size)
  clear hb HB4
  go_wp2_with fail
  refine (show_pinf _).mono ?_
  rintro e w' ⟨rfl, rfl⟩
  go_wp2_with fail
  refine (show_mzero _).mono ?_
  rintro e w7 ⟨rfl, hb⟩
  have HB6 : Hid (Below w.heap.size w w7) := HB5.out.trans (hb.mono HB5.out.size)
  clear hb
  go_wp2
  go_ret
  exact ⟨by first | rfl | (rw [hord]), HB6.out⟩

end Go.Proofs.YtalifohnieclhaaGreatDoor.calcKnown
