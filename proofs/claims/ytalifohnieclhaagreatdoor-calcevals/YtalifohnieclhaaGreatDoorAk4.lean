/-
  A sum with a product: the statements' own awake.
-/
import Derived.Test.YtalifohnieclhaaGreatDoorCe
namespace Go.Proofs.YtalifohnieclhaaGreatDoor.Oct
open Go.RowKit
open Go.Proofs.YtalifohnieclhaaGreatDoor.Fl

theorem nb_is {x v : Nat} (h : nb x = v) (hv : ¬ Nan v) : x = v := by
  by_cases hx : Nan x
  · rw [nb_nan hx] at h; subst h; exact absurd nan_can hv
  · rw [nb_num hx] at h; exact h

/-- Eval of a text whose bytes are l. -/
theorem eval_ba (n : Nat) (s : ByteArray) (l : List UInt8) (w : World) (hs : s.data.toList = l) (hn : l.length < n) :
    Calls Tryz.prog 22 #[.string s] w fun e w' => ∃ x, e = .returned (.tuple #[.float .f64 x, .int .i64 (evE n l : Nat)]) ∧ x < 2 ^ 64 ∧ nb x = evV n l ∧ Below w.heap.size w w' := by
  have := eval_any n l w hn
  rwa [show (⟨l.toArray⟩ : ByteArray) = s from ba_eq hs.symm] at this

theorem run_cats (a b : ByteArray) (w : World) (h : a.size + b.size ≤ 9223372036854775807) : (binOp .add 9 (.string a) (.string b)).run Tryz.prog w = .ok (.string (a ++ b)) w := run_string_add_sum w a b h

theorem awake4 (w : World) : Calls Tryz.prog 21 #[] w fun e w' => e = .returned (.bool true) ∧ Below w.heap.size w w' := by
  have he := eval_any 100 [49, 32, 43, 32, 50, 32, 42, 32, 51] w (by decide)
  have e1 : evE 100 [49, 32, 43, 32, 50, 32, 42, 32, 51] = 0 := by decide +kernel
  have e2 : evV 100 [49, 32, 43, 32, 50, 32, 42, 32, 51] = 4619567317775286272 := by decide +kernel
  have e3 : ¬ Nan 4619567317775286272 := by decide +kernel
  have e4 : (FloatKind.f64.format.order 4619567317775286272 4619567317775286272 == some .eq) = true := by decide +kernel
  rw [e1, e2] at he
  go_enter Tryz.func21, Tryz.ntmps21
  go_wp2_with fail
  refine he.mono ?_
  clear he
  rintro e w1 ⟨x, rfl, hx, hn, hb⟩
  obtain rfl := nb_is hn e3
  have HB : Hid (Below w.heap.size w w1) := hb
  clear hx hn hb e1 e2 e3
  go_wp2
  go_ret
  exact ⟨by first | rfl | (rw [e4]), HB.out⟩

end Go.Proofs.YtalifohnieclhaaGreatDoor.Oct
