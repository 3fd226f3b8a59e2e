/-
  Abs, IsInf, the sign; Show at the edges.
-/
import Derived.Test.YtieldmakbokekaaGreatDoorCm
namespace Go.Proofs.YtieldmakbokekaaGreatDoor.Oct
open Go.RowKit
open Go.Proofs.YtieldmakbokekaaGreatDoor.Fl

theorem ne_self (a : Nat) : (FloatKind.f64.format.order a a != some .eq) = decide (Nan a) := by
  rw [show FloatKind.f64.format = Ieee.double from rfl, ne_iff]
  simp

theorem c3_lt {x y : Nat} (h : x < y) : c3 x y = -1 := by unfold c3; rw [if_pos h]
theorem c3_gt {x y : Nat} (h : y < x) : c3 x y = 1 := by unfold c3; rw [if_neg (by omega), if_pos h]
theorem c3_eq {x y : Nat} (h : x = y) : c3 x y = 0 := by unfold c3; rw [if_neg (by omega), if_neg (by omega)]

/-- Float64frombits. -/
theorem run_f64from (n : Int) (w : World) : (callFunc 37 #[.int .u64 n]).run Tryz.prog w = .ok (.value (.float .f64 n.toNat)) w :=
  run_callFunc_extern Tryz.func37 (by kernel_rfl) (by kernel_rfl) (by kernel_rfl) (e := Extern.MathFloatBits.float64frombits) (by kernel_rfl) _ w

theorem andNot_top (n : Nat) (h : n < 2 ^ 64) : bits .andNot .u64 (n : Int) 9223372036854775808 = ((n % 2 ^ 63 : Nat) : Int) := by
  have h1 : (BitVec.ofInt 64 (n : Int)).toNat = n := by
    rw [BitVec.ofInt_natCast, BitVec.toNat_ofNat]; exact Nat.mod_eq_of_lt (by omega)
  have h2 : (~~~ (BitVec.ofInt 64 9223372036854775808)).toNat = 2 ^ 63 - 1 := by decide
  show IntKind.u64.wrap ((BitVec.ofInt 64 (n : Int) &&& ~~~ (BitVec.ofInt 64 9223372036854775808)).toNat : Int) = _
  rw [BitVec.toNat_and, h1, h2, Nat.and_two_pow_sub_one_eq_mod, IntKind.wrap_u64]
  omega

theorem abs_any (a : Nat) (w : World) (h : a < 2 ^ 64) : Calls Tryz.prog 18 #[.float .f64 a] w fun e w' => e = .returned (.float .f64 (a % 2 ^ 63)) ∧ w = w' := by
  have hf := run_f64bits a w
  have hg := fun n => run_f64from n w
  go_enter Tryz.func18, Tryz.ntmps18
  go_wp2
  go_ret
  exact ⟨congrArg (fun x => Ending.returned (.float .f64 x)) (by rw [andNot_top _ h]; rfl), rfl⟩

theorem sr_pos {b : Nat} (h : b < 2 ^ 63) : sr b = (b : Int) := by
  unfold sr
  rw [show b / 2 ^ 63 % 2 = 0 by omega, if_neg (by omega)]; omega

theorem isinf_any (a : Nat) (w : World) (h : a < 2 ^ 64) : Calls Tryz.prog 14 #[.float .f64 a, .int .i64 0] w fun e w' => e = .returned (.bool (decide (a % 2 ^ 63 = 0x7ff0000000000000))) ∧ w = w' := by
  have hv : (FloatKind.f64.format.order (a % 2 ^ 63) 9218868437227405311 == some .gt) = decide (a % 2 ^ 63 = 0x7ff0000000000000) := by
    rw [show FloatKind.f64.format = Ieee.double from rfl, gt_iff, sr_pos (b := a % 2 ^ 63) (by omega), sr_pos (b := 9218868437227405311) (by omega)]
    refine decide_eq_decide.2 ?_
    rw [nan_iff, nan_iff]
    omega
  go_enter Tryz.func14, Tryz.ntmps14
  go_wp2_with (go_at_call 18; refine (abs_any _ _ h).mono ?_; rintro e w' ⟨rfl, rfl⟩)
  go_ret
  exact ⟨congrArg (fun x => Ending.returned (.bool x)) (by first | exact hv | rfl), rfl⟩

theorem signbit_any (a : Nat) (w : World) (h : a < 2 ^ 64) : Calls Tryz.prog 34 #[.float .f64 a] w fun e w' => e = .returned (.bool (decide (2 ^ 63 ≤ a))) ∧ w = w' := by
  have hf := run_f64bits a w
  go_enter Tryz.func34, Tryz.ntmps34
  go_wp2
  go_ret
  refine ⟨congrArg (fun x => Ending.returned (.bool x)) ?_, rfl⟩
  refine decide_eq_decide.2 ?_
  unfold wrap64
  omega

/-- The sign ahead. -/
def sgn (a : Nat) : ByteArray := if 2 ^ 63 ≤ a then ⟨#[45]⟩ else ⟨#[]⟩

theorem sign_any (a : Nat) (w : World) (h : a < 2 ^ 64) : Calls Tryz.prog 15 #[.float .f64 a] w fun e w' => e = .returned (.string (sgn a)) ∧ w = w' := by
  by_cases hs : 2 ^ 63 ≤ a
  · have e : sgn a = ⟨#[45]⟩ := by unfold sgn; rw [if_pos hs]
    rw [e]; clear e
    go_enter Tryz.func15, Tryz.ntmps15
    go_wp2_with (go_at_call 34; refine (signbit_any _ _ h).mono ?_; rw [decide_eq_true hs]; rintro e w' ⟨rfl, rfl⟩)
    go_ret
    exact ⟨rfl, rfl⟩
  · have e : sgn a = ⟨#[]⟩ := by unfold sgn; rw [if_neg hs]
    rw [e]; clear e
    go_enter Tryz.func15, Tryz.ntmps15
    go_wp2_with (go_at_call 34; refine (signbit_any _ _ h).mono ?_; rw [decide_eq_false hs]; rintro e w' ⟨rfl, rfl⟩)
    go_ret
    exact ⟨rfl, rfl⟩

theorem show_nan (a : Nat) (w : World) (h : Nan a) : Calls Tryz.prog 6 #[.float .f64 a] w fun e w' => e = .returned (.string ⟨#[110, 97, 110]⟩) ∧ w = w' := by
  go_enter Tryz.func6, Tryz.ntmps6
  go_wp2_with (go_at_call 13; refine (isnan_any _ _).mono ?_; rw [decide_eq_true h]; rintro e w' ⟨rfl, rfl⟩)
  go_ret
  exact ⟨rfl, rfl⟩

theorem sgn_size (a : Nat) : (sgn a).size ≤ 1 := by unfold sgn; split <;> decide

theorem show_inf (a : Nat) (w : World) (hl : a < 2 ^ 64) (h : a % 2 ^ 63 = 0x7ff0000000000000) : Calls Tryz.prog 6 #[.float .f64 a] w fun e w' => e = .returned (.string (sgn a ++ ⟨#[105, 110, 102]⟩)) ∧ w = w' := by
  have hz := sgn_size a
  have hn : ¬ Nan a := by rw [nan_iff]; omega
  go_enter Tryz.func6, Tryz.ntmps6
  go_wp2_with (go_at_call 13; refine (isnan_any _ _).mono ?_; rw [decide_eq_false hn]; rintro e w' ⟨rfl, rfl⟩)
  refine (isinf_any _ _ hl).mono ?_
  rw [decide_eq_true h]
  rintro e w' ⟨rfl, rfl⟩
  go_wp2_with (go_at_call 15; refine (sign_any _ _ hl).mono ?_; rintro e w' ⟨rfl, rfl⟩)
  go_ret
  exact ⟨rfl, rfl⟩

theorem nan_cut (x y n : Nat) : Nan (Question.cut (.nanBits .f64 x y) n) ∧ Question.cut (.nanBits .f64 x y) n < 2 ^ 64 := by
  rw [nan_iff]
  unfold Question.cut
  dsimp only
  have h1 : n % 2 < 2 := by omega
  have h2 : n / 2 % (2 ^ 52 - 1) < 2 ^ 52 - 1 := Nat.mod_lt _ (by omega)
  generalize n % 2 = s at *
  generalize n / 2 % (2 ^ 52 - 1) = q at *
  rcases (show s = 0 ∨ s = 1 by omega) with rfl | rfl <;> omega

/-- What is no number: any NaN. -/
theorem run_nan (op : BinOp) (t : TypeId) (x y : Nat) (w : World) (ho : op = .add ∨ op = .sub ∨ op = .mul ∨ op = .quo) (h : floatBits op .f64 x y = none) :
    ∃ r, Nan r ∧ r < 2 ^ 64 ∧ (binOp op t (.float .f64 x) (.float .f64 y)).run Tryz.prog w = .ok (.float .f64 r) w.drew := by
  refine ⟨Question.cut (.nanBits .f64 x y) (w.tape w.drawn (.nanBits .f64 x y)), (nan_cut ..).1, (nan_cut ..).2, ?_⟩
  unfold floatBits at h
  rcases ho with rfl | rfl | rfl | rfl <;> simp only at h <;> simp [binOp, Op.floatArith, h, Question.forced]

end Go.Proofs.YtieldmakbokekaaGreatDoor.Oct
