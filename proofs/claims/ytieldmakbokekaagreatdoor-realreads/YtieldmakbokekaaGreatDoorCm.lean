/-
  Compare and Bits, the program's and the document's.
-/
import Derived.Test.YtieldmakbokekaaGreatDoorR
import Derived.Test.YtieldmakbokekaaGreatDoorFl
import Derived.Laws.Externs
import Derived.Laws.Bits64b
namespace Go.Proofs.YtieldmakbokekaaGreatDoor.Oct
open Go.RowKit
open Go.Proofs.YtieldmakbokekaaGreatDoor.Fl

/-- The bits, the same ones of each NaN. -/
def nb (a : Nat) : Nat := if Nan a then 0x7ff8000000000001 else a
/-- The place in the order. -/
def rk (a : Nat) : Nat := if 2 ^ 63 ≤ nb a then 2 ^ 64 - 1 - nb a else nb a + 2 ^ 63
/-- The document's. -/
def kk (a : Nat) : Nat := if Nan a then 2 ^ 64 - 1 else rk a
def c3 (x y : Nat) : Int := if x < y then -1 else if y < x then 1 else 0

theorem nb_lt {a : Nat} (h : a < 2 ^ 64) : nb a < 2 ^ 64 := by unfold nb; split <;> omega
theorem rk_lt {a : Nat} (h : a < 2 ^ 64) : rk a < 2 ^ 64 := by have := nb_lt h; unfold rk; split <;> omega
theorem nb_num {a : Nat} (h : ¬ Nan a) : nb a = a := by unfold nb; rw [if_neg h]
theorem nb_nan {a : Nat} (h : Nan a) : nb a = 0x7ff8000000000001 := by unfold nb; rw [if_pos h]

theorem rk_num {a : Nat} (h : ¬ Nan a) (hl : a < 2 ^ 64) : rk a < 0xfff8000000000001 ∧ ((2 ^ 63 ≤ a ∧ rk a = 2 ^ 64 - 1 - a) ∨ (a < 2 ^ 63 ∧ rk a = a + 2 ^ 63)) := by
  unfold rk; rw [nb_num h]; rw [nan_iff] at h
  split <;> omega
theorem rk_nan {a : Nat} (h : Nan a) : rk a = 0xfff8000000000001 := by
  unfold rk; rw [nb_nan h]; decide

theorem rk_inj {a b : Nat} (ha : a < 2 ^ 64) (hb : b < 2 ^ 64) : rk a = rk b ↔ nb a = nb b := by
  constructor
  · intro h
    by_cases na : Nan a
    · by_cases hn : Nan b
      · rw [nb_nan na, nb_nan hn]
      · have := rk_num hn hb; rw [rk_nan na] at h; omega
    · by_cases hn : Nan b
      · have := rk_num na ha; rw [rk_nan hn] at h; omega
      · rw [nb_num na, nb_num hn]
        have := rk_num na ha; have := rk_num hn hb; omega
  · intro h; unfold rk; rw [h]

theorem c3_kk {a b : Nat} (ha : a < 2 ^ 64) (hb : b < 2 ^ 64) : c3 (kk a) (kk b) = c3 (rk a) (rk b) := by
  unfold c3 kk
  by_cases na : Nan a
  · by_cases hn : Nan b
    · rw [if_pos na, if_pos hn, rk_nan na, rk_nan hn]; decide
    · have := rk_num hn hb; have e := rk_nan na
      rw [if_pos na, if_neg hn, if_neg (by omega), if_pos (by omega), if_neg (by omega), if_pos (by omega)]
  · by_cases hn : Nan b
    · have := rk_num na ha; have e := rk_nan hn
      rw [if_neg na, if_pos hn, if_pos (by omega), if_pos (by omega)]
    · rw [if_neg na, if_neg hn]

theorem and_top (n : Nat) (h : n < 2 ^ 64) : (bits .and .u64 (n : Int) 9223372036854775808 != 0) = decide (2 ^ 63 ≤ n) := by
  have e : bits .and .u64 (n : Int) 9223372036854775808 = ((n &&& 2 ^ 63 : Nat) : Int) := bits_and_u64_nat n 9223372036854775808 (by omega) (by omega)
  have e2 : n &&& 2 ^ 63 = if n.testBit 63 = true then 2 ^ 63 else 0 := by
    apply Nat.eq_of_testBit_eq
    intro i
    rw [Nat.testBit_and, Nat.testBit_two_pow]
    by_cases hi : 63 = i
    · subst hi
      cases ht : n.testBit 63
      · rw [if_neg (by decide), Nat.zero_testBit]; rfl
      · rw [if_pos rfl, Nat.testBit_two_pow]; rfl
    · rw [decide_eq_false hi, Bool.and_false]
      split
      · rw [Nat.testBit_two_pow, decide_eq_false hi]
      · rw [Nat.zero_testBit]
  rw [e, e2]
  by_cases hn : 2 ^ 63 ≤ n
  · have : n.testBit 63 = true := by
      rw [Nat.testBit_eq_decide_div_mod_eq]; simp; omega
    rw [this, decide_eq_true hn]; decide
  · have : n.testBit 63 = false := by
      rw [Nat.testBit_eq_decide_div_mod_eq]; simp; omega
    rw [this, decide_eq_false hn]; decide

theorem xor_max (n : Nat) (h : n < 2 ^ 64) : bits .xor .u64 IntKind.u64.max (n : Int) = 18446744073709551615 - (n : Int) := by
  have e : bits .xor .u64 IntKind.u64.max (n : Int) = ((18446744073709551615 ^^^ n : Nat) : Int) := bits_xor_u64_nat 18446744073709551615 n (by omega) (by omega)
  have e2 : 18446744073709551615 ^^^ n = 2 ^ 64 - (n + 1) := by
    apply Nat.eq_of_testBit_eq
    intro i
    rw [Nat.testBit_xor, Nat.testBit_two_pow_sub_succ (by omega), show (18446744073709551615 : Nat) = 2 ^ 64 - 1 from rfl, Nat.testBit_two_pow_sub_one]
    by_cases hi : i < 64
    · rw [decide_eq_true hi]; simp
    · rw [decide_eq_false hi, Nat.testBit_lt_two_pow (Nat.lt_of_lt_of_le h (Nat.pow_le_pow_right (by omega) (by omega)))]; rfl
  rw [e, e2]; omega

theorem or_top (n : Nat) (h : n < 2 ^ 63) : bits .or .u64 (n : Int) 9223372036854775808 = ((n + 2 ^ 63 : Nat) : Int) := by
  have e : bits .or .u64 (n : Int) 9223372036854775808 = ((n ||| 9223372036854775808 : Nat) : Int) := bits_or_u64_nat n 9223372036854775808 (by omega) (by omega)
  rw [e, Nat.or_comm]
  have := Nat.two_pow_add_eq_or_of_lt (i := 63) (b := n) (by omega) 1
  rw [Nat.mul_one] at this
  rw [show (9223372036854775808 : Nat) = 2 ^ 63 from rfl, ← this, Nat.add_comm]

/-- Float64bits. -/
theorem run_f64bits (b : Nat) (w : World) : (callFunc 28 #[.float .f64 b]).run Tryz.prog w = .ok (.value (.int .u64 b)) w :=
  run_callFunc_extern Tryz.func28 (by kernel_rfl) (by kernel_rfl) (by kernel_rfl) (e := Extern.MathFloatBits.float64bits) (by kernel_rfl) _ w

theorem isnan_any (a : Nat) (w : World) : Calls Tryz.prog 13 #[.float .f64 a] w fun e w' => e = .returned (.bool (decide (Nan a))) ∧ w = w' := by
  go_enter Tryz.func13, Tryz.ntmps13
  go_wp2
  go_ret
  refine ⟨congrArg (fun x => Ending.returned (.bool x)) ?_, rfl⟩
  rw [show FloatKind.f64.format = Ieee.double from rfl, ne_iff]
  simp

theorem bits_any (a : Nat) (w : World) : Calls Tryz.prog 9 #[.float .f64 a] w fun e w' => e = .returned (.int .u64 (nb a : Nat)) ∧ w = w' := by
  have hf := run_f64bits a w
  by_cases hn : Nan a
  · rw [nb_nan hn]
    go_enter Tryz.func9, Tryz.ntmps9
    go_wp2_with (go_at_call 13; refine (isnan_any _ _).mono ?_; rw [decide_eq_true hn]; rintro e w' ⟨rfl, rfl⟩)
    go_ret
    exact ⟨rfl, rfl⟩
  · rw [nb_num hn]
    go_enter Tryz.func9, Tryz.ntmps9
    go_wp2_with (go_at_call 13; refine (isnan_any _ _).mono ?_; rw [decide_eq_false hn]; rintro e w' ⟨rfl, rfl⟩)
    go_ret
    exact ⟨rfl, rfl⟩

theorem rank_any (a : Nat) (w : World) (h : a < 2 ^ 64) : Calls Tryz.prog 33 #[.float .f64 a] w fun e w' => e = .returned (.int .u64 (rk a : Nat)) ∧ w = w' := by
  have hl := nb_lt h
  have ht := and_top (nb a) hl
  by_cases hs : 2 ^ 63 ≤ nb a
  · rw [decide_eq_true hs] at ht
    have HV : Hid ((rk a : Int) = 18446744073709551615 - nb a) := by unfold Hid rk; rw [if_pos hs]; omega
    go_enter Tryz.func33, Tryz.ntmps33
    go_wp2_with (go_at_call 9; refine (bits_any _ _).mono ?_; rintro e w' ⟨rfl, rfl⟩)
    go_ret
    exact ⟨congrArg (fun x : Int => Ending.returned (.int .u64 x)) (by rw [HV.out]; exact xor_max _ hl), rfl⟩
  · rw [decide_eq_false hs] at ht
    have HV : Hid ((rk a : Int) = bits .or .u64 (nb a : Int) 9223372036854775808) := by
      unfold Hid; rw [or_top _ (by omega)]; unfold rk; rw [if_neg hs]
    go_enter Tryz.func33, Tryz.ntmps33
    go_wp2_with (go_at_call 9; refine (bits_any _ _).mono ?_; rintro e w' ⟨rfl, rfl⟩)
    go_ret
    exact ⟨congrArg (fun x : Int => Ending.returned (.int .u64 x)) HV.out.symm, rfl⟩

theorem cmpnan_any (x : Int) (w : World) : Calls Tryz.prog 51 #[.int .u64 x] w fun e w' => e = .returned (.bool false) ∧ w = w' := by
  go_enter Tryz.func51, Tryz.ntmps51
  go_wp2
  go_ret
  exact ⟨by simp, rfl⟩

theorem cmp_any (x y : Nat) (w : World) : Calls Tryz.prog 32 #[.int .u64 x, .int .u64 y] w fun e w' => e = .returned (.int .i64 (c3 x y)) ∧ w = w' := by
  rcases Nat.lt_trichotomy x y with h | h | h
  · have e : c3 x y = -1 := by unfold c3; rw [if_pos h]
    rw [e]; clear e
    go_enter Tryz.func32, Tryz.ntmps32
    go_wp2_with (go_at_call 51; refine (cmpnan_any _ _).mono ?_; rintro e w' ⟨rfl, rfl⟩)
    go_ret
    exact ⟨rfl, rfl⟩
  · have e : c3 x y = 0 := by unfold c3; rw [if_neg (by omega), if_neg (by omega)]
    rw [e]; clear e
    go_enter Tryz.func32, Tryz.ntmps32
    go_wp2_with (go_at_call 51; refine (cmpnan_any _ _).mono ?_; rintro e w' ⟨rfl, rfl⟩)
    go_ret
    exact ⟨rfl, rfl⟩
  · have e : c3 x y = 1 := by unfold c3; rw [if_neg (by omega), if_pos h]
    rw [e]; clear e
    go_enter Tryz.func32, Tryz.ntmps32
    go_wp2_with (go_at_call 51; refine (cmpnan_any _ _).mono ?_; rintro e w' ⟨rfl, rfl⟩)
    go_ret
    exact ⟨rfl, rfl⟩

theorem compare_any (a b : Nat) (w : World) (ha : a < 2 ^ 64) (hb : b < 2 ^ 64) :
    Calls Tryz.prog 12 #[.float .f64 a, .float .f64 b] w fun e w' => e = .returned (.int .i64 (c3 (rk a) (rk b))) ∧ w = w' := by
  go_enter Tryz.func12, Tryz.ntmps12
  go_wp2_with fail
  refine (rank_any _ _ ha).mono ?_
  rintro e w' ⟨rfl, rfl⟩
  go_wp2_with fail
  refine (rank_any _ _ hb).mono ?_
  rintro e w' ⟨rfl, rfl⟩
  go_wp2_with (go_at_call 32; refine (cmp_any _ _ _).mono ?_; rintro e w' ⟨rfl, rfl⟩)
  go_ret
  exact ⟨rfl, rfl⟩

end Go.Proofs.YtieldmakbokekaaGreatDoor.Oct

/-
  Abs, IsInf, the sign; Show at the edges.
-/
namespace Go.Proofs.YtieldmakbokekaaGreatDoor.Oct
open Go.RowKit
open Go.Proofs.YtieldmakbokekaaGreatDoor.Fl

theorem ne_self (a : Nat) : (FloatKind.f64.format.order a a != some .eq) = decide (Nan a) := by
  rw [show FloatKind.f64.format = Ieee.double from rfl, ne_iff]
  simp

theorem c3_lt {x y : Nat} (h : x < y) : c3 x y = -1 := by unfold c3; rw [if_pos h]
theorem c3_gt {x y : Nat} (h : y < x) : c3 x y = 1 := by unfold c3; rw [if_neg (by omega), if_pos h]
theorem c3_eq {x y : Nat} (h : x = y) : c3 x y = 0 := by unfold c3; rw [if_neg (by omega), if_neg (by omega)]

/-- Float64frombits. -/
theorem run_f64from (n : Int) (w : World) : (callFunc 37 #[.int .u64 n]).run Tryz.prog w = .ok (.value (.float .f64 n.toNat)) w :=
  run_callFunc_extern Tryz.func37 (by kernel_rfl) (by kernel_rfl) (by kernel_rfl) (e := Extern.MathFloatBits.float64frombits) (by kernel_rfl) _ w

theorem andNot_top (n : Nat) (h : n < 2 ^ 64) : bits .andNot .u64 (n : Int) 9223372036854775808 = ((n % 2 ^ 63 : Nat) : Int) := by
  have h1 : (BitVec.ofInt 64 (n : Int)).toNat = n := by
    rw [BitVec.ofInt_natCast, BitVec.toNat_ofNat]; exact Nat.mod_eq_of_lt (by omega)
  have h2 : (~~~ (BitVec.ofInt 64 9223372036854775808)).toNat = 2 ^ 63 - 1 := by decide
  show IntKind.u64.wrap ((BitVec.ofInt 64 (n : Int) &&& ~~~ (BitVec.ofInt 64 9223372036854775808)).toNat : Int) = _
  rw [BitVec.toNat_and, h1, h2, Nat.and_two_pow_sub_one_eq_mod, IntKind.wrap_u64]
  omega

theorem abs_any (a : Nat) (w : World) (h : a < 2 ^ 64) : Calls Tryz.prog 18 #[.float .f64 a] w fun e w' => e = .returned (.float .f64 (a % 2 ^ 63)) ∧ w = w' := by
  have hf := run_f64bits a w
  have hg := fun n => run_f64from n w
  go_enter Tryz.func18, Tryz.ntmps18
  go_wp2
  go_ret
  exact ⟨congrArg (fun x => Ending.returned (.float .f64 x)) (by rw [andNot_top _ h]; rfl), rfl⟩

theorem sr_pos {b : Nat} (h : b < 2 ^ 63) : sr b = (b : Int) := by
  unfold sr
  rw [show b / 2 ^ 63 % 2 = 0 by omega, if_neg (by omega)]; omega

theorem isinf_any (a : Nat) (w : World) (h : a < 2 ^ 64) : Calls Tryz.prog 14 #[.float .f64 a, .int .i64 0] w fun e w' => e = .returned (.bool (decide (a % 2 ^ 63 = 0x7ff0000000000000))) ∧ w = w' := by
  have hv : (FloatKind.f64.format.order (a % 2 ^ 63) 9218868437227405311 == some .gt) = decide (a % 2 ^ 63 = 0x7ff0000000000000) := by
    rw [show FloatKind.f64.format = Ieee.double from rfl, gt_iff, sr_pos (b := a % 2 ^ 63) (by omega), sr_pos (b := 9218868437227405311) (by omega)]
    refine decide_eq_decide.2 ?_
    rw [nan_iff, nan_iff]
    omega
  go_enter Tryz.func14, Tryz.ntmps14
  go_wp2_with (go_at_call 18; refine (abs_any _ _ h).mono ?_; rintro e w' ⟨rfl, rfl⟩)
  go_ret
  exact ⟨congrArg (fun x => Ending.returned (.bool x)) (by first | exact hv | rfl), rfl⟩

theorem signbit_any (a : Nat) (w : World) (h : a < 2 ^ 64) : Calls Tryz.prog 34 #[.float .f64 a] w fun e w' => e = .returned (.bool (decide (2 ^ 63 ≤ a))) ∧ w = w' := by
  have hf := run_f64bits a w
  go_enter Tryz.func34, Tryz.ntmps34
  go_wp2
  go_ret
  refine ⟨congrArg (fun x => Ending.returned (.bool x)) ?_, rfl⟩
  refine decide_eq_decide.2 ?_
  unfold wrap64
  omega

/-- The sign ahead. -/
def sgn (a : Nat) : ByteArray := if 2 ^ 63 ≤ a then ⟨#[45]⟩ else ⟨#[]⟩

theorem sign_any (a : Nat) (w : World) (h : a < 2 ^ 64) : Calls Tryz.prog 15 #[.float .f64 a] w fun e w' => e = .returned (.string (sgn a)) ∧ w = w' := by
  by_cases hs : 2 ^ 63 ≤ a
  · have e : sgn a = ⟨#[45]⟩ := by unfold sgn; rw [if_pos hs]
    rw [e]; clear e
    go_enter Tryz.func15, Tryz.ntmps15
    go_wp2_with (go_at_call 34; refine (signbit_any _ _ h).mono ?_; rw [decide_eq_true hs]; rintro e w' ⟨rfl, rfl⟩)
    go_ret
    exact ⟨rfl, rfl⟩
  · have e : sgn a = ⟨#[]⟩ := by unfold sgn; rw [if_neg hs]
    rw [e]; clear e
    go_enter Tryz.func15, Tryz.ntmps15
    go_wp2_with (go_at_call 34; refine (signbit_any _ _ h).mono ?_; rw [decide_eq_false hs]; rintro e w' ⟨rfl, rfl⟩)
    go_ret
    exact ⟨rfl, rfl⟩

theorem show_nan (a : Nat) (w : World) (h : Nan a) : Calls Tryz.prog 6 #[.float .f64 a] w fun e w' => e = .returned (.string ⟨#[110, 97, 110]⟩) ∧ w = w' := by
  go_enter Tryz.func6, Tryz.ntmps6
  go_wp2_with (go_at_call 13; refine (isnan_any _ _).mono ?_; rw [decide_eq_true h]; rintro e w' ⟨rfl, rfl⟩)
  go_ret
  exact ⟨rfl, rfl⟩

theorem sgn_size (a : Nat) : (sgn a).size ≤ 1 := by unfold sgn; split <;> decide

theorem show_inf (a : Nat) (w : World) (hl : a < 2 ^ 64) (h : a % 2 ^ 63 = 0x7ff0000000000000) : Calls Tryz.prog 6 #[.float .f64 a] w fun e w' => e = .returned (.string (sgn a ++ ⟨#[105, 110, 102]⟩)) ∧ w = w' := by
  have hz := sgn_size a
  have hn : ¬ Nan a := by rw [nan_iff]; omega
  go_enter Tryz.func6, Tryz.ntmps6
  go_wp2_with (go_at_call 13; refine (isnan_any _ _).mono ?_; rw [decide_eq_false hn]; rintro e w' ⟨rfl, rfl⟩)
  refine (isinf_any _ _ hl).mono ?_
  rw [decide_eq_true h]
  rintro e w' ⟨rfl, rfl⟩
  go_wp2_with (go_at_call 15; refine (sign_any _ _ hl).mono ?_; rintro e w' ⟨rfl, rfl⟩)
  go_ret
  exact ⟨rfl, rfl⟩

theorem nan_cut (x y n : Nat) : Nan (Question.cut (.nanBits .f64 x y) n) ∧ Question.cut (.nanBits .f64 x y) n < 2 ^ 64 := by
  rw [nan_iff]
  unfold Question.cut
  dsimp only
  have h1 : n % 2 < 2 := by omega
  have h2 : n / 2 % (2 ^ 52 - 1) < 2 ^ 52 - 1 := Nat.mod_lt _ (by omega)
  generalize n % 2 = s at *
  generalize n / 2 % (2 ^ 52 - 1) = q at *
  rcases (show s = 0 ∨ s = 1 by omega) with rfl | rfl <;> omega

/-- What is no number: any NaN. -/
theorem run_nan (op : BinOp) (t : TypeId) (x y : Nat) (w : World) (ho : op = .add ∨ op = .sub ∨ op = .mul ∨ op = .quo) (h : floatBits op .f64 x y = none) :
    ∃ r, Nan r ∧ r < 2 ^ 64 ∧ (binOp op t (.float .f64 x) (.float .f64 y)).run Tryz.prog w = .ok (.float .f64 r) w.drew := by
  refine ⟨Question.cut (.nanBits .f64 x y) (w.tape w.drawn (.nanBits .f64 x y)), (nan_cut ..).1, (nan_cut ..).2, ?_⟩
  unfold floatBits at h
  rcases ho with rfl | rfl | rfl | rfl <;> simp only at h <;> simp [binOp, Op.floatArith, h, Question.forced]

end Go.Proofs.YtieldmakbokekaaGreatDoor.Oct

/-
  Edges are told apart.
-/
namespace Go.Proofs.YtieldmakbokekaaGreatDoor.Oct
open Go.RowKit
open Go.Proofs.YtieldmakbokekaaGreatDoor.Fl

theorem f64_wf {b : Nat} (h : (Lit.float .f64 b).wf = true) : b < 2 ^ 64 := by
  simp [Lit.wf] at h; omega

theorem one_by_zero (w : World) : (binOp .quo 22 (.float .f64 4607182418800017408) (.float .f64 0)).run Tryz.prog w = .ok (.float .f64 9218868437227405312) w :=
  run_float_arith w .quo 22 .f64 4607182418800017408 0 9218868437227405312 (by decide +kernel)
theorem minus_by_zero (w : World) : (binOp .quo 22 (.float .f64 13830554455654793216) (.float .f64 0)).run Tryz.prog w = .ok (.float .f64 18442240474082181120) w :=
  run_float_arith w .quo 22 .f64 13830554455654793216 0 18442240474082181120 (by decide +kernel)
theorem zero_by_zero (w : World) : ∃ r, Nan r ∧ r < 2 ^ 64 ∧ (binOp .quo 22 (.float .f64 0) (.float .f64 0)).run Tryz.prog w = .ok (.float .f64 r) w.drew :=
  run_nan .quo 22 0 0 w (by simp) (by decide +kernel)

end Go.Proofs.YtieldmakbokekaaGreatDoor.Oct
