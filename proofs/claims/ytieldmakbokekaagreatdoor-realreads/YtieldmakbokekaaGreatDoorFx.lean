/-
  Frexp, of sizes that are neither 0 nor inf.
-/
import Derived.Test.YtieldmakbokekaaGreatDoorAh
import Derived.Test.YtieldmakbokekaaGreatDoorFl
import Derived.Test.YtieldmakbokekaaGreatDoorCm
namespace Go.Proofs.YtieldmakbokekaaGreatDoor.Oct
open Go.RowKit
open Go.Proofs.YtieldmakbokekaaGreatDoor.Fl

/-- A number below the normal ones, times 2^52. -/
def fx (a : Nat) : Nat := rd (V a * V 4841369599423283200) 1074

theorem V_lo {a : Nat} (h : a < 4503599627370496) : V a = a := by unfold V; rw [if_pos h]

theorem V_52 : V 4841369599423283200 = 4503599627370496 * pw 1074 := V_at _ 1074 0 (by decide) (by decide)

theorem fx_V {a : Nat} (h : a < 4503599627370496) : V (fx a) = a * 2 ^ 52 := by
  obtain ⟨r, hr⟩ := rep 52 a (by omega)
  have hle : r ≤ 0x7ff0000000000000 := by
    refine Nat.le_of_not_lt fun hgt => ?_
    have h1 := V_lt hgt
    rw [V_inf, hr] at h1
    have h2 : pw 104 ≤ pw 2098 := pw_le (by omega)
    rw [pw_eq 104] at h2
    omega
  have : fx a = r := by
    unfold fx
    rw [V_lo h, V_52, ← Nat.mul_assoc, show a * 4503599627370496 = V r by rw [hr], rd_V _ hle]
  rw [this, hr]

theorem fx_ge {a : Nat} (h0 : 0 < a) (h : a < 4503599627370496) : 4503599627370496 ≤ fx a := by
  refine Nat.le_of_not_lt fun hgt => ?_
  have h1 := V_lt hgt
  rw [fx_V h, V_at 4503599627370496 0 0 (by decide) (by decide)] at h1
  have h2 : pw 0 = 1 := by rw [pw_eq]
  rw [h2] at h1
  omega

theorem fx_lt {a : Nat} (h : a < 4503599627370496) : fx a < 238690780250636288 := by
  refine Nat.lt_of_not_le fun hle => ?_
  have h1 := V_le hle
  rw [fx_V h, V_at 238690780250636288 52 0 (by decide) (by decide), pw_eq] at h1
  omega

theorem andNot_mid (b : Nat) (h : b < 9223372036854775808) : bits .andNot .u64 (b : Int) 9218868437227405312 = ((b % 4503599627370496 : Nat) : Int) := by
  have h1 : (BitVec.ofInt 64 (b : Int)).toNat = b := by
    rw [BitVec.ofInt_natCast, BitVec.toNat_ofNat]; exact Nat.mod_eq_of_lt (by omega)
  have h2 : (~~~ BitVec.ofInt 64 9218868437227405312).toNat = 2 ^ 63 ||| (2 ^ 52 - 1) := by decide
  show IntKind.u64.wrap ((BitVec.ofInt 64 (b : Int) &&& ~~~ BitVec.ofInt 64 9218868437227405312).toNat : Int) = _
  have h3 : b &&& 2 ^ 63 = 0 := by
    apply Nat.eq_of_testBit_eq
    intro i
    rw [Nat.testBit_and, Nat.zero_testBit, Nat.testBit_two_pow]
    by_cases hi : 63 = i
    · subst hi; rw [Nat.testBit_lt_two_pow (by omega)]; rfl
    · simp [hi]
  rw [BitVec.toNat_and, h1, h2, Nat.and_or_distrib_left, h3, Nat.zero_or, Nat.and_two_pow_sub_one_eq_mod, IntKind.wrap_u64]
  omega

theorem andxu (q : Nat) (h : q < 2048) : bits .and .u64 (q : Int) 2047 = (q : Int) := by
  have : ∀ i : Fin 2048, bits .and .u64 (i.val : Int) 2047 = (i.val : Int) := by decide +kernel
  exact this ⟨q, h⟩

theorem orh (f : Nat) (h : f < 4503599627370496) : bits .or .u64 (f : Int) 4602678819172646912 = ((4602678819172646912 + f : Nat) : Int) := by
  have := orm f 1022 h (by omega)
  simpa using this

theorem ord_lo (a : Nat) (h : a < 0x7ff0000000000000) : (FloatKind.f64.format.order a 4503599627370496 == some .lt) = decide (a < 4503599627370496) := by
  rw [show FloatKind.f64.format = Ieee.double from rfl, lt_iff, sr_pos (b := a) (by omega), sr_pos (b := 4503599627370496) (by omega)]
  refine decide_eq_decide.2 ?_
  rw [nan_iff, nan_iff]
  omega

theorem normal_hi (a : Nat) (w : World) (h0 : 4503599627370496 ≤ a) (h1 : a < 0x7ff0000000000000) :
    Calls Tryz.prog 74 #[.float .f64 a] w fun e w' => e = .returned (.tuple #[.float .f64 a, .int .i64 0]) ∧ w = w' := by
  have ho := ord_lo a h1
  rw [decide_eq_false (by omega)] at ho
  go_enter Tryz.func74, Tryz.ntmps74
  go_wp2_with fail
  refine (abs_any _ _ (by omega)).mono ?_
  rw [show a % 2 ^ 63 = a by omega]
  rintro e w' ⟨rfl, rfl⟩
  go_wp2_with fail
  go_ret2
  exact ⟨rfl, rfl⟩

theorem normal_lo (a : Nat) (w : World) (h1 : a < 4503599627370496) :
    Calls Tryz.prog 74 #[.float .f64 a] w fun e w' => e = .returned (.tuple #[.float .f64 (fx a), .int .i64 (-52)]) ∧ w = w' := by
  have ho := ord_lo a (by omega)
  rw [decide_eq_true h1] at ho
  have hm : (binOp .mul 22 (.float .f64 a) (.float .f64 4841369599423283200)).run Tryz.prog w = .ok (.float .f64 (fx a)) w := by
    refine run_float_arith w .mul 22 .f64 _ _ _ ?_
    show Ieee.double.mul a 4841369599423283200 = _
    rw [mul_num (by omega) (by omega), show a / 2 ^ 63 % 2 = 0 by omega, show 4841369599423283200 / 2 ^ 63 % 2 = 0 by omega, show a % 2 ^ 63 = a by omega, show 4841369599423283200 % 2 ^ 63 = 4841369599423283200 by omega]
    unfold fx Ieee.Format.word
    rw [if_neg (by decide)]
  go_enter Tryz.func74, Tryz.ntmps74
  go_wp2_with fail
  refine (abs_any _ _ (by omega)).mono ?_
  rw [show a % 2 ^ 63 = a by omega]
  rintro e w' ⟨rfl, rfl⟩
  go_wp2_with fail
  go_ret2
  exact ⟨rfl, rfl⟩

theorem ord_zero (a : Nat) (h0 : 0 < a) (h : a < 0x7ff0000000000000) : (FloatKind.f64.format.order a 0 == some .eq) = false := by
  rw [show FloatKind.f64.format = Ieee.double from rfl, eq_iff, sr_pos (b := a) (by omega), sr_pos (b := 0) (by omega)]
  refine decide_eq_false ?_
  omega

theorem frexp_in (a b : Nat) (k : Int) (w : World) (h0 : 0 < a) (h1 : a < 0x7ff0000000000000) (hb1 : b < 0x7ff0000000000000) (hk : k = 0 ∨ k = -52)
    (hN : Calls Tryz.prog 74 #[.float .f64 a] w fun e w' => e = .returned (.tuple #[.float .f64 b, .int .i64 k]) ∧ w = w') :
    Calls Tryz.prog 59 #[.float .f64 a] w fun e w' => e = .returned (.tuple #[.float .f64 (4602678819172646912 + b % 4503599627370496), .int .i64 (k + (b / 4503599627370496 : Nat) - 1022)]) ∧ w = w' := by
  have hz := ord_zero a h0 h1
  have hn : ¬ Nan a := by rw [nan_iff]; omega
  have hi : ¬ a % 2 ^ 63 = 0x7ff0000000000000 := by omega
  have hfb := run_f64bits b w
  have hfr := fun n => run_f64from n w
  have hnm := andNot_mid b (by omega)
  have hf : b % 4503599627370496 < 4503599627370496 := Nat.mod_lt _ (by omega)
  have hor := orh (b % 4503599627370496) hf
  obtain ⟨X, hX⟩ : ∃ X, X = b / 4503599627370496 := ⟨_, rfl⟩
  have hXb : X < 2048 := by omega
  have hax := andxu X hXb
  have hdv : (b : Int) / 4503599627370496 = (X : Int) := by omega
  rw [← hX]
  clear hX
  generalize b % 4503599627370496 = f at *
  have hk0 : -52 ≤ k := by omega
  have hk1 : k ≤ 0 := by omega
  clear hk
  go_enter Tryz.func59, Tryz.ntmps59
  go_wp2_with fail
  refine (isinf_any _ _ (by omega)).mono ?_
  rw [decide_eq_false hi]
  rintro e w' ⟨rfl, rfl⟩
  go_wp2_with fail
  refine (isnan_any _ _).mono ?_
  rw [decide_eq_false hn]
  rintro e w' ⟨rfl, rfl⟩
  go_wp2_with fail
  refine hN.mono ?_
  rintro e w' ⟨rfl, rfl⟩
  go_wp2
  go_ret2
  exact ⟨congrArg (fun x : Int => Ending.returned (.tuple #[.float .f64 (4602678819172646912 + f), .int .i64 x])) (by omega), rfl⟩

/-- The number with a leading 1, and how far it was moved. -/
def fb (a : Nat) : Nat := if a < 4503599627370496 then fx a else a
def fk (a : Nat) : Int := if a < 4503599627370496 then -52 else 0

theorem fb_lt {a : Nat} (h1 : a < 0x7ff0000000000000) : fb a < 0x7ff0000000000000 := by
  unfold fb
  split
  · rename_i h; have := fx_lt h; omega
  · exact h1

theorem fb_ge {a : Nat} (h0 : 0 < a) : 4503599627370496 ≤ fb a := by
  unfold fb
  split
  · rename_i h; exact fx_ge h0 h
  · omega

theorem frexp0 (a : Nat) (w : World) (h0 : 0 < a) (h1 : a < 0x7ff0000000000000) :
    Calls Tryz.prog 59 #[.float .f64 a] w fun e w' => e = .returned (.tuple #[.float .f64 (4602678819172646912 + fb a % 4503599627370496), .int .i64 (fk a + (fb a / 4503599627370496 : Nat) - 1022)]) ∧ w = w' := by
  have hb := fb_lt h1
  refine frexp_in a (fb a) (fk a) w h0 h1 hb (by unfold fk; split <;> simp) ?_
  unfold fb fk
  by_cases h : a < 4503599627370496
  · rw [if_pos h, if_pos h]; exact normal_lo a w h
  · rw [if_neg h, if_neg h]; exact normal_hi a w (by omega) h1

theorem frexp_any (a : Nat) (w : World) (h0 : 0 < a) (h1 : a < 0x7ff0000000000000) :
    Calls Tryz.prog 38 #[.float .f64 a] w fun e w' => e = .returned (.tuple #[.float .f64 (4602678819172646912 + fb a % 4503599627370496), .int .i64 (fk a + (fb a / 4503599627370496 : Nat) - 1022)]) ∧ w = w' := by
  have HN := frexp0 a w h0 h1
  generalize 4602678819172646912 + fb a % 4503599627370496 = F at *
  generalize fk a + (fb a / 4503599627370496 : Nat) - 1022 = K at *
  go_enter Tryz.func38, Tryz.ntmps38
  go_wp2_with fail
  refine HN.mono ?_
  rintro e w' ⟨rfl, rfl⟩
  go_wp2
  go_ret2
  exact ⟨rfl, rfl⟩

end Go.Proofs.YtieldmakbokekaaGreatDoor.Oct
