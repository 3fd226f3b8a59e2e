/-
  Floats: to round is to find a rung; it goes up with the number, and a number of the format is its own.
-/
import Derived.Test.YtieldmakbokekaaGreatDoorFl
namespace Go.Proofs.YtieldmakbokekaaGreatDoor.Fl
open Ieee

/-- A great power of 2, that is not worked out. -/
def pw (n : Nat) : Nat := if _h : n = 0 then 1 else 2 * pw (n - 1)

theorem pw_eq (n : Nat) : pw n = 2 ^ n := by
  induction n with
  | zero => unfold pw; rfl
  | succ n ih => unfold pw; rw [dif_neg (by omega), Nat.add_sub_cancel, ih, Nat.pow_succ, Nat.mul_comm]
theorem pw_pos (n : Nat) : 0 < pw n := by rw [pw_eq]; exact Nat.two_pow_pos n
theorem pw_add (a b : Nat) : pw (a + b) = pw a * pw b := by rw [pw_eq, pw_eq, pw_eq, Nat.pow_add]
theorem pw_mul (a b : Nat) : 2 ^ a * pw b = pw (a + b) := by rw [pw_eq, pw_eq, Nat.pow_add]
theorem pw_le {a b : Nat} (h : a ≤ b) : pw a ≤ pw b := by rw [pw_eq, pw_eq]; exact Nat.pow_le_pow_right (by omega) h

theorem V_big {r : Nat} (h : ¬ r < 2 ^ 52) : V r = (2 ^ 52 + r % 2 ^ 52) * pw (r / 2 ^ 52 - 1) := by
  rw [pw_eq]; simp only [V, h, if_false]

theorem V_at (r q t : Nat) (h : r = (q + 1) * 2 ^ 52 + t) (ht : t < 2 ^ 52) : V r = (2 ^ 52 + t) * pw q := by
  rw [V_big (by omega), show r % 2 ^ 52 = t by omega, show r / 2 ^ 52 - 1 = q by omega]

/-- Half to even. -/
def rh (n d : Nat) : Nat := n / 2 ^ d + (decide (2 ^ d < 2 * (n % 2 ^ d)) || (2 ^ d == 2 * (n % 2 ^ d) && n / 2 ^ d % 2 == 1)).toNat

theorem rh_small {n d : Nat} (h : 2 * n < 2 ^ d) : rh n d = 0 := by
  unfold rh
  rw [Nat.div_eq_of_lt (by omega), Nat.mod_eq_of_lt (by omega)]
  rw [decide_eq_false (by omega), beq_eq_false_iff_ne.2 (by omega)]; rfl

theorem cut_even (neg : Bool) (n d : Nat) : Toward.even.cut neg n d = rh n d := by
  unfold Toward.cut
  simp only [Nat.one_shiftLeft]
  by_cases h : d ≤ n.log2 + 2
  · rw [Nat.min_eq_left h]; rfl
  · rw [Nat.min_eq_right (by omega)]
    have h1 : n < 2 ^ (n.log2 + 1) := Nat.lt_log2_self
    have h2 : 2 ^ (n.log2 + 2) = 2 ^ (n.log2 + 1) * 2 := Nat.pow_succ ..
    have h3 : 2 ^ (n.log2 + 2) ≤ 2 ^ d := Nat.pow_le_pow_right (by omega) (by omega)
    have e1 := rh_small (n := n) (d := n.log2 + 2) (by omega)
    have e2 := rh_small (n := n) (d := d) (by omega)
    rw [e2]; exact e1

theorem rh_shift (m d j : Nat) : rh (m * 2 ^ j) (d + j) = rh m d := by
  unfold rh
  have p := Nat.two_pow_pos j
  rw [Nat.pow_add, Nat.mul_div_mul_right _ _ p, Nat.mul_mod_mul_right]
  congr 2
  rw [← Nat.mul_assoc]
  congr 1
  · exact decide_eq_decide.2 ⟨fun h => Nat.lt_of_mul_lt_mul_right h, fun h => Nat.mul_lt_mul_of_pos_right h p⟩
  · congr 1
    by_cases h : 2 ^ d = 2 * (m % 2 ^ d)
    · rw [beq_iff_eq.2 h, beq_iff_eq.2 (show 2 ^ d * 2 ^ j = 2 * (m % 2 ^ d) * 2 ^ j by rw [← h])]
    · rw [beq_eq_false_iff_ne.2 h]
      exact beq_eq_false_iff_ne.2 (fun h2 => h (Nat.eq_of_mul_eq_mul_right p h2))

theorem rh_exact (m d : Nat) : rh (m * 2 ^ d) d = m := by
  have := rh_shift m 0 d
  rw [Nat.zero_add] at this
  rw [this]; unfold rh; simp [Nat.mod_one]

theorem rh_mono {n n' : Nat} (d : Nat) (h : n ≤ n') : rh n d ≤ rh n' d := by
  unfold rh
  have p := Nat.two_pow_pos d
  generalize 2 ^ d = g at *
  have hq := Nat.div_le_div_right (c := g) h
  rcases Nat.eq_or_lt_of_le hq with e | l
  · rw [e]
    have hr : n % g ≤ n' % g := by
      have a := Nat.div_add_mod n g
      have b := Nat.div_add_mod n' g
      rw [e] at a; omega
    refine Nat.add_le_add_left ?_ _
    by_cases c1 : g < 2 * (n % g)
    · rw [decide_eq_true c1, decide_eq_true (by omega)]; simp
    · rw [decide_eq_false c1, Bool.false_or]
      by_cases c2 : g = 2 * (n % g)
      · by_cases c3 : g < 2 * (n' % g)
        · rw [decide_eq_true c3]; simp only [Bool.true_or]; exact Bool.toNat_le _
        · rw [beq_iff_eq.2 (show g = 2 * (n' % g) by omega), beq_iff_eq.2 c2, decide_eq_false c3]; exact Nat.le_refl _
      · rw [beq_eq_false_iff_ne.2 c2]; exact Nat.zero_le _
  · have := Bool.toNat_le (decide (g < 2 * (n % g)) || (g == 2 * (n % g) && n / g % 2 == 1))
    omega

/-- The rung of the nearest number to X by 2 to the power K, in units of the least place. -/
def rd (X K : Nat) : Nat := min ((X.log2 - (K + 52)) * 2 ^ 52 + rh X (X.log2 - (K + 52) + K)) 0x7ff0000000000000

theorem log2_shift (m j : Nat) (h : m ≠ 0) : (m * 2 ^ j).log2 = m.log2 + j := by
  have h1 : m < 2 ^ (m.log2 + 1) := Nat.lt_log2_self
  have h2 : 2 ^ m.log2 ≤ m := Nat.log2_self_le h
  have p := Nat.two_pow_pos j
  have hn : m * 2 ^ j ≠ 0 := by
    have := Nat.mul_pos (Nat.pos_of_ne_zero h) p; omega
  have a : m.log2 + j ≤ (m * 2 ^ j).log2 := by
    rw [Nat.le_log2 hn, Nat.pow_add]; exact Nat.mul_le_mul_right _ h2
  have b : (m * 2 ^ j).log2 < m.log2 + j + 1 := by
    rw [Nat.log2_lt hn, show m.log2 + j + 1 = (m.log2 + 1) + j by omega, Nat.pow_add]
    exact Nat.mul_lt_mul_of_pos_right h1 p
  omega

theorem nearest_rd (neg : Bool) (mag : Nat) (place : Int) (K j : Nat) (hp : place = -1074 - (K : Int) + (j : Int)) :
    Ieee.double.nearest neg mag place = Ieee.double.word neg (rd (mag * pw j) K) := by
  rw [pw_eq]
  unfold Format.nearest
  by_cases h : mag = 0
  · rw [if_pos h, h]; congr 1; unfold rd; rw [Nat.zero_mul]; rw [rh_small]
    · simp
    · have := Nat.two_pow_pos (Nat.log2 0 - (K + 52) + K); omega
  · rw [if_neg h]
    dsimp only
    refine congrArg (Ieee.double.word neg) ?_
    rw [lP, b52, iR, show Ieee.double.fractionBits = 52 from rfl, cut_even]
    unfold rd
    have hl := log2_shift mag j h
    rw [hl]
    have e1 : (max (place + (mag.log2 : Int) - ((52 : Nat) : Int)) (-1074) - -1074).toNat = mag.log2 + j - (K + 52) := by omega
    rw [e1]
    refine congrArg (fun z => min ((mag.log2 + j - (K + 52)) * 2 ^ 52 + z) 0x7ff0000000000000) ?_
    have e2 : (place - max (place + (mag.log2 : Int) - ((52 : Nat) : Int)) (-1074)).toNat = j - (mag.log2 + j - (K + 52) + K) := by omega
    have e3 : (max (place + (mag.log2 : Int) - ((52 : Nat) : Int)) (-1074) - place).toNat = (mag.log2 + j - (K + 52) + K) - j := by omega
    rw [e2, e3, Nat.shiftLeft_eq]
    generalize mag.log2 + j - (K + 52) + K = D
    rcases Nat.le_total D j with hD | hD
    · rw [Nat.sub_eq_zero_of_le hD]
      have a1 := rh_exact (mag * 2 ^ (j - D)) D
      rw [Nat.mul_assoc, ← Nat.pow_add, show j - D + D = j by omega] at a1
      rw [a1]; unfold rh; simp [Nat.mod_one]
    · rw [Nat.sub_eq_zero_of_le hD]
      have a1 := rh_shift mag (D - j) j
      rw [show D - j + j = D by omega] at a1
      rw [a1]; simp

theorem rd_mono {X Y : Nat} (K : Nat) (h : X ≤ Y) : rd X K ≤ rd Y K := by
  unfold rd
  rcases Nat.eq_zero_or_pos X with h0 | h0
  · subst h0
    rw [rh_small (by have := Nat.two_pow_pos (Nat.log2 0 - (K + 52) + K); omega)]
    simp
  have hl : X.log2 ≤ Y.log2 := by
    rw [Nat.le_log2 (by omega)]
    exact Nat.le_trans (Nat.log2_self_le (by omega)) h
  have main : (X.log2 - (K + 52)) * 2 ^ 52 + rh X (X.log2 - (K + 52) + K) ≤ (Y.log2 - (K + 52)) * 2 ^ 52 + rh Y (Y.log2 - (K + 52) + K) := by
    by_cases e : X.log2 - (K + 52) = Y.log2 - (K + 52)
    · rw [e]; exact Nat.add_le_add_left (rh_mono _ h) _
    · have h1 : rh X (X.log2 - (K + 52) + K) ≤ 2 ^ 53 := by
        have a : X < 2 ^ (X.log2 + 1) := Nat.lt_log2_self
        have b : 2 ^ (X.log2 + 1) ≤ 2 ^ 53 * 2 ^ (X.log2 - (K + 52) + K) := by
          rw [← Nat.pow_add]; exact Nat.pow_le_pow_right (by omega) (by omega)
        have c := rh_mono (X.log2 - (K + 52) + K) (Nat.le_trans (Nat.le_of_lt a) b)
        rwa [rh_exact] at c
      have h2 : 2 ^ 52 ≤ rh Y (Y.log2 - (K + 52) + K) := by
        have a : 2 ^ Y.log2 ≤ Y := Nat.log2_self_le (by omega)
        have b : 2 ^ 52 * 2 ^ (Y.log2 - (K + 52) + K) = 2 ^ Y.log2 := by
          rw [← Nat.pow_add]; congr 1; omega
        have c := rh_mono (Y.log2 - (K + 52) + K) (b ▸ a)
        rwa [rh_exact] at c
      omega
  omega

theorem rd_V {r : Nat} (K : Nat) (h : r ≤ 0x7ff0000000000000) : rd (V r * pw K) K = r := by
  rw [pw_eq]
  unfold rd
  rcases Nat.eq_zero_or_pos r with h0 | h0
  · subst h0
    rw [V_zero, Nat.zero_mul, rh_small (by have := Nat.two_pow_pos (Nat.log2 0 - (K + 52) + K); omega)]; simp
  by_cases h1 : r < 2 ^ 52
  · have e : V r = r := by simp only [V, h1, if_true]
    have l : r.log2 < 52 := (Nat.log2_lt (by omega)).2 h1
    rw [e, log2_shift _ _ (by omega), show r.log2 + K - (K + 52) = 0 by omega, Nat.zero_mul, Nat.zero_add, Nat.zero_add, rh_exact]; omega
  · have e : V r = (2 ^ 52 + r % 2 ^ 52) * 2 ^ (r / 2 ^ 52 - 1) := by simp only [V, h1, if_false]
    have l : (2 ^ 52 + r % 2 ^ 52).log2 = 52 := (Nat.log2_eq_iff (by omega)).2 ⟨by omega, by omega⟩
    rw [e, Nat.mul_assoc, ← Nat.pow_add, log2_shift _ _ (by omega), l, show 52 + (r / 2 ^ 52 - 1 + K) - (K + 52) = r / 2 ^ 52 - 1 by omega, rh_exact]
    omega

theorem rd_le {X K r : Nat} (h : X ≤ V r * pw K) (hr : r ≤ 0x7ff0000000000000) : rd X K ≤ r := by
  have := rd_mono K h; rwa [rd_V K hr] at this

theorem le_rd {X K r : Nat} (h : V r * pw K ≤ X) (hr : r ≤ 0x7ff0000000000000) : r ≤ rd X K := by
  have := rd_mono K h; rwa [rd_V K hr] at this

theorem rd_top (X K : Nat) : rd X K ≤ 0x7ff0000000000000 := Nat.min_le_right ..

end Go.Proofs.YtieldmakbokekaaGreatDoor.Fl
