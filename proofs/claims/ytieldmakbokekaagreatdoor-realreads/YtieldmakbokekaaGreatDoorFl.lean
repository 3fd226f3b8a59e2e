/-
  Floats: the order of floats is that of their rungs.
-/
import Derived.Laws.FloatArith
namespace Go.Proofs.YtieldmakbokekaaGreatDoor.Fl
open Ieee

theorem b52 : Ieee.double.binade = 2 ^ 52 := rfl
theorem iR : Ieee.double.infRung = 0x7ff0000000000000 := by decide +kernel
theorem sW : Ieee.double.signWeight = 2 ^ 63 := rfl
theorem lP : Ieee.double.leastPlace = -1074 := by decide +kernel

/-- The size of a rung, in units of the least place. -/
def V (r : Nat) : Nat := if r < 2 ^ 52 then r else (2 ^ 52 + r % 2 ^ 52) * 2 ^ (r / 2 ^ 52 - 1)

theorem V_succ (r : Nat) : V r < V (r + 1) := by
  unfold V
  by_cases h : r + 1 < 2 ^ 52
  · rw [if_pos (by omega), if_pos h]; omega
  · rw [if_neg h]
    by_cases h2 : r < 2 ^ 52
    · rw [if_pos h2]
      have : r + 1 = 2 ^ 52 := by omega
      rw [this]; simp; omega
    · rw [if_neg h2]
      by_cases h3 : r % 2 ^ 52 + 1 < 2 ^ 52
      · have e1 : (r + 1) / 2 ^ 52 = r / 2 ^ 52 := by omega
        have e2 : (r + 1) % 2 ^ 52 = r % 2 ^ 52 + 1 := by omega
        rw [e1, e2]
        exact Nat.mul_lt_mul_of_pos_right (by omega) (Nat.two_pow_pos _)
      · have e1 : (r + 1) / 2 ^ 52 - 1 = (r / 2 ^ 52 - 1) + 1 := by omega
        have e2 : (r + 1) % 2 ^ 52 = 0 := by omega
        rw [e1, e2, show 2 ^ (r / 2 ^ 52 - 1 + 1) = 2 ^ (r / 2 ^ 52 - 1) * 2 from Nat.pow_succ ..]
        have h4 : r % 2 ^ 52 = 2 ^ 52 - 1 := by omega
        rw [h4]
        have := Nat.two_pow_pos (r / 2 ^ 52 - 1)
        generalize 2 ^ (r / 2 ^ 52 - 1) = z at *
        omega

theorem V_lt {r s : Nat} (h : r < s) : V r < V s := by
  induction s with
  | zero => omega
  | succ s ih =>
    rcases Nat.lt_or_ge r s with h2 | h2
    · exact Nat.lt_trans (ih h2) (V_succ s)
    · have : r = s := by omega
      subst this; exact V_succ r

theorem V_le {r s : Nat} (h : r ≤ s) : V r ≤ V s := by
  rcases Nat.eq_or_lt_of_le h with h | h
  · subst h; exact Nat.le_refl _
  · exact Nat.le_of_lt (V_lt h)

theorem V_inj {r s : Nat} (h : V r = V s) : r = s := by
  rcases Nat.lt_trichotomy r s with h2 | h2 | h2
  · have := V_lt h2; omega
  · exact h2
  · have := V_lt h2; omega

theorem V_zero : V 0 = 0 := by simp [V]

/-- Is it a NaN? -/
def nanB (b : Nat) : Bool := decide (0x7ff0000000000000 < b % 2 ^ 63)
@[reducible] def Nan (b : Nat) : Prop := nanB b = true
theorem nan_iff (b : Nat) : Nan b ↔ 0x7ff0000000000000 < b % 2 ^ 63 := by unfold Nan nanB; exact decide_eq_true_iff

theorem read_num {b : Nat} (h : b % 2 ^ 63 < 0x7ff0000000000000) :
    ∃ m k : Nat, Ieee.double.read b = .number (b / 2 ^ 63 % 2 == 1) m (-1074 + (k : Int)) ∧ m * 2 ^ k = V (b % 2 ^ 63) ∧ m < 2 ^ 53 ∧ k = (b % 2 ^ 63) / 2 ^ 52 - 1 := by
  unfold Format.read V
  rw [b52, iR, sW, lP]
  by_cases h1 : b % 2 ^ 63 < 2 ^ 52
  · refine ⟨b % 2 ^ 63, 0, ?_, ?_, by omega, by omega⟩
    · simp only [h1, if_true]; rfl
    · simp [h1]
  · refine ⟨2 ^ 52 + b % 2 ^ 63 % 2 ^ 52, b % 2 ^ 63 / 2 ^ 52 - 1, ?_, ?_, by omega, rfl⟩
    · simp only [h1, h, if_true, if_false]
    · rw [if_neg h1]

theorem read_inf {b : Nat} (h : b % 2 ^ 63 = 0x7ff0000000000000) : Ieee.double.read b = .infinity (b / 2 ^ 63 % 2 == 1) := by
  unfold Format.read
  rw [b52, iR, sW, lP]
  simp [h]

theorem read_nan {b : Nat} (h : Nan b) : ∃ f, Ieee.double.read b = .nan (b / 2 ^ 63 % 2 == 1) f := by
  rw [nan_iff] at h
  unfold Format.read
  rw [b52, iR, sW, lP]
  refine ⟨b % 2 ^ 63 - 0x7ff0000000000000, ?_⟩
  simp only []
  rw [if_neg (by omega), if_neg (by omega), if_neg (by omega)]

/-- Its place on the line: the rung, with the sign. -/
def sr (b : Nat) : Int := if b / 2 ^ 63 % 2 = 1 then -((b % 2 ^ 63 : Nat) : Int) else ((b % 2 ^ 63 : Nat) : Int)

/-- Its size with the sign. -/
def sv (b : Nat) : Int := if b / 2 ^ 63 % 2 = 1 then -((V (b % 2 ^ 63) : Nat) : Int) else ((V (b % 2 ^ 63) : Nat) : Int)

theorem sv_lt {x y : Nat} (h : sr x < sr y) : sv x < sv y := by
  unfold sr at h; unfold sv
  have a := V_zero
  split at h <;> split at h <;> rename_i h1 h2 <;> simp only [h1, h2, if_true, if_false]
  · have := V_lt (r := y % 2 ^ 63) (s := x % 2 ^ 63) (by omega); omega
  · rcases Nat.eq_zero_or_pos (x % 2 ^ 63) with h0 | h0
    · have := V_lt (r := 0) (s := y % 2 ^ 63) (by omega); rw [h0]; omega
    · have := V_lt h0; omega
  · omega
  · have := V_lt (r := x % 2 ^ 63) (s := y % 2 ^ 63) (by omega); omega

theorem sv_eq {x y : Nat} (h : sr x = sr y) : sv x = sv y := by
  unfold sr at h; unfold sv
  have a := V_zero
  split at h <;> split at h <;> rename_i h1 h2 <;> simp only [h1, h2, if_true, if_false]
  · have : x % 2 ^ 63 = y % 2 ^ 63 := by omega
    rw [this]
  · have : x % 2 ^ 63 = 0 := by omega
    have h' : y % 2 ^ 63 = 0 := by omega
    rw [this, h']; omega
  · have : x % 2 ^ 63 = 0 := by omega
    have h' : y % 2 ^ 63 = 0 := by omega
    rw [this, h']; omega
  · have : x % 2 ^ 63 = y % 2 ^ 63 := by omega
    rw [this]

theorem cmp_of {a b : Int} {c d : Int} (h1 : a < b → c < d) (h2 : a = b → c = d) (h3 : b < a → d < c) : compare c d = compare a b := by
  rcases Int.lt_trichotomy a b with h | h | h
  · rw [Int.compare_eq_lt.2 h, Int.compare_eq_lt.2 (h1 h)]
  · rw [Int.compare_eq_eq.2 h, Int.compare_eq_eq.2 (h2 h)]
  · rw [Int.compare_eq_gt.2 h, Int.compare_eq_gt.2 (h3 h)]

theorem signed_eq (s : Bool) (m k : Nat) : signed s m k = if s = true then -((m * 2 ^ k : Nat) : Int) else ((m * 2 ^ k : Nat) : Int) := by
  unfold signed; rw [Nat.shiftLeft_eq]

/-- THE ORDER OF FLOATS IS THAT OF THEIR RUNGS. -/
theorem order_rung {x y : Nat} (hx : ¬ Nan x) (hy : ¬ Nan y) : Ieee.double.order x y = some (compare (sr x) (sr y)) := by
  rw [nan_iff] at hx hy
  have px : x % 2 ^ 63 < 2 ^ 63 := by omega
  have py : y % 2 ^ 63 < 2 ^ 63 := by omega
  unfold Format.order
  by_cases ix : x % 2 ^ 63 = 0x7ff0000000000000
  · rw [read_inf ix]
    by_cases iy : y % 2 ^ 63 = 0x7ff0000000000000
    · rw [read_inf iy]
      simp only [Datum.order, sr, ix, iy]
      rw [show (x / 2 ^ 63 % 2 == 1) = decide (x / 2 ^ 63 % 2 = 1) from rfl, show (y / 2 ^ 63 % 2 == 1) = decide (y / 2 ^ 63 % 2 = 1) from rfl]
      by_cases sx : x / 2 ^ 63 % 2 = 1 <;> by_cases sy : y / 2 ^ 63 % 2 = 1 <;> simp only [sx, sy, if_true, if_false, decide_true, decide_false] <;> decide
    · obtain ⟨m, k, e, _⟩ := read_num (b := y) (by omega)
      rw [e]
      simp only [Datum.order, sr, ix]
      by_cases sx : x / 2 ^ 63 % 2 = 1
      · simp only [sx, if_true]
        rw [Int.compare_eq_lt.2 (by split <;> omega)]; rfl
      · simp only [sx, if_false]
        rw [Int.compare_eq_gt.2 (by split <;> omega)]; simp [sx]
  · obtain ⟨m, k, e, hv, _⟩ := read_num (b := x) (by omega)
    by_cases iy : y % 2 ^ 63 = 0x7ff0000000000000
    · rw [read_inf iy, e]
      simp only [Datum.order, sr, iy]
      by_cases sy : y / 2 ^ 63 % 2 = 1
      · simp only [sy, if_true]
        rw [Int.compare_eq_gt.2 (by split <;> omega)]; rfl
      · simp only [sy, if_false]
        rw [Int.compare_eq_lt.2 (by split <;> omega)]; simp [sy]
    · obtain ⟨n, l, e', hv', _⟩ := read_num (b := y) (by omega)
      rw [e, e']
      simp only [Datum.order, signed_eq]
      congr 1
      have r1 : (-1074 + (k : Int) - min (-1074 + (k : Int)) (-1074 + (l : Int))).toNat = k - min k l := by omega
      have r2 : (-1074 + (l : Int) - min (-1074 + (k : Int)) (-1074 + (l : Int))).toNat = l - min k l := by omega
      rw [r1, r2]
      have q1 : m * 2 ^ (k - min k l) * 2 ^ (min k l) = V (x % 2 ^ 63) := by
        rw [Nat.mul_assoc, ← Nat.pow_add, ← hv]; congr 2; omega
      have q2 : n * 2 ^ (l - min k l) * 2 ^ (min k l) = V (y % 2 ^ 63) := by
        rw [Nat.mul_assoc, ← Nat.pow_add, ← hv']; congr 2; omega
      have pc := Nat.two_pow_pos (min k l)
      generalize m * 2 ^ (k - min k l) = A at *
      generalize n * 2 ^ (l - min k l) = B at *
      generalize 2 ^ (min k l) = C at *
      have up : ∀ a b : Int, a * C < b * C → a < b := fun a b h => Int.lt_of_mul_lt_mul_right h (by omega)
      have eu : ∀ a b : Int, a * C = b * C → a = b := fun a b h => Int.eq_of_mul_eq_mul_right (by omega) h
      have f1 : (if (x / 2 ^ 63 % 2 == 1) = true then -(A : Int) else A) * C = sv x := by
        unfold sv; rw [← q1]; by_cases s : x / 2 ^ 63 % 2 = 1 <;> simp [s, Int.neg_mul]
      have f2 : (if (y / 2 ^ 63 % 2 == 1) = true then -(B : Int) else B) * C = sv y := by
        unfold sv; rw [← q2]; by_cases s : y / 2 ^ 63 % 2 = 1 <;> simp [s, Int.neg_mul]
      refine cmp_of ?_ ?_ ?_
      · intro h; refine up _ _ ?_; rw [f1, f2]; exact sv_lt h
      · intro h; refine eu _ _ ?_; rw [f1, f2]; exact sv_eq h
      · intro h; refine up _ _ ?_; rw [f1, f2]; exact sv_lt h

theorem order_nan {x y : Nat} (h : Nan x ∨ Nan y) : Ieee.double.order x y = none := by
  unfold Format.order
  rcases h with h | h
  · obtain ⟨f, e⟩ := read_nan h
    rw [e]; rfl
  · obtain ⟨f, e⟩ := read_nan h
    rw [e]; cases Ieee.double.read x <;> rfl

theorem lt_iff (x y : Nat) : (Ieee.double.order x y == some .lt) = decide (¬ Nan x ∧ ¬ Nan y ∧ sr x < sr y) := by
  by_cases hx : Nan x
  · rw [order_nan (.inl hx)]; simp [hx]
  · by_cases hy : Nan y
    · rw [order_nan (.inr hy)]; simp [hy]
    · rw [order_rung hx hy]
      rcases Int.lt_trichotomy (sr x) (sr y) with h | h | h
      · rw [Int.compare_eq_lt.2 h]; simp [hx, hy, h]
      · rw [Int.compare_eq_eq.2 h]; simp [hx, hy, h]
      · rw [Int.compare_eq_gt.2 h]; simp [hx, hy]; omega

theorem gt_iff (x y : Nat) : (Ieee.double.order x y == some .gt) = decide (¬ Nan x ∧ ¬ Nan y ∧ sr y < sr x) := by
  by_cases hx : Nan x
  · rw [order_nan (.inl hx)]; simp [hx]
  · by_cases hy : Nan y
    · rw [order_nan (.inr hy)]; simp [hy]
    · rw [order_rung hx hy]
      rcases Int.lt_trichotomy (sr x) (sr y) with h | h | h
      · rw [Int.compare_eq_lt.2 h]; simp [hx, hy]; omega
      · rw [Int.compare_eq_eq.2 h]; simp [hx, hy, h]
      · rw [Int.compare_eq_gt.2 h]; simp [hx, hy, h]

theorem eq_iff (x y : Nat) : (Ieee.double.order x y == some .eq) = decide (¬ Nan x ∧ ¬ Nan y ∧ sr x = sr y) := by
  by_cases hx : Nan x
  · rw [order_nan (.inl hx)]; simp [hx]
  · by_cases hy : Nan y
    · rw [order_nan (.inr hy)]; simp [hy]
    · rw [order_rung hx hy]
      rcases Int.lt_trichotomy (sr x) (sr y) with h | h | h
      · rw [Int.compare_eq_lt.2 h]; simp [hx, hy]; omega
      · rw [Int.compare_eq_eq.2 h]; simp [hx, hy, h]
      · rw [Int.compare_eq_gt.2 h]; simp [hx, hy]; omega

theorem ne_iff (x y : Nat) : (Ieee.double.order x y != some .eq) = decide (¬ (¬ Nan x ∧ ¬ Nan y ∧ sr x = sr y)) := by
  rw [bne, eq_iff, decide_not]

end Go.Proofs.YtieldmakbokekaaGreatDoor.Fl

/-
  Floats: to round is to find a rung; it goes up with the number, and a number of the format is its own.
-/
namespace Go.Proofs.YtieldmakbokekaaGreatDoor.Fl
open Ieee

/-- A great power of 2, that is not worked out. -/
def pw (n : Nat) : Nat := if _h : n = 0 then 1 else 2 * pw (n - 1)

theorem pw_eq (n : Nat) : pw n = 2 ^ n := by
  induction n with
  | zero => unfold pw; rfl
  | succ n ih => unfold pw; rw [dif_neg (by omega), Nat.add_sub_cancel, ih, Nat.pow_succ, Nat.mul_comm]
theorem pw_pos (n : Nat) : 0 < pw n := by rw [pw_eq]; exact Nat.two_pow_pos n
theorem pw_add (a b : Nat) : pw (a + b) = pw a * pw b := by rw [pw_eq, pw_eq, pw_eq, Nat.pow_add]
theorem pw_mul (a b : Nat) : 2 ^ a * pw b = pw (a + b) := by rw [pw_eq, pw_eq, Nat.pow_add]
theorem pw_le {a b : Nat} (h : a ≤ b) : pw a ≤ pw b := by rw [pw_eq, pw_eq]; exact Nat.pow_le_pow_right (by omega) h

theorem V_big {r : Nat} (h : ¬ r < 2 ^ 52) : V r = (2 ^ 52 + r % 2 ^ 52) * pw (r / 2 ^ 52 - 1) := by
  rw [pw_eq]; simp only [V, h, if_false]

theorem V_at (r q t : Nat) (h : r = (q + 1) * 2 ^ 52 + t) (ht : t < 2 ^ 52) : V r = (2 ^ 52 + t) * pw q := by
  rw [V_big (by omega), show r % 2 ^ 52 = t by omega, show r / 2 ^ 52 - 1 = q by omega]

/-- Half to even. -/
def rh (n d : Nat) : Nat := n / 2 ^ d + (decide (2 ^ d < 2 * (n % 2 ^ d)) || (2 ^ d == 2 * (n % 2 ^ d) && n / 2 ^ d % 2 == 1)).toNat

theorem rh_small {n d : Nat} (h : 2 * n < 2 ^ d) : rh n d = 0 := by
  unfold rh
  rw [Nat.div_eq_of_lt (by omega), Nat.mod_eq_of_lt (by omega)]
  rw [decide_eq_false (by omega), beq_eq_false_iff_ne.2 (by omega)]; rfl

theorem cut_even (neg : Bool) (n d : Nat) : Toward.even.cut neg n d = rh n d := by
  unfold Toward.cut
  simp only [Nat.one_shiftLeft]
  by_cases h : d ≤ n.log2 + 2
  · rw [Nat.min_eq_left h]; rfl
  · rw [Nat.min_eq_right (by omega)]
    have h1 : n < 2 ^ (n.log2 + 1) := Nat.lt_log2_self
    have h2 : 2 ^ (n.log2 + 2) = 2 ^ (n.log2 + 1) * 2 := Nat.pow_succ ..
    have h3 : 2 ^ (n.log2 + 2) ≤ 2 ^ d := Nat.pow_le_pow_right (by omega) (by omega)
    have e1 := rh_small (n := n) (d := n.log2 + 2) (by omega)
    have e2 := rh_small (n := n) (d := d) (by omega)
    rw [e2]; exact e1

theorem rh_shift (m d j : Nat) : rh (m * 2 ^ j) (d + j) = rh m d := by
  unfold rh
  have p := Nat.two_pow_pos j
  rw [Nat.pow_add, Nat.mul_div_mul_right _ _ p, Nat.mul_mod_mul_right]
  congr 2
  rw [← Nat.mul_assoc]
  congr 1
  · exact decide_eq_decide.2 ⟨fun h => Nat.lt_of_mul_lt_mul_right h, fun h => Nat.mul_lt_mul_of_pos_right h p⟩
  · congr 1
    by_cases h : 2 ^ d = 2 * (m % 2 ^ d)
    · rw [beq_iff_eq.2 h, beq_iff_eq.2 (show 2 ^ d * 2 ^ j = 2 * (m % 2 ^ d) * 2 ^ j by rw [← h])]
    · rw [beq_eq_false_iff_ne.2 h]
      exact beq_eq_false_iff_ne.2 (fun h2 => h (Nat.eq_of_mul_eq_mul_right p h2))

theorem rh_exact (m d : Nat) : rh (m * 2 ^ d) d = m := by
  have := rh_shift m 0 d
  rw [Nat.zero_add] at this
  rw [this]; unfold rh; simp [Nat.mod_one]

theorem rh_mono {n n' : Nat} (d : Nat) (h : n ≤ n') : rh n d ≤ rh n' d := by
  unfold rh
  have p := Nat.two_pow_pos d
  generalize 2 ^ d = g at *
  have hq := Nat.div_le_div_right (c := g) h
  rcases Nat.eq_or_lt_of_le hq with e | l
  · rw [e]
    have hr : n % g ≤ n' % g := by
      have a := Nat.div_add_mod n g
      have b := Nat.div_add_mod n' g
      rw [e] at a; omega
    refine Nat.add_le_add_left ?_ _
    by_cases c1 : g < 2 * (n % g)
    · rw [decide_eq_true c1, decide_eq_true (by omega)]; simp
    · rw [decide_eq_false c1, Bool.false_or]
      by_cases c2 : g = 2 * (n % g)
      · by_cases c3 : g < 2 * (n' % g)
        · rw [decide_eq_true c3]; simp only [Bool.true_or]; exact Bool.toNat_le _
        · rw [beq_iff_eq.2 (show g = 2 * (n' % g) by omega), beq_iff_eq.2 c2, decide_eq_false c3]; exact Nat.le_refl _
      · rw [beq_eq_false_iff_ne.2 c2]; exact Nat.zero_le _
  · have := Bool.toNat_le (decide (g < 2 * (n % g)) || (g == 2 * (n % g) && n / g % 2 == 1))
    omega

/-- The rung of the nearest number to X by 2 to the power K, in units of the least place. -/
def rd (X K : Nat) : Nat := min ((X.log2 - (K + 52)) * 2 ^ 52 + rh X (X.log2 - (K + 52) + K)) 0x7ff0000000000000

theorem log2_shift (m j : Nat) (h : m ≠ 0) : (m * 2 ^ j).log2 = m.log2 + j := by
  have h1 : m < 2 ^ (m.log2 + 1) := Nat.lt_log2_self
  have h2 : 2 ^ m.log2 ≤ m := Nat.log2_self_le h
  have p := Nat.two_pow_pos j
  have hn : m * 2 ^ j ≠ 0 := by
    have := Nat.mul_pos (Nat.pos_of_ne_zero h) p; omega
  have a : m.log2 + j ≤ (m * 2 ^ j).log2 := by
    rw [Nat.le_log2 hn, Nat.pow_add]; exact Nat.mul_le_mul_right _ h2
  have b : (m * 2 ^ j).log2 < m.log2 + j + 1 := by
    rw [Nat.log2_lt hn, show m.log2 + j + 1 = (m.log2 + 1) + j by omega, Nat.pow_add]
    exact Nat.mul_lt_mul_of_pos_right h1 p
  omega

theorem nearest_rd (neg : Bool) (mag : Nat) (place : Int) (K j : Nat) (hp : place = -1074 - (K : Int) + (j : Int)) :
    Ieee.double.nearest neg mag place = Ieee.double.word neg (rd (mag * pw j) K) := by
  rw [pw_eq]
  unfold Format.nearest
  by_cases h : mag = 0
  · rw [if_pos h, h]; congr 1; unfold rd; rw [Nat.zero_mul]; rw [rh_small]
    · simp
    · have := Nat.two_pow_pos (Nat.log2 0 - (K + 52) + K); omega
  · rw [if_neg h]
    dsimp only
    refine congrArg (Ieee.double.word neg) ?_
    rw [lP, b52, iR, show Ieee.double.fractionBits = 52 from rfl, cut_even]
    unfold rd
    have hl := log2_shift mag j h
    rw [hl]
    have e1 : (max (place + (mag.log2 : Int) - ((52 : Nat) : Int)) (-1074) - -1074).toNat = mag.log2 + j - (K + 52) := by omega
    rw [e1]
    refine congrArg (fun z => min ((mag.log2 + j - (K + 52)) * 2 ^ 52 + z) 0x7ff0000000000000) ?_
    have e2 : (place - max (place + (mag.log2 : Int) - ((52 : Nat) : Int)) (-1074)).toNat = j - (mag.log2 + j - (K + 52) + K) := by omega
    have e3 : (max (place + (mag.log2 : Int) - ((52 : Nat) : Int)) (-1074) - place).toNat = (mag.log2 + j - (K + 52) + K) - j := by omega
    rw [e2, e3, Nat.shiftLeft_eq]
    generalize mag.log2 + j - (K + 52) + K = D
    rcases Nat.le_total D j with hD | hD
    · rw [Nat.sub_eq_zero_of_le hD]
      have a1 := rh_exact (mag * 2 ^ (j - D)) D
      rw [Nat.mul_assoc, ← Nat.pow_add, show j - D + D = j by omega] at a1
      rw [a1]; unfold rh; simp [Nat.mod_one]
    · rw [Nat.sub_eq_zero_of_le hD]
      have a1 := rh_shift mag (D - j) j
      rw [show D - j + j = D by omega] at a1
      rw [a1]; simp

theorem rd_mono {X Y : Nat} (K : Nat) (h : X ≤ Y) : rd X K ≤ rd Y K := by
  unfold rd
  rcases Nat.eq_zero_or_pos X with h0 | h0
  · subst h0
    rw [rh_small (by have := Nat.two_pow_pos (Nat.log2 0 - (K + 52) + K); omega)]
    simp
  have hl : X.log2 ≤ Y.log2 := by
    rw [Nat.le_log2 (by omega)]
    exact Nat.le_trans (Nat.log2_self_le (by omega)) h
  have main : (X.log2 - (K + 52)) * 2 ^ 52 + rh X (X.log2 - (K + 52) + K) ≤ (Y.log2 - (K + 52)) * 2 ^ 52 + rh Y (Y.log2 - (K + 52) + K) := by
    by_cases e : X.log2 - (K + 52) = Y.log2 - (K + 52)
    · rw [e]; exact Nat.add_le_add_left (rh_mono _ h) _
    · have h1 : rh X (X.log2 - (K + 52) + K) ≤ 2 ^ 53 := by
        have a : X < 2 ^ (X.log2 + 1) := Nat.lt_log2_self
        have b : 2 ^ (X.log2 + 1) ≤ 2 ^ 53 * 2 ^ (X.log2 - (K + 52) + K) := by
          rw [← Nat.pow_add]; exact Nat.pow_le_pow_right (by omega) (by omega)
        have c := rh_mono (X.log2 - (K + 52) + K) (Nat.le_trans (Nat.le_of_lt a) b)
        rwa [rh_exact] at c
      have h2 : 2 ^ 52 ≤ rh Y (Y.log2 - (K + 52) + K) := by
        have a : 2 ^ Y.log2 ≤ Y := Nat.log2_self_le (by omega)
        have b : 2 ^ 52 * 2 ^ (Y.log2 - (K + 52) + K) = 2 ^ Y.log2 := by
          rw [← Nat.pow_add]; congr 1; omega
        have c := rh_mono (Y.log2 - (K + 52) + K) (b ▸ a)
        rwa [rh_exact] at c
      omega
  omega

theorem rd_V {r : Nat} (K : Nat) (h : r ≤ 0x7ff0000000000000) : rd (V r * pw K) K = r := by
  rw [pw_eq]
  unfold rd
  rcases Nat.eq_zero_or_pos r with h0 | h0
  · subst h0
    rw [V_zero, Nat.zero_mul, rh_small (by have := Nat.two_pow_pos (Nat.log2 0 - (K + 52) + K); omega)]; simp
  by_cases h1 : r < 2 ^ 52
  · have e : V r = r := by simp only [V, h1, if_true]
    have l : r.log2 < 52 := (Nat.log2_lt (by omega)).2 h1
    rw [e, log2_shift _ _ (by omega), show r.log2 + K - (K + 52) = 0 by omega, Nat.zero_mul, Nat.zero_add, Nat.zero_add, rh_exact]; omega
  · have e : V r = (2 ^ 52 + r % 2 ^ 52) * 2 ^ (r / 2 ^ 52 - 1) := by simp only [V, h1, if_false]
    have l : (2 ^ 52 + r % 2 ^ 52).log2 = 52 := (Nat.log2_eq_iff (by omega)).2 ⟨by omega, by omega⟩
    rw [e, Nat.mul_assoc, ← Nat.pow_add, log2_shift _ _ (by omega), l, show 52 + (r / 2 ^ 52 - 1 + K) - (K + 52) = r / 2 ^ 52 - 1 by omega, rh_exact]
    omega

theorem rd_le {X K r : Nat} (h : X ≤ V r * pw K) (hr : r ≤ 0x7ff0000000000000) : rd X K ≤ r := by
  have := rd_mono K h; rwa [rd_V K hr] at this

theorem le_rd {X K r : Nat} (h : V r * pw K ≤ X) (hr : r ≤ 0x7ff0000000000000) : r ≤ rd X K := by
  have := rd_mono K h; rwa [rd_V K hr] at this

theorem rd_top (X K : Nat) : rd X K ≤ 0x7ff0000000000000 := Nat.min_le_right ..

end Go.Proofs.YtieldmakbokekaaGreatDoor.Fl

/-
  Floats: products, whole numbers, what is ahead of the point.
-/
namespace Go.Proofs.YtieldmakbokekaaGreatDoor.Fl
open Ieee

theorem rep (e : Nat) : ∀ m, m < 2 ^ 53 → ∃ r, V r = m * 2 ^ e := by
  induction e with
  | zero =>
    intro m h
    by_cases h1 : m < 2 ^ 52
    · exact ⟨m, by simp only [V, h1, if_true]; omega⟩
    · refine ⟨m, ?_⟩
      simp only [V, h1, if_false]
      have : m / 2 ^ 52 - 1 = 0 := by omega
      rw [this]; omega
  | succ e ih =>
    intro m h
    by_cases h1 : m < 2 ^ 52
    · obtain ⟨r, hr⟩ := ih (m * 2) (by omega)
      exact ⟨r, by rw [hr, Nat.mul_assoc, show 2 ^ (e + 1) = 2 * 2 ^ e by rw [Nat.pow_succ, Nat.mul_comm]]⟩
    · refine ⟨(e + 2) * 2 ^ 52 + (m - 2 ^ 52), ?_⟩
      have a : ¬ ((e + 2) * 2 ^ 52 + (m - 2 ^ 52) < 2 ^ 52) := by omega
      simp only [V, a, if_false]
      rw [show ((e + 2) * 2 ^ 52 + (m - 2 ^ 52)) % 2 ^ 52 = m - 2 ^ 52 by omega, show ((e + 2) * 2 ^ 52 + (m - 2 ^ 52)) / 2 ^ 52 - 1 = e + 1 by omega, show 2 ^ 52 + (m - 2 ^ 52) = m by omega]

theorem V_inf : V 0x7ff0000000000000 = pw 2098 := by
  rw [V_at _ 2046 0 (by omega) (by omega), Nat.add_zero, pw_mul]

theorem V_one : V 0x3ff0000000000000 = pw 1074 := by
  rw [V_at _ 1022 0 (by omega) (by omega), Nat.add_zero, pw_mul]

theorem V_below_one : V 0x3fefffffffffffff = (2 ^ 53 - 1) * pw 1021 := by
  rw [V_at _ 1021 (2 ^ 52 - 1) (by omega) (by omega), show (2 ^ 52 + (2 ^ 52 - 1) : Nat) = 2 ^ 53 - 1 by omega]

/-- A product of two numbers. -/
theorem mul_num {x y : Nat} (hx : x % 2 ^ 63 < 0x7ff0000000000000) (hy : y % 2 ^ 63 < 0x7ff0000000000000) :
    Ieee.double.mul x y = some (Ieee.double.word ((x / 2 ^ 63 % 2 == 1) ^^ (y / 2 ^ 63 % 2 == 1)) (rd (V (x % 2 ^ 63) * V (y % 2 ^ 63)) 1074)) := by
  obtain ⟨m, k, e, hv, _⟩ := read_num hx
  obtain ⟨n, l, e', hv', _⟩ := read_num hy
  unfold Format.mul
  rw [e, e']
  simp only [Datum.product, Option.map_some, Format.write]
  rw [nearest_rd _ _ _ 1074 (k + l) (by omega), ← hv, ← hv', pw_add, pw_eq k, pw_eq l]
  refine congrArg (fun z => some (Ieee.double.word _ (rd z 1074))) ?_
  ac_rfl

/-- The rung of a whole number. -/
def fi (n : Nat) : Nat := rd (n * pw 1074) 0

theorem floatOfInt_nat (n : Nat) : floatOfInt .f64 (n : Int) = fi n := by
  have e : floatOfInt .f64 (n : Int) = Ieee.double.nearest (decide ((n : Int) < 0)) (n : Int).natAbs 0 := rfl
  rw [e, nearest_rd _ _ _ 0 1074 (by omega), decide_eq_false (by omega), Int.natAbs_natCast]
  unfold fi Format.word
  rw [if_neg (by decide)]

theorem floatOfInt_neg (n : Nat) (h : 0 < n) : floatOfInt .f64 (-(n : Int)) = 2 ^ 63 + fi n := by
  unfold floatOfInt FloatKind.nearest FloatKind.encode
  show Ieee.double.nearest _ _ _ = _
  rw [nearest_rd _ _ _ 0 1074 (by omega), decide_eq_true (by omega), Int.natAbs_neg, Int.natAbs_natCast]
  unfold fi
  generalize rd _ 0 = z
  rfl

theorem cut_zero (neg : Bool) (n d : Nat) : Toward.zero.cut neg n d = n / 2 ^ d := by
  unfold Toward.cut
  simp only [Nat.one_shiftLeft, Bool.toNat_false, Nat.add_zero]
  by_cases h : d ≤ n.log2 + 2
  · rw [Nat.min_eq_left h]
  · rw [Nat.min_eq_right (by omega)]
    have h1 : n < 2 ^ (n.log2 + 1) := Nat.lt_log2_self
    have h2 : 2 ^ (n.log2 + 2) = 2 ^ (n.log2 + 1) * 2 := Nat.pow_succ ..
    have h3 : 2 ^ (n.log2 + 2) ≤ 2 ^ d := Nat.pow_le_pow_right (by omega) (by omega)
    rw [Nat.div_eq_of_lt (by omega), Nat.div_eq_of_lt (by omega)]

theorem cut_down (n d : Nat) : Toward.down.cut false n d = n / 2 ^ d := by
  rw [← cut_zero false n d]; unfold Toward.cut; simp

theorem floor_V (m k : Nat) : (m <<< (-1074 + (k : Int)).toNat) / 2 ^ (-(-1074 + (k : Int))).toNat = m * 2 ^ k / pw 1074 := by
  rw [Nat.shiftLeft_eq]
  rcases Nat.le_total k 1074 with h | h
  · rw [show (-1074 + (k : Int)).toNat = 0 by omega, show (-(-1074 + (k : Int))).toNat = 1074 - k by omega]
    rw [show pw 1074 = pw (1074 - k) * pw k by rw [← pw_add, Nat.sub_add_cancel h], ← pw_eq k, Nat.mul_div_mul_right _ _ (pw_pos k), pw_eq, Nat.pow_zero, Nat.mul_one]
  · rw [show (-1074 + (k : Int)).toNat = k - 1074 by omega, show (-(-1074 + (k : Int))).toNat = 0 by omega]
    rw [← pw_eq k, show pw k = pw (k - 1074) * pw 1074 by rw [← pw_add, Nat.sub_add_cancel h], ← Nat.mul_assoc, Nat.mul_div_cancel _ (pw_pos 1074), pw_eq, Nat.pow_zero, Nat.div_one]

/-- What is ahead of the point. -/
def wh (r : Nat) : Nat := V r / pw 1074

theorem toInt_num {x : Nat} (hx : x < 0x7ff0000000000000) (h : wh x ≤ 9223372036854775807) : floatToIntVal .f64 x .i64 = some (wh x) := by
  have hm : x % 2 ^ 63 = x := by omega
  obtain ⟨m, k, e, hv, _⟩ := read_num (b := x) (by omega)
  rw [hm] at hv
  unfold floatToIntVal
  have e' : FloatKind.f64.decode x = .number false m (-1074 + (k : Int)) := by
    show Ieee.double.read x = _
    rw [e]; congr 1
    rw [show x / 2 ^ 63 % 2 = 0 by omega]; rfl
  rw [e']
  simp only [Datum.toInt, Datum.integral, cut_zero, floor_V, signed_eq]
  rw [hv]
  unfold wh at h ⊢
  generalize V x / pw 1074 = z at *
  simp only [IntKind.min, IntKind.max, IntKind.signed, IntKind.bits]
  simp
  omega

theorem floor_num {x : Nat} (hx : x < 0x7ff0000000000000) : ∃ m k, FloatKind.f64.decode x = .number false m k ∧ FloatKind.f64.encode ((Datum.number false m k).integral .down) = fi (wh x) := by
  have hm : x % 2 ^ 63 = x := by omega
  obtain ⟨m, k, e, hv, _⟩ := read_num (b := x) (by omega)
  rw [hm] at hv
  refine ⟨m, -1074 + (k : Int), ?_, ?_⟩
  · show Ieee.double.read x = _
    rw [e]; congr 1
    rw [show x / 2 ^ 63 % 2 = 0 by omega]; rfl
  · rw [show FloatKind.f64.encode ((Datum.number false m (-1074 + (k : Int))).integral .down) = Ieee.double.nearest false (Toward.down.cut false (m <<< (-1074 + (k : Int)).toNat) (-(-1074 + (k : Int))).toNat) 0 from rfl]
    rw [nearest_rd _ _ _ 0 1074 (by omega), cut_down, floor_V, hv]
    unfold fi Format.word wh
    rw [if_neg (by decide)]

/-- What is ahead of the point is a number itself. -/
theorem wh_exact {x : Nat} (hx : x < 0x7ff0000000000000) : V (fi (wh x)) = wh x * pw 1074 := by
  have key : ∃ r, V r = wh x * pw 1074 := by
    by_cases h : wh x < 2 ^ 53
    · obtain ⟨r, hr⟩ := rep 1074 _ h
      exact ⟨r, by rw [hr, pw_eq]⟩
    · refine ⟨x, ?_⟩
      have hd : pw 1074 ∣ V x := by
        have hb : ¬ x < 2 ^ 52 := by
          intro hb
          have hvx : V x = x := by simp only [V, hb, if_true]
          unfold wh at h
          rw [hvx] at h
          exact h (Nat.lt_of_le_of_lt (Nat.div_le_self ..) (by omega))
        rw [V_big hb]
        by_cases hk : 1074 ≤ x / 2 ^ 52 - 1
        · rw [show x / 2 ^ 52 - 1 = (x / 2 ^ 52 - 1 - 1074) + 1074 by omega, pw_add, ← Nat.mul_assoc]
          exact Nat.dvd_mul_left ..
        · exfalso; apply h
          unfold wh
          rw [Nat.div_lt_iff_lt_mul (pw_pos _), V_big hb]
          refine Nat.lt_of_lt_of_le (Nat.mul_lt_mul_of_pos_right (show 2 ^ 52 + x % 2 ^ 52 < 2 ^ 53 by omega) (pw_pos _)) ?_
          exact Nat.mul_le_mul_left _ (pw_le (by omega))
      exact (Nat.div_mul_cancel hd).symm
  obtain ⟨r, hr⟩ := key
  have hr' : r ≤ 0x7ff0000000000000 := by
    have h1 : V r ≤ V x := by rw [hr]; exact Nat.div_mul_le_self ..
    rcases Nat.lt_or_ge x r with h | h
    · have := V_lt h; omega
    · omega
  have := rd_V (r := r) 0 hr'
  unfold fi
  rw [pw_eq 0, Nat.pow_zero, Nat.mul_one, hr] at this
  rw [this, hr]

theorem wh_whole {x : Nat} (hx : x < 0x7ff0000000000000) : wh (fi (wh x)) = wh x := by
  have := wh_exact hx
  rw [show wh (fi (wh x)) = V (fi (wh x)) / pw 1074 from rfl, this, Nat.mul_div_cancel _ (pw_pos _)]

theorem fi_le {n : Nat} (h : n < 2 ^ 63) : fi n ≤ 0x43e0000000000000 := by
  unfold fi
  have : V 0x43e0000000000000 = 2 ^ 63 * pw 1074 := by
    rw [V_at _ 1085 0 (by omega) (by omega), Nat.add_zero, pw_mul, pw_mul]
  refine rd_le ?_ (by omega)
  rw [this, pw_eq 0, Nat.pow_zero, Nat.mul_one]
  exact Nat.mul_le_mul_right _ (by omega)

/-- The rung of n times x. -/
def pr (x n : Nat) : Nat := rd (V (fi n) * V x) 1074

theorem pr_mono {x y n : Nat} (h : x ≤ y) : pr x n ≤ pr y n := rd_mono _ (Nat.mul_le_mul_left _ (V_le h))

theorem wh_mono {x y : Nat} (h : x ≤ y) : wh x ≤ wh y := Nat.div_le_div_right (V_le h)

theorem rh_below {M : Nat} (h1 : 2 ^ 52 < M) (h2 : M < 2 ^ 53) : rh (M * 9007199254740991) 53 = M - 1 := by
  have h3 : M * 9007199254740991 / 2 ^ 53 = M - 1 := by omega
  have h4 : M * 9007199254740991 % 2 ^ 53 = 2 ^ 53 - M := by omega
  unfold rh
  rw [h3, h4, decide_eq_false (by omega), beq_eq_false_iff_ne.2 (by omega)]
  rfl

theorem rd_below0 {X M q : Nat} (hn : X ≠ 0) (hl : X.log2 = 105) (hr : rh X 53 = M - 1) : rd (X * pw (q + 1021)) 1074 ≤ q * 2 ^ 52 + (M - 1) := by
  unfold rd
  rw [pw_eq, log2_shift _ _ hn, hl, show 105 + (q + 1021) - (1074 + 52) = q by omega]
  have := rh_shift X 53 (q + 1021)
  rw [show 53 + (q + 1021) = q + 1074 by omega] at this
  rw [this, hr]
  omega

theorem rd_below1 {M q : Nat} (h1 : 2 ^ 52 < M) (h2 : M < 2 ^ 53) : rd (M * 9007199254740991 * pw (q + 1021)) 1074 ≤ q * 2 ^ 52 + (M - 1) :=
  rd_below0 (by omega) ((Nat.log2_eq_iff (by omega)).2 ⟨by omega, by omega⟩) (rh_below h1 h2)

theorem rd_below {r : Nat} (h1 : 0x3ff0000000000000 ≤ r) (h2 : r ≤ 0x43e0000000000000) : rd (V r * V 0x3fefffffffffffff) 1074 < r := by
  have hb : ¬ r < 2 ^ 52 := by omega
  rw [V_below_one, show (2 ^ 53 - 1 : Nat) = 9007199254740991 from rfl]
  by_cases ht : r % 2 ^ 52 = 0
  · have e : V r * (9007199254740991 * pw 1021) = V (r - 1) * pw 1074 := by
      have a1 : V r = 2 ^ 52 * pw (r / 2 ^ 52 - 2 + 1) := by
        rw [V_big hb, ht, Nat.add_zero, show r / 2 ^ 52 - 1 = r / 2 ^ 52 - 2 + 1 by omega]
      have a2 : V (r - 1) = 9007199254740991 * pw (r / 2 ^ 52 - 2) := by
        rw [V_at (r - 1) (r / 2 ^ 52 - 2) (2 ^ 52 - 1) (by omega) (by omega)]
      rw [a1, a2, pw_mul]
      generalize r / 2 ^ 52 - 2 = q
      generalize (9007199254740991 : Nat) = Z
      rw [Nat.mul_left_comm, ← pw_add, Nat.mul_assoc, ← pw_add]
      congr 2; omega
    rw [e, rd_V _ (by omega)]; omega
  · have e : V r * (9007199254740991 * pw 1021) = (2 ^ 52 + r % 2 ^ 52) * 9007199254740991 * pw (r / 2 ^ 52 - 1 + 1021) := by
      rw [V_big hb]
      generalize 2 ^ 52 + r % 2 ^ 52 = M
      generalize (9007199254740991 : Nat) = Z
      rw [pw_add]; ac_rfl
    rw [e]
    have := rd_below1 (M := 2 ^ 52 + r % 2 ^ 52) (q := r / 2 ^ 52 - 1) (by omega) (by omega)
    omega

theorem fi_zero : fi 0 = 0 := by
  have := rd_V (r := 0) 0 (by omega)
  unfold fi
  rw [V_zero, Nat.zero_mul] at this
  rw [Nat.zero_mul, this]

theorem pr_zero (x : Nat) : pr x 0 = 0 := by
  have := rd_V (r := 0) 1074 (by omega)
  unfold pr
  rw [V_zero, Nat.zero_mul] at this
  rw [fi_zero, V_zero, Nat.zero_mul, this]

theorem pr_lt {x n : Nat} (hx : x < 0x3ff0000000000000) (hn : 0 < n) (hn' : n < 2 ^ 63) : pr x n < fi n := by
  have h1 : 0x3ff0000000000000 ≤ fi n := by
    unfold fi
    refine le_rd ?_ (by omega)
    rw [V_one, pw_eq 0, Nat.pow_zero, Nat.mul_one]
    exact Nat.le_mul_of_pos_left _ hn
  refine Nat.lt_of_le_of_lt ?_ (rd_below h1 (fi_le hn'))
  exact rd_mono _ (Nat.mul_le_mul_left _ (V_le (by omega)))

theorem pr_wh {x n : Nat} (hx : x < 0x3ff0000000000000) (hn' : n < 2 ^ 63) : wh (pr x n) ≤ n := by
  rcases Nat.eq_zero_or_pos n with h0 | h0
  · subst h0
    rw [pr_zero]; unfold wh; rw [V_zero]; simp
  · have h := pr_lt hx h0 hn'
    have h2 : V (pr x n) < n * pw 1074 := by
      refine Nat.lt_of_not_le fun hh => ?_
      have := rd_le (X := n * pw 1074) (K := 0) (r := pr x n) (by rw [pw_eq 0, Nat.pow_zero, Nat.mul_one]; exact hh) (rd_top ..)
      unfold fi at h; omega
    unfold wh
    exact Nat.le_of_lt ((Nat.div_lt_iff_lt_mul (pw_pos _)).2 h2)

end Go.Proofs.YtieldmakbokekaaGreatDoor.Fl

/-
  Floats: quotients by powers of 2; whole numbers of at most 53 bits.
-/
namespace Go.Proofs.YtieldmakbokekaaGreatDoor.Fl
open Ieee

theorem rd_zero (K : Nat) : rd 0 K = 0 := by
  have := rd_V (r := 0) K (by omega)
  rwa [V_zero, Nat.zero_mul] at this

theorem rd_shift (X K e : Nat) : rd (X * 2 ^ e) (K + e) = rd X K := by
  rcases Nat.eq_zero_or_pos X with h | h
  · subst h; rw [Nat.zero_mul, rd_zero, rd_zero]
  · unfold rd
    rw [log2_shift _ _ (by omega), show X.log2 + e - (K + e + 52) = X.log2 - (K + 52) by omega, ← Nat.add_assoc, rh_shift]

/-- A quotient by a power of 2. -/
theorem div_two {x y t : Nat} (hx : x % 2 ^ 63 < 0x7ff0000000000000) (hy : Ieee.double.read y = .number false (2 ^ 52) (-52 + (t : Int))) :
    Ieee.double.div x y = some (Ieee.double.word (x / 2 ^ 63 % 2 == 1) (rd (V (x % 2 ^ 63)) t)) := by
  obtain ⟨m, k, e, hv, hm, _⟩ := read_num hx
  unfold Format.div
  rw [e, hy, show Ieee.double.fractionBits = 52 from rfl]
  have hl : (2 ^ 52 : Nat).log2 = 52 := by decide
  have hml : m.log2 ≤ 52 := by
    rcases Nat.eq_zero_or_pos m with h | h
    · subst h; decide
    · have := (Nat.log2_lt (n := m) (k := 53) (by omega)).2 hm; omega
  simp only [Datum.quotient, Bool.xor_false, hl]
  rw [if_neg (by decide)]
  generalize hmo : 52 + 2 + 52 - m.log2 = more
  have hmore : 52 ≤ more := by omega
  have hd : m <<< more = (m * 2 ^ (more - 52)) * 2 ^ 52 := by
    rw [Nat.shiftLeft_eq, Nat.mul_assoc, ← Nat.pow_add]; congr 2; omega
  rw [hd, Nat.mul_div_cancel _ (by decide), Nat.mul_mod_left]
  simp only [Option.map_some, Format.write, bne_self_eq_false, Bool.toNat_false, Nat.add_zero]
  rw [nearest_rd _ _ _ (t + (more - 51)) k (by omega)]
  refine congrArg some (congrArg (Ieee.double.word _) ?_)
  have : 2 * (m * 2 ^ (more - 52)) * pw k = V (x % 2 ^ 63) * 2 ^ (more - 51) := by
    rw [← hv, pw_eq, show more - 51 = (more - 52) + 1 by omega, Nat.pow_succ]
    ac_rfl
  rw [this, rd_shift]

theorem read_one : Ieee.double.read 4607182418800017408 = .number false (2 ^ 52) (-52 + ((0 : Nat) : Int)) := by decide +kernel
theorem read_two : Ieee.double.read 4611686018427387904 = .number false (2 ^ 52) (-52 + ((1 : Nat) : Int)) := by decide +kernel

/-- A number by 1 is itself. -/
theorem div_one {x : Nat} (hl : x < 0x7ff0000000000000) : Ieee.double.div x 4607182418800017408 = some x := by
  rw [div_two (by omega) read_one, show x / 2 ^ 63 % 2 = 0 by omega, show x % 2 ^ 63 = x by omega]
  have := rd_V (r := x) 0 (by omega)
  rw [pw_eq 0, Nat.pow_zero, Nat.mul_one] at this
  rw [this]; rfl

theorem rep' (e m : Nat) (h : m < 2 ^ 53) : ∃ r, V r = m * pw e := by
  obtain ⟨r, hr⟩ := rep e m h
  exact ⟨r, by rw [hr, pw_eq]⟩

/-- A whole number of at most 53 bits is itself. -/
theorem fi_exact {n : Nat} (h : n < 2 ^ 53) : V (fi n) = n * pw 1074 := by
  obtain ⟨r, hr⟩ := rep' 1074 n h
  have hle : r ≤ 0x7ff0000000000000 := by
    refine Nat.le_of_not_lt fun hlt => ?_
    have h1 := V_lt hlt
    rw [V_inf, hr, show (2098 : Nat) = 1024 + 1074 from rfl, pw_add] at h1
    have h2 : n ≤ pw 1024 := Nat.le_trans (Nat.le_of_lt h) (by rw [← pw_eq]; exact pw_le (by omega))
    exact absurd h1 (Nat.not_lt.2 (Nat.mul_le_mul_right _ h2))
  have := rd_V (r := r) 0 hle
  rw [pw_eq 0, Nat.pow_zero, Nat.mul_one, hr] at this
  unfold fi
  rw [this, hr]

theorem wh_fi {n : Nat} (h : n < 2 ^ 53) : wh (fi n) = n := by
  unfold wh; rw [fi_exact h, Nat.mul_div_cancel _ (pw_pos _)]

end Go.Proofs.YtieldmakbokekaaGreatDoor.Fl
