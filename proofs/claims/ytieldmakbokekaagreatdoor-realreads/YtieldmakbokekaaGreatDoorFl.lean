/-
  Floats: the order of floats is that of their rungs.
-/
import Derived.Laws.FloatArith
namespace Go.Proofs.YtieldmakbokekaaGreatDoor.Fl
open Ieee

theorem b52 : Ieee.double.binade = 2 ^ 52 := rfl
theorem iR : Ieee.double.infRung = 0x7ff0000000000000 := by decide +kernel
theorem sW : Ieee.double.signWeight = 2 ^ 63 := rfl
theorem lP : Ieee.double.leastPlace = -1074 := by decide +kernel

/-- The size of a rung, in units of the least place. -/
def V (r : Nat) : Nat := if r < 2 ^ 52 then r else (2 ^ 52 + r % 2 ^ 52) * 2 ^ (r / 2 ^ 52 - 1)

theorem V_succ (r : Nat) : V r < V (r + 1) := by
  unfold V
  by_cases h : r + 1 < 2 ^ 52
  · rw [if_pos (by omega), if_pos h]; omega
  · rw [if_neg h]
    by_cases h2 : r < 2 ^ 52
    · rw [if_pos h2]
      have : r + 1 = 2 ^ 52 := by omega
      rw [this]; simp; omega
    · rw [if_neg h2]
      by_cases h3 : r % 2 ^ 52 + 1 < 2 ^ 52
      · have e1 : (r + 1) / 2 ^ 52 = r / 2 ^ 52 := by omega
        have e2 : (r + 1) % 2 ^ 52 = r % 2 ^ 52 + 1 := by omega
        rw [e1, e2]
        exact Nat.mul_lt_mul_of_pos_right (by omega) (Nat.two_pow_pos _)
      · have e1 : (r + 1) / 2 ^ 52 - 1 = (r / 2 ^ 52 - 1) + 1 := by omega
        have e2 : (r + 1) % 2 ^ 52 = 0 := by omega
        rw [e1, e2, show 2 ^ (r / 2 ^ 52 - 1 + 1) = 2 ^ (r / 2 ^ 52 - 1) * 2 from Nat.pow_succ ..]
        have h4 : r % 2 ^ 52 = 2 ^ 52 - 1 := by omega
        rw [h4]
        have := Nat.two_pow_pos (r / 2 ^ 52 - 1)
        generalize 2 ^ (r / 2 ^ 52 - 1) = z at *
        omega

theorem V_lt {r s : Nat} (h : r < s) : V r < V s := by
  induction s with
  | zero => omega
  | succ s ih =>
    rcases Nat.lt_or_ge r s with h2 | h2
    · exact Nat.lt_trans (ih h2) (V_succ s)
    · have : r = s := by omega
      subst this; exact V_succ r

theorem V_le {r s : Nat} (h : r ≤ s) : V r ≤ V s := by
  rcases Nat.eq_or_lt_of_le h with h | h
  · subst h; exact Nat.le_refl _
  · exact Nat.le_of_lt (V_lt h)

theorem V_inj {r s : Nat} (h : V r = V s) : r = s := by
  rcases Nat.lt_trichotomy r s with h2 | h2 | h2
  · have := V_lt h2; omega
  · exact h2
  · have := V_lt h2; omega

theorem V_zero : V 0 = 0 := by simp [V]

/-- Is it a NaN? -/
def nanB (b : Nat) : Bool := decide (0x7ff0000000000000 < b % 2 ^ 63)
@[reducible] def Nan (b : Nat) : Prop := nanB b = true
theorem nan_iff (b : Nat) : Nan b ↔ 0x7ff0000000000000 < b % 2 ^ 63 := by unfold Nan nanB; exact decide_eq_true_iff

theorem read_num {b : Nat} (h : b % 2 ^ 63 < 0x7ff0000000000000) :
    ∃ m k : Nat, Ieee.double.read b = .number (b / 2 ^ 63 % 2 == 1) m (-1074 + (k : Int)) ∧ m * 2 ^ k = V (b % 2 ^ 63) ∧ m < 2 ^ 53 ∧ k = (b % 2 ^ 63) / 2 ^ 52 - 1 := by
  unfold Format.read V
  rw [b52, iR, sW, lP]
  by_cases h1 : b % 2 ^ 63 < 2 ^ 52
  · refine ⟨b % 2 ^ 63, 0, ?_, ?_, by omega, by omega⟩
    · simp only [h1, if_true]; rfl
    · simp [h1]
  · refine ⟨2 ^ 52 + b % 2 ^ 63 % 2 ^ 52, b % 2 ^ 63 / 2 ^ 52 - 1, ?_, ?_, by omega, rfl⟩
    · simp only [h1, h, if_true, if_false]
    · rw [if_neg h1]

theorem read_inf {b : Nat} (h : b % 2 ^ 63 = 0x7ff0000000000000) : Ieee.double.read b = .infinity (b / 2 ^ 63 % 2 == 1) := by
  unfold Format.read
  rw [b52, iR, sW, lP]
  simp [h]

theorem read_nan {b : Nat} (h : Nan b) : ∃ f, Ieee.double.read b = .nan (b / 2 ^ 63 % 2 == 1) f := by
  rw [nan_iff] at h
  unfold Format.read
  rw [b52, iR, sW, lP]
  refine ⟨b % 2 ^ 63 - 0x7ff0000000000000, ?_⟩
  simp only []
  rw [if_neg (by omega), if_neg (by omega), if_neg (by omega)]

/-- Its place on the line: the rung, with the sign. -/
def sr (b : Nat) : Int := if b / 2 ^ 63 % 2 = 1 then -((b % 2 ^ 63 : Nat) : Int) else ((b % 2 ^ 63 : Nat) : Int)

/-- Its size with the sign. -/
def sv (b : Nat) : Int := if b / 2 ^ 63 % 2 = 1 then -((V (b % 2 ^ 63) : Nat) : Int) else ((V (b % 2 ^ 63) : Nat) : Int)

theorem sv_lt {x y : Nat} (h : sr x < sr y) : sv x < sv y := by
  unfold sr at h; unfold sv
  have a := V_zero
  split at h <;> split at h <;> rename_i h1 h2 <;> simp only [h1, h2, if_true, if_false]
  · have := V_lt (r := y % 2 ^ 63) (s := x % 2 ^ 63) (by omega); omega
  · rcases Nat.eq_zero_or_pos (x % 2 ^ 63) with h0 | h0
    · have := V_lt (r := 0) (s := y % 2 ^ 63) (by omega); rw [h0]; omega
    · have := V_lt h0; omega
  · omega
  · have := V_lt (r := x % 2 ^ 63) (s := y % 2 ^ 63) (by omega); omega

theorem sv_eq {x y : Nat} (h : sr x = sr y) : sv x = sv y := by
  unfold sr at h; unfold sv
  have a := V_zero
  split at h <;> split at h <;> rename_i h1 h2 <;> simp only [h1, h2, if_true, if_false]
  · have : x % 2 ^ 63 = y % 2 ^ 63 := by omega
    rw [this]
  · have : x % 2 ^ 63 = 0 := by omega
    have h' : y % 2 ^ 63 = 0 := by omega
    rw [this, h']; omega
  · have : x % 2 ^ 63 = 0 := by omega
    have h' : y % 2 ^ 63 = 0 := by omega
    rw [this, h']; omega
  · have : x % 2 ^ 63 = y % 2 ^ 63 := by omega
    rw [this]

theorem cmp_of {a b : Int} {c d : Int} (h1 : a < b → c < d) (h2 : a = b → c = d) (h3 : b < a → d < c) : compare c d = compare a b := by
  rcases Int.lt_trichotomy a b with h | h | h
  · rw [Int.compare_eq_lt.2 h, Int.compare_eq_lt.2 (h1 h)]
  · rw [Int.compare_eq_eq.2 h, Int.compare_eq_eq.2 (h2 h)]
  · rw [Int.compare_eq_gt.2 h, Int.compare_eq_gt.2 (h3 h)]

theorem signed_eq (s : Bool) (m k : Nat) : signed s m k = if s = true then -((m * 2 ^ k : Nat) : Int) else ((m * 2 ^ k : Nat) : Int) := by
  unfold signed; rw [Nat.shiftLeft_eq]

/-- THE ORDER OF FLOATS IS THAT OF THEIR RUNGS. -/
theorem order_rung {x y : Nat} (hx : ¬ Nan x) (hy : ¬ Nan y) : Ieee.double.order x y = some (compare (sr x) (sr y)) := by
  rw [nan_iff] at hx hy
  have px : x % 2 ^ 63 < 2 ^ 63 := by omega
  have py : y % 2 ^ 63 < 2 ^ 63 := by omega
  unfold Format.order
  by_cases ix : x % 2 ^ 63 = 0x7ff0000000000000
  · rw [read_inf ix]
    by_cases iy : y % 2 ^ 63 = 0x7ff0000000000000
    · rw [read_inf iy]
      simp only [Datum.order, sr, ix, iy]
      rw [show (x / 2 ^ 63 % 2 == 1) = decide (x / 2 ^ 63 % 2 = 1) from rfl, show (y / 2 ^ 63 % 2 == 1) = decide (y / 2 ^ 63 % 2 = 1) from rfl]
      by_cases sx : x / 2 ^ 63 % 2 = 1 <;> by_cases sy : y / 2 ^ 63 % 2 = 1 <;> simp only [sx, sy, if_true, if_false, decide_true, decide_false] <;> decide
    · obtain ⟨m, k, e, _⟩ := read_num (b := y) (by omega)
      rw [e]
      simp only [Datum.order, sr, ix]
      by_cases sx : x / 2 ^ 63 % 2 = 1
      · simp only [sx, if_true]
        rw [Int.compare_eq_lt.2 (by split <;> omega)]; rfl
      · simp only [sx, if_false]
        rw [Int.compare_eq_gt.2 (by split <;> omega)]; simp [sx]
  · obtain ⟨m, k, e, hv, _⟩ := read_num (b := x) (by omega)
    by_cases iy : y % 2 ^ 63 = 0x7ff0000000000000
    · rw [read_inf iy, e]
      simp only [Datum.order, sr, iy]
      by_cases sy : y / 2 ^ 63 % 2 = 1
      · simp only [sy, if_true]
        rw [Int.compare_eq_gt.2 (by split <;> omega)]; rfl
      · simp only [sy, if_false]
        rw [Int.compare_eq_lt.2 (by split <;> omega)]; simp [sy]
    · obtain ⟨n, l, e', hv', _⟩ := read_num (b := y) (by omega)
      rw [e, e']
      simp only [Datum.order, signed_eq]
      congr 1
      have r1 : (-1074 + (k : Int) - min (-1074 + (k : Int)) (-1074 + (l : Int))).toNat = k - min k l := by omega
      have r2 : (-1074 + (l : Int) - min (-1074 + (k : Int)) (-1074 + (l : Int))).toNat = l - min k l := by omega
      rw [r1, r2]
      have q1 : m * 2 ^ (k - min k l) * 2 ^ (min k l) = V (x % 2 ^ 63) := by
        rw [Nat.mul_assoc, ← Nat.pow_add, ← hv]; congr 2; omega
      have q2 : n * 2 ^ (l - min k l) * 2 ^ (min k l) = V (y % 2 ^ 63) := by
        rw [Nat.mul_assoc, ← Nat.pow_add, ← hv']; congr 2; omega
      have pc := Nat.two_pow_pos (min k l)
      generalize m * 2 ^ (k - min k l) = A at *
      generalize n * 2 ^ (l - min k l) = B at *
      generalize 2 ^ (min k l) = C at *
      have up : ∀ a b : Int, a * C < b * C → a < b := fun a b h => Int.lt_of_mul_lt_mul_right h (by omega)
      have eu : ∀ a b : Int, a * C = b * C → a = b := fun a b h => Int.eq_of_mul_eq_mul_right (by omega) h
      have f1 : (if (x / 2 ^ 63 % 2 == 1) = true then -(A : Int) else A) * C = sv x := by
        unfold sv; rw [← q1]; by_cases s : x / 2 ^ 63 % 2 = 1 <;> simp [s, Int.neg_mul]
      have f2 : (if (y / 2 ^ 63 % 2 == 1) = true then -(B : Int) else B) * C = sv y := by
        unfold sv; rw [← q2]; by_cases s : y / 2 ^ 63 % 2 = 1 <;> simp [s, Int.neg_mul]
      refine cmp_of ?_ ?_ ?_
      · intro h; refine up _ _ ?_; rw [f1, f2]; exact sv_lt h
      · intro h; refine eu _ _ ?_; rw [f1, f2]; exact sv_eq h
      · intro h; refine up _ _ ?_; rw [f1, f2]; exact sv_lt h

theorem order_nan {x y : Nat} (h : Nan x ∨ Nan y) : Ieee.double.order x y = none := by
  unfold Format.order
  rcases h with h | h
  · obtain ⟨f, e⟩ := read_nan h
    rw [e]; rfl
  · obtain ⟨f, e⟩ := read_nan h
    rw [e]; cases Ieee.double.read x <;> rfl

theorem lt_iff (x y : Nat) : (Ieee.double.order x y == some .lt) = decide (¬ Nan x ∧ ¬ Nan y ∧ sr x < sr y) := by
  by_cases hx : Nan x
  · rw [order_nan (.inl hx)]; simp [hx]
  · by_cases hy : Nan y
    · rw [order_nan (.inr hy)]; simp [hy]
    · rw [order_rung hx hy]
      rcases Int.lt_trichotomy (sr x) (sr y) with h | h | h
      · rw [Int.compare_eq_lt.2 h]; simp [hx, hy, h]
      · rw [Int.compare_eq_eq.2 h]; simp [hx, hy, h]
      · rw [Int.compare_eq_gt.2 h]; simp [hx, hy]; omega

theorem gt_iff (x y : Nat) : (Ieee.double.order x y == some .gt) = decide (¬ Nan x ∧ ¬ Nan y ∧ sr y < sr x) := by
  by_cases hx : Nan x
  · rw [order_nan (.inl hx)]; simp [hx]
  · by_cases hy : Nan y
    · rw [order_nan (.inr hy)]; simp [hy]
    · rw [order_rung hx hy]
      rcases Int.lt_trichotomy (sr x) (sr y) with h | h | h
      · rw [Int.compare_eq_lt.2 h]; simp [hx, hy]; omega
      · rw [Int.compare_eq_eq.2 h]; simp [hx, hy, h]
      · rw [Int.compare_eq_gt.2 h]; simp [hx, hy, h]

theorem eq_iff (x y : Nat) : (Ieee.double.order x y == some .eq) = decide (¬ Nan x ∧ ¬ Nan y ∧ sr x = sr y) := by
  by_cases hx : Nan x
  · rw [order_nan (.inl hx)]; simp [hx]
  · by_cases hy : Nan y
    · rw [order_nan (.inr hy)]; simp [hy]
    · rw [order_rung hx hy]
      rcases Int.lt_trichotomy (sr x) (sr y) with h | h | h
      · rw [Int.compare_eq_lt.2 h]; simp [hx, hy]; omega
      · rw [Int.compare_eq_eq.2 h]; simp [hx, hy, h]
      · rw [Int.compare_eq_gt.2 h]; simp [hx, hy]; omega

theorem ne_iff (x y : Nat) : (Ieee.double.order x y != some .eq) = decide (¬ (¬ Nan x ∧ ¬ Nan y ∧ sr x = sr y)) := by
  rw [bne, eq_iff, decide_not]

end Go.Proofs.YtieldmakbokekaaGreatDoor.Fl
