/-
  Values: sums, differences, products, quotients of floats, each NaN one.
-/
import Derived.Test.YtieldmakbokekaaGreatDoorDe
import Derived.Test.YtieldmakbokekaaGreatDoorFq
namespace Go.Proofs.YtieldmakbokekaaGreatDoor.Oct
open Go.RowKit
open Go.Proofs.YtieldmakbokekaaGreatDoor.Fl

def Ar (op : BinOp) : Prop := op = .add ∨ op = .sub ∨ op = .mul ∨ op = .quo

/-- What an operator answers, each NaN by one. -/
def opN (op : BinOp) (x y : Nat) : Nat := nb ((floatBits op .f64 x y).getD 0x7ff8000000000001)
def addN (x y : Nat) : Nat := opN .add x y
def subN (x y : Nat) : Nat := opN .sub x y
def mulN (x y : Nat) : Nat := opN .mul x y
def quoN (x y : Nat) : Nat := opN .quo x y
def negN (x : Nat) : Nat := if Nan x then 0x7ff8000000000001 else if 2 ^ 63 ≤ x then x - 2 ^ 63 else x + 2 ^ 63
def absN (x : Nat) : Nat := if Nan x then 0x7ff8000000000001 else x % 2 ^ 63
def pick (o : Int) (x y : Nat) : Nat := if c3 (rk x) (rk y) = o then x else y

theorem op_nan {op : BinOp} (ho : Ar op) {x y : Nat} (h : Nan x ∨ Nan y) : floatBits op .f64 x y = none := by
  have hx : ∀ {b : Nat}, Nan b → ∃ f, FloatKind.f64.format.read b = .nan (b / 2 ^ 63 % 2 == 1) f := fun h => read_nan h
  rcases ho with rfl | rfl | rfl | rfl
  · unfold floatBits; exact add_nan h
  · unfold floatBits; simp only
    unfold Ieee.Format.sub
    rcases h with h | h
    · obtain ⟨f, e⟩ := hx h
      rw [e]; rfl
    · obtain ⟨f, e⟩ := hx h
      rw [e]; cases FloatKind.f64.format.read x <;> rfl
  · unfold floatBits; simp only
    unfold Ieee.Format.mul
    rcases h with h | h
    · obtain ⟨f, e⟩ := hx h
      rw [e]; rfl
    · obtain ⟨f, e⟩ := hx h
      rw [e]; cases FloatKind.f64.format.read x <;> rfl
  · unfold floatBits; simp only
    unfold Ieee.Format.div
    rcases h with h | h
    · obtain ⟨f, e⟩ := hx h
      rw [e]; rfl
    · obtain ⟨f, e⟩ := hx h
      rw [e]; cases FloatKind.f64.format.read x <;> rfl

theorem op_lt {op : BinOp} (ho : Ar op) {x y r : Nat} (h : floatBits op .f64 x y = some r) : r < 2 ^ 64 := by
  unfold floatBits at h
  rcases ho with rfl | rfl | rfl | rfl
  · exact Ieee.Format.add_lt _ h
  · exact Ieee.Format.sub_lt _ h
  · exact Ieee.Format.mul_lt _ h
  · exact Ieee.Format.div_lt _ h

theorem nb_nb (x : Nat) : nb (nb x) = nb x := by
  by_cases h : Nan x
  · rw [nb_nan h, nb_nan nan_can]
  · rw [nb_num h, nb_num h]

theorem run_op {op : BinOp} (ho : Ar op) (x y : Nat) (w : World) :
    ∃ r w', Below w.heap.size w w' ∧ r < 2 ^ 64 ∧ nb r = opN op (nb x) (nb y) ∧ (binOp op 22 (.float .f64 x) (.float .f64 y)).run Tryz.prog w = .ok (.float .f64 r) w' := by
  cases h : floatBits op .f64 x y with
  | some r =>
    have hx : ¬ Nan x := fun hn => by rw [op_nan ho (.inl hn)] at h; cases h
    have hy : ¬ Nan y := fun hn => by rw [op_nan ho (.inr hn)] at h; cases h
    refine ⟨r, w, Below.refl _ w, op_lt ho h, ?_, run_float_arith w op 22 .f64 x y r h⟩
    rw [nb_num hx, nb_num hy]
    unfold opN; rw [h]; rfl
  | none =>
    obtain ⟨r, h1, h2, h3⟩ := run_nan op 22 x y w ho h
    refine ⟨r, w.drew, (Below.refl _ w).drew, h2, ?_, h3⟩
    have : floatBits op .f64 (nb x) (nb y) = none := by
      by_cases hx : Nan x
      · exact op_nan ho (.inl (by rw [nb_nan hx]; exact nan_can))
      · by_cases hy : Nan y
        · exact op_nan ho (.inr (by rw [nb_nan hy]; exact nan_can))
        · rw [nb_num hx, nb_num hy]; exact h
    unfold opN; rw [this, nb_nan h1]; exact (nb_nan nan_can).symm

theorem xor_top (n : Nat) (h : n < 2 ^ 64) : n ^^^ 2 ^ 63 = if 2 ^ 63 ≤ n then n - 2 ^ 63 else n + 2 ^ 63 := by
  by_cases hn : 2 ^ 63 ≤ n
  · rw [if_pos hn]
    have e : n = 2 ^ 63 * 1 + (n - 2 ^ 63) := by omega
    have hl : n - 2 ^ 63 < 2 ^ 63 := by omega
    generalize n - 2 ^ 63 = m at *
    subst e
    rw [Nat.two_pow_add_eq_or_of_lt hl 1]
    refine Nat.eq_of_testBit_eq fun i => ?_
    rw [Nat.testBit_xor, Nat.testBit_or, Nat.mul_one, Nat.testBit_two_pow]
    by_cases hi : 63 = i
    · subst hi; rw [Nat.testBit_lt_two_pow hl]; simp
    · simp [hi]
  · rw [if_neg hn]
    have hl : n < 2 ^ 63 := by omega
    rw [Nat.add_comm, show 2 ^ 63 + n = 2 ^ 63 * 1 + n by omega, Nat.two_pow_add_eq_or_of_lt hl 1]
    refine Nat.eq_of_testBit_eq fun i => ?_
    rw [Nat.testBit_xor, Nat.testBit_or, Nat.mul_one, Nat.testBit_two_pow]
    by_cases hi : 63 = i
    · subst hi; rw [Nat.testBit_lt_two_pow hl]; simp
    · simp [hi]

theorem neg_val {x : Nat} (h : x < 2 ^ 64) : Op.negFloat .f64 x < 2 ^ 64 ∧ nb (Op.negFloat .f64 x) = negN (nb x) := by
  have e : Op.negFloat .f64 x = if 2 ^ 63 ≤ x then x - 2 ^ 63 else x + 2 ^ 63 := xor_top x h
  have hm : (if 2 ^ 63 ≤ x then x - 2 ^ 63 else x + 2 ^ 63) % 2 ^ 63 = x % 2 ^ 63 := by split <;> omega
  rw [e]
  refine ⟨by split <;> omega, ?_⟩
  by_cases hn : Nan x
  · rw [nb_nan (a := x) hn, nb_nan]
    · unfold negN; rw [if_pos nan_can]
    · rw [nan_iff, hm, ← nan_iff]; exact hn
  · rw [nb_num (a := x) hn, nb_num]
    · unfold negN; rw [if_neg hn]
    · rw [nan_iff, hm, ← nan_iff]; exact hn

theorem abs_val (x : Nat) : nb (x % 2 ^ 63) = absN (nb x) := by
  by_cases hn : Nan x
  · rw [nb_nan (a := x) hn, nb_nan]
    · unfold absN; rw [if_pos nan_can]
    · rw [nan_iff, Nat.mod_mod, ← nan_iff]; exact hn
  · rw [nb_num (a := x) hn, nb_num]
    · unfold absN; rw [if_neg hn]
    · rw [nan_iff, Nat.mod_mod, ← nan_iff]; exact hn

theorem rk_nb (x : Nat) : rk (nb x) = rk x := by unfold rk; rw [nb_nb]

/-- The number that a text of digits says, perhaps with a point. -/
def dA (l : List UInt8) : List UInt8 := l.takeWhile (· != 46)
def dB (l : List UInt8) : List UInt8 := (l.dropWhile (· != 46)).drop 1
def dgU (c : UInt8) : Bool := dgB c.toNat
def dOk (l : List UInt8) : Bool :=
  decide ((dA l).length + (dB l).length ≤ 15) && (!(dA l).isEmpty && (dA l).all dgU) && (!l.contains 46 || (!(dB l).isEmpty && (dB l).all dgU)) && !(decide (1 < (dA l).length) && (dA l).head? == some 48)
def dV (l : List UInt8) : Nat := opN .quo (floatOfInt .f64 (num ((dA l ++ dB l).map UInt8.toNat) (dA l ++ dB l).length : Nat)) (floatOfInt .f64 (10 ^ (dB l).length : Nat))
def dcm (l : List UInt8) : Option Nat := if dOk l then some (dV l) else none

end Go.Proofs.YtieldmakbokekaaGreatDoor.Oct
