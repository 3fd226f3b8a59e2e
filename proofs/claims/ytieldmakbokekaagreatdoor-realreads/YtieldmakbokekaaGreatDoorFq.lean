/-
  Floats: quotients by powers of 2; whole numbers of at most 53 bits.
-/
import Derived.Test.YtieldmakbokekaaGreatDoorFp
namespace Go.Proofs.YtieldmakbokekaaGreatDoor.Fl
open Ieee

theorem rd_zero (K : Nat) : rd 0 K = 0 := by
  have := rd_V (r := 0) K (by omega)
  rwa [V_zero, Nat.zero_mul] at this

theorem rd_shift (X K e : Nat) : rd (X * 2 ^ e) (K + e) = rd X K := by
  rcases Nat.eq_zero_or_pos X with h | h
  · subst h; rw [Nat.zero_mul, rd_zero, rd_zero]
  · unfold rd
    rw [log2_shift _ _ (by omega), show X.log2 + e - (K + e + 52) = X.log2 - (K + 52) by omega, ← Nat.add_assoc, rh_shift]

/-- A quotient by a power of 2. -/
theorem div_two {x y t : Nat} (hx : x % 2 ^ 63 < 0x7ff0000000000000) (hy : Ieee.double.read y = .number false (2 ^ 52) (-52 + (t : Int))) :
    Ieee.double.div x y = some (Ieee.double.word (x / 2 ^ 63 % 2 == 1) (rd (V (x % 2 ^ 63)) t)) := by
  obtain ⟨m, k, e, hv, hm, _⟩ := read_num hx
  unfold Format.div
  rw [e, hy, show Ieee.double.fractionBits = 52 from rfl]
  have hl : (2 ^ 52 : Nat).log2 = 52 := by decide
  have hml : m.log2 ≤ 52 := by
    rcases Nat.eq_zero_or_pos m with h | h
    · subst h; decide
    · have := (Nat.log2_lt (n := m) (k := 53) (by omega)).2 hm; omega
  simp only [Datum.quotient, Bool.xor_false, hl]
  rw [if_neg (by decide)]
  generalize hmo : 52 + 2 + 52 - m.log2 = more
  have hmore : 52 ≤ more := by omega
  have hd : m <<< more = (m * 2 ^ (more - 52)) * 2 ^ 52 := by
    rw [Nat.shiftLeft_eq, Nat.mul_assoc, ← Nat.pow_add]; congr 2; omega
  rw [hd, Nat.mul_div_cancel _ (by decide), Nat.mul_mod_left]
  simp only [Option.map_some, Format.write, bne_self_eq_false, Bool.toNat_false, Nat.add_zero]
  rw [nearest_rd _ _ _ (t + (more - 51)) k (by omega)]
  refine congrArg some (congrArg (Ieee.double.word _) ?_)
  have : 2 * (m * 2 ^ (more - 52)) * pw k = V (x % 2 ^ 63) * 2 ^ (more - 51) := by
    rw [← hv, pw_eq, show more - 51 = (more - 52) + 1 by omega, Nat.pow_succ]
    ac_rfl
  rw [this, rd_shift]

theorem read_one : Ieee.double.read 4607182418800017408 = .number false (2 ^ 52) (-52 + ((0 : Nat) : Int)) := by decide +kernel
theorem read_two : Ieee.double.read 4611686018427387904 = .number false (2 ^ 52) (-52 + ((1 : Nat) : Int)) := by decide +kernel

/-- A number by 1 is itself. -/
theorem div_one {x : Nat} (hl : x < 0x7ff0000000000000) : Ieee.double.div x 4607182418800017408 = some x := by
  rw [div_two (by omega) read_one, show x / 2 ^ 63 % 2 = 0 by omega, show x % 2 ^ 63 = x by omega]
  have := rd_V (r := x) 0 (by omega)
  rw [pw_eq 0, Nat.pow_zero, Nat.mul_one] at this
  rw [this]; rfl

theorem rep' (e m : Nat) (h : m < 2 ^ 53) : ∃ r, V r = m * pw e := by
  obtain ⟨r, hr⟩ := rep e m h
  exact ⟨r, by rw [hr, pw_eq]⟩

/-- A whole number of at most 53 bits is itself. -/
theorem fi_exact {n : Nat} (h : n < 2 ^ 53) : V (fi n) = n * pw 1074 := by
  obtain ⟨r, hr⟩ := rep' 1074 n h
  have hle : r ≤ 0x7ff0000000000000 := by
    refine Nat.le_of_not_lt fun hlt => ?_
    have h1 := V_lt hlt
    rw [V_inf, hr, show (2098 : Nat) = 1024 + 1074 from rfl, pw_add] at h1
    have h2 : n ≤ pw 1024 := Nat.le_trans (Nat.le_of_lt h) (by rw [← pw_eq]; exact pw_le (by omega))
    exact absurd h1 (Nat.not_lt.2 (Nat.mul_le_mul_right _ h2))
  have := rd_V (r := r) 0 hle
  rw [pw_eq 0, Nat.pow_zero, Nat.mul_one, hr] at this
  unfold fi
  rw [this, hr]

theorem wh_fi {n : Nat} (h : n < 2 ^ 53) : wh (fi n) = n := by
  unfold wh; rw [fi_exact h, Nat.mul_div_cancel _ (pw_pos _)]

end Go.Proofs.YtieldmakbokekaaGreatDoor.Fl
