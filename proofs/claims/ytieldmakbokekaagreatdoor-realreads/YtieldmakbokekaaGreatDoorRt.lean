/-
  The document's Show, plainly: its shifting, its whole numbers.
-/
import Derived.Test.YtieldmakbokekaaGreatDoorSh
namespace Go.Proofs.YtieldmakbokekaaGreatDoor.Oct
open Go.RowKit
open Go.Proofs.YtieldmakbokekaaGreatDoor.Fl

/-- A number below the normal ones, shifted up by j. -/
theorem fx_shift {a j : Nat} (h : a < 4503599627370496) (hj : j ≤ 52) (h1 : 4503599627370496 ≤ a * 2 ^ j) (h2 : a * 2 ^ j < 9007199254740992) :
    fx a = (53 - j) * 4503599627370496 + (a * 2 ^ j - 4503599627370496) := by
  apply V_inj
  rw [fx_V h, V_at _ (52 - j) (a * 2 ^ j - 4503599627370496) (by rw [show 53 - j = 52 - j + 1 by omega]) (by omega), show 2 ^ 52 + (a * 2 ^ j - 4503599627370496) = a * 2 ^ j by omega, pw_eq, Nat.mul_assoc, ← Nat.pow_add, show j + (52 - j) = 52 by omega]

theorem fb_shift {a j : Nat} (h : a < 4503599627370496) (hj : j ≤ 52) (h1 : 4503599627370496 ≤ a * 2 ^ j) (h2 : a * 2 ^ j < 9007199254740992) :
    4503599627370496 + fb a % 4503599627370496 = a * 2 ^ j ∧ fk a + (fb a / 4503599627370496 : Nat) = 1 - (j : Int) := by
  unfold fb fk
  rw [if_pos h, if_pos h, fx_shift h hj h1 h2]
  generalize a * 2 ^ j = M at h1 h2
  omega

theorem fb_norm {a : Nat} (h : 4503599627370496 ≤ a) : fb a = a ∧ fk a = 0 := by
  unfold fb fk
  rw [if_neg (by omega), if_neg (by omega)]
  exact ⟨rfl, rfl⟩

/-- A number is whole if its places behind the point are 0. -/
theorem whole_dvd {a : Nat} (ha : a < 0x7ff0000000000000) : (fi (wh a) = a) ↔ V a % pw 1074 = 0 := by
  have h := wh_exact ha
  have hd : wh a = V a / pw 1074 := rfl
  constructor
  · intro e
    rw [e] at h
    rw [h]
    exact Nat.mul_mod_left _ _
  · intro e
    apply V_inj
    rw [h, hd]
    exact Nat.div_mul_cancel (Nat.dvd_of_mod_eq_zero e)

/-- Of a normal number with the exponent E: the parts that the document asks for. -/
theorem whole_parts {a E M : Nat} (hE : 1 ≤ E) (hE2 : E < 2047) (hM1 : 4503599627370496 ≤ M) (hM2 : M < 9007199254740992) (e : a = E * 4503599627370496 + (M - 4503599627370496)) :
    V a = M * pw (E - 1) := by
  rw [V_at a (E - 1) (M - 4503599627370496) (by rw [e, show E - 1 + 1 = E by omega]) (by omega), show 2 ^ 52 + (M - 4503599627370496) = M by omega]

theorem whole_low {a E M : Nat} (hE : 1 ≤ E) (hE2 : E < 1023) (hM1 : 4503599627370496 ≤ M) (hM2 : M < 9007199254740992) (e : a = E * 4503599627370496 + (M - 4503599627370496)) : ¬ fi (wh a) = a := by
  rw [whole_dvd (by omega), whole_parts hE (by omega) hM1 hM2 e]
  have h1 : M * pw (E - 1) < pw 1074 := by
    have h2 : pw 1074 = 2 ^ 53 * pw 1021 := by rw [pw_mul]
    have h3 : pw (E - 1) ≤ pw 1021 := pw_le (by omega)
    rw [h2]
    exact Nat.lt_of_lt_of_le (Nat.mul_lt_mul_of_pos_right (show M < 2 ^ 53 by omega) (pw_pos _)) (Nat.mul_le_mul_left _ h3)
  rw [Nat.mod_eq_of_lt h1]
  have h4 := pw_pos (E - 1)
  have : 0 < M * pw (E - 1) := Nat.mul_pos (by omega) h4
  omega

theorem whole_mid {a M k : Nat} (hk : k ≤ 52) (hM1 : 4503599627370496 ≤ M) (hM2 : M < 9007199254740992) (e : a = (1023 + k) * 4503599627370496 + (M - 4503599627370496)) :
    (fi (wh a) = a ↔ M % 2 ^ (52 - k) = 0) ∧ wh a = M / 2 ^ (52 - k) := by
  have hV := whole_parts (a := a) (E := 1023 + k) (by omega) (by omega) hM1 hM2 e
  have hp : pw 1074 = 2 ^ (52 - k) * pw (1023 + k - 1) := by rw [pw_mul]; congr 1; omega
  have hpos := pw_pos (1023 + k - 1)
  refine ⟨?_, ?_⟩
  · rw [whole_dvd (by omega), hV, hp, Nat.mul_mod_mul_right]
    constructor
    · intro h
      rcases Nat.mul_eq_zero.1 h with h | h
      · exact h
      · omega
    · intro h; rw [h, Nat.zero_mul]
  · unfold wh
    rw [hV, hp, Nat.mul_div_mul_right _ _ hpos]

theorem whole_size {a : Nat} (ha : a < 0x7ff0000000000000) (hw : fi (wh a) = a) : a < 4831355200913801216 ↔ wh a < 1000000000000000 := by
  have h := wh_exact ha
  rw [hw] at h
  have hb : V 4831355200913801216 = 1000000000000000 * pw 1074 := by
    rw [V_at 4831355200913801216 1071 (8000000000000000 - 4503599627370496) (by decide) (by decide), show 2 ^ 52 + (8000000000000000 - 4503599627370496) = 1000000000000000 * 2 ^ 3 by decide, Nat.mul_assoc, pw_mul]
  have hp := pw_pos 1074
  constructor
  · intro g
    have := V_lt g
    rw [h, hb] at this
    exact Nat.lt_of_mul_lt_mul_right this
  · intro g
    refine Nat.lt_of_not_le fun hge => ?_
    have := V_le hge
    rw [h, hb] at this
    have := Nat.le_of_mul_le_mul_right this hp
    omega

end Go.Proofs.YtieldmakbokekaaGreatDoor.Oct
