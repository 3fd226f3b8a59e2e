/-
  The document's hex digits, plainly.
-/
import Derived.Test.YtieldmakbokekaaGreatDoorRt
namespace Go.Proofs.YtieldmakbokekaaGreatDoor.Oct
open Go.RowKit
open Go.Proofs.YtieldmakbokekaaGreatDoor.Fl

/-- The k-th hex digit of 13. -/
def xd (f k : Nat) : Nat := f / 16 ^ (12 - k) % 16
def xl (f : Nat) : List UInt8 := (List.range 13).map fun k => UInt8.ofNat (hxd (xd f k))

theorem hx14_tail (f : Nat) : (hx14 (4503599627370496 + f)).tail = xl f := by
  unfold hx14 xl
  rw [show List.range 14 = 0 :: (List.range 13).map (· + 1) by decide, List.map_cons, List.tail_cons, List.map_map]
  refine List.map_congr_left fun k hk => ?_
  have hk : k < 13 := List.mem_range.1 hk
  show UInt8.ofNat (hxd ((4503599627370496 + f) / 16 ^ (13 - (k + 1)) % 16)) = _
  unfold xd
  rw [show 13 - (k + 1) = 12 - k by omega]
  have h1 : 4503599627370496 = 16 ^ (12 - k) * (16 * 16 ^ k) := by
    rw [← Nat.mul_assoc, ← Nat.pow_succ, ← Nat.pow_add, show (12 - k).succ + k = 13 by omega]
  rw [h1, Nat.mul_add_div (Nat.pow_pos (by decide)), Nat.mul_add_mod]

theorem xl_len (f : Nat) : (xl f).length = 13 := by unfold xl; simp

theorem xl_get (f k : Nat) (hk : k < 13) : (xl f)[k]? = some (UInt8.ofNat (hxd (xd f k))) := by
  unfold xl
  rw [List.getElem?_map, List.getElem?_range hk]
  rfl

theorem hxd_zero {z : Nat} (h : z < 16) : UInt8.ofNat (hxd z) = 48 ↔ z = 0 := by
  have : ∀ z : Fin 16, UInt8.ofNat (hxd z.val) = 48 ↔ z.val = 0 := by decide
  exact this ⟨z, h⟩

/-- The digits up to the last one that is not 0. -/
theorem trim_at {f k : Nat} (hk : k ≤ 13) (h1 : f % 16 ^ (13 - k) = 0) (h2 : 0 < k → xd f (k - 1) ≠ 0) : Lib.trimRightB (xl f) 48 = (xl f).take k := by
  apply Lib.trimRightB_take _ _ _ (by rw [xl_len]; exact hk)
  · intro j b hj hb
    by_cases hj13 : j < 13
    · rw [xl_get f j hj13] at hb
      cases hb
      refine (hxd_zero (Nat.mod_lt _ (by decide))).2 ?_
      obtain ⟨c, hc⟩ := Nat.dvd_of_mod_eq_zero h1
      show f / 16 ^ (12 - j) % 16 = 0
      have e : 16 ^ (13 - k) = 16 ^ (12 - j) * (16 * 16 ^ (j - k)) := by
        rw [← Nat.mul_assoc, ← Nat.pow_succ, ← Nat.pow_add]
        congr 1; omega
      rw [hc, e, Nat.mul_assoc, Nat.mul_div_cancel_left _ (Nat.pow_pos (by decide)), Nat.mul_assoc, Nat.mul_mod_right]
    · rw [List.getElem?_eq_none (by rw [xl_len]; omega)] at hb
      cases hb
  · intro b h0 hb
    rw [xl_get f (k - 1) (by omega)] at hb
    cases hb
    intro e
    exact h2 h0 ((hxd_zero (Nat.mod_lt _ (by decide))).1 e)

/-- What is left behind k digits, at the top of 64 bits. -/
def rs (f k : Nat) : Nat := f % 16 ^ (13 - k) * 16 ^ (3 + k)

theorem rs_top {f k : Nat} (hk : k < 13) : rs f k / 1152921504606846976 = xd f k := by
  unfold rs xd
  have e1 : 1152921504606846976 = 16 ^ (12 - k) * 16 ^ (3 + k) := by rw [← Nat.pow_add, show 12 - k + (3 + k) = 15 by omega]
  rw [e1, Nat.mul_div_mul_right _ _ (Nat.pow_pos (by decide)), show 13 - k = 12 - k + 1 by omega, Nat.pow_succ, Nat.mod_mul_right_div_self]

theorem rs_next {f k : Nat} (hk : k < 13) : rs f k * 16 % 18446744073709551616 = rs f (k + 1) := by
  unfold rs
  have e1 : 18446744073709551616 = 16 ^ (12 - k) * 16 ^ (4 + k) := by rw [← Nat.pow_add, show 12 - k + (4 + k) = 16 by omega]
  rw [show 3 + (k + 1) = 4 + k by omega, show 13 - (k + 1) = 12 - k by omega, Nat.mul_assoc, ← Nat.pow_succ, show (3 + k).succ = 4 + k by omega, e1, Nat.mul_mod_mul_right, show 13 - k = 12 - k + 1 by omega, Nat.pow_succ, Nat.mod_mul_right_mod]

theorem rs_zero {f k : Nat} : rs f k = 0 ↔ f % 16 ^ (13 - k) = 0 := by
  unfold rs
  rw [Nat.mul_eq_zero]
  constructor
  · rintro (h | h)
    · exact h
    · exact absurd h (Nat.ne_of_gt (Nat.pow_pos (by decide)))
  · exact Or.inl

theorem rs_lt (f k : Nat) (hk : k ≤ 13) : rs f k < 18446744073709551616 := by
  unfold rs
  have e1 : 18446744073709551616 = 16 ^ (13 - k) * 16 ^ (3 + k) := by rw [← Nat.pow_add, show 13 - k + (3 + k) = 16 by omega]
  rw [e1]
  exact Nat.mul_lt_mul_of_pos_right (Nat.mod_lt _ (Nat.pow_pos (by decide))) (Nat.pow_pos (by decide))

theorem rs_begin {f : Nat} (h : f < 4503599627370496) : rs f 0 = f * 4096 := by
  unfold rs
  rw [show 16 ^ (13 - 0) = 4503599627370496 by decide, Nat.mod_eq_of_lt h, show 16 ^ (3 + 0) = 4096 by decide]

theorem rs_end (f : Nat) : rs f 13 = 0 := by
  unfold rs
  rw [show 16 ^ (13 - 13) = 1 by decide, Nat.mod_one, Nat.zero_mul]

/-- If the last digit was 0 there was nothing left ahead of it, or there is still something. -/
theorem xd_last {f k : Nat} (hk : k < 13) (h : rs f k ≠ 0) (hz : rs f (k + 1) = 0) : xd f k ≠ 0 := by
  rw [Ne, rs_zero] at h
  rw [rs_zero] at hz
  intro e
  apply h
  unfold xd at e
  rw [show 13 - (k + 1) = 12 - k by omega] at hz
  rw [show 13 - k = 12 - k + 1 by omega, Nat.pow_succ, Nat.mod_mul, hz, e]
  simp

theorem hxt_at {a k : Nat} (hk : k ≤ 13) (h1 : rs (fb a % 4503599627370496) k = 0) (h2 : 0 < k → xd (fb a % 4503599627370496) (k - 1) ≠ 0) : hxt a = (xl (fb a % 4503599627370496)).take k := by
  unfold hxt
  rw [hx14_tail]
  exact trim_at hk (rs_zero.1 h1) h2

end Go.Proofs.YtieldmakbokekaaGreatDoor.Oct
