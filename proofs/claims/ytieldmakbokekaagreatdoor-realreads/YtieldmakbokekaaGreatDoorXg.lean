/-
  Floats: a number doubled and halved many times.
-/
import Derived.Test.YtieldmakbokekaaGreatDoorFq
import Derived.Test.YtieldmakbokekaaGreatDoorVo
namespace Go.Proofs.YtieldmakbokekaaGreatDoor.Fl
open Ieee

def dbl (r : Nat) : Nat := if r < 0x7ff0000000000000 then rd (V r * 2) 0 else 0x7ff0000000000000
def hlf (r : Nat) : Nat := if r < 0x7ff0000000000000 then rd (V r) 1 else 0x7ff0000000000000

theorem dbl_le (r : Nat) : dbl r ≤ 0x7ff0000000000000 := by
  unfold dbl
  split
  · exact rd_top _ _
  · exact Nat.le_refl _
theorem hlf_le (r : Nat) : hlf r ≤ 0x7ff0000000000000 := by
  unfold hlf
  split
  · exact rd_top _ _
  · exact Nat.le_refl _

theorem V_two : V 4611686018427387904 = pw 1075 := by
  rw [V_at 4611686018427387904 1023 0 (by decide) (by decide), Nat.add_zero, pw_mul 52 1023]

theorem pw_one : pw 1 = 2 := by rw [pw_eq]
theorem rd_pw (X e : Nat) : rd (X * pw e) e = rd X 0 := by
  have := rd_shift X 0 e
  rw [Nat.zero_add] at this
  rw [pw_eq]
  exact this

theorem mul_two {r : Nat} (h : r ≤ 0x7ff0000000000000) : Ieee.double.mul r 4611686018427387904 = some (dbl r) := by
  unfold dbl
  by_cases hr : r < 0x7ff0000000000000
  · rw [if_pos hr, mul_num (by omega) (by decide), show r / 2 ^ 63 % 2 = 0 by omega, show r % 2 ^ 63 = r by omega, show (4611686018427387904 : Nat) % 2 ^ 63 = 4611686018427387904 from rfl, V_two]
    have e : V r * pw 1075 = V r * 2 * pw 1074 := by rw [show (1075 : Nat) = 1 + 1074 from rfl, pw_add, pw_one, Nat.mul_assoc]
    rw [e, rd_pw]
    unfold Format.word
    rw [if_neg (by decide)]
  · have : r = 0x7ff0000000000000 := by omega
    subst this
    rw [if_neg (by decide)]
    decide +kernel

theorem quo_two {r : Nat} (h : r ≤ 0x7ff0000000000000) : Ieee.double.div r 4611686018427387904 = some (hlf r) := by
  unfold hlf
  by_cases hr : r < 0x7ff0000000000000
  · rw [if_pos hr, div_two (by omega) read_two, show r / 2 ^ 63 % 2 = 0 by omega, show r % 2 ^ 63 = r by omega]
    unfold Format.word
    rw [if_neg (by decide)]
  · have : r = 0x7ff0000000000000 := by omega
    subst this
    rw [if_neg (by decide)]
    decide +kernel

def dbls : Nat → Nat → Nat
  | 0, r => r
  | n + 1, r => dbls n (dbl r)
def hlfs : Nat → Nat → Nat
  | 0, r => r
  | n + 1, r => hlfs n (hlf r)

/-- So many times doubled, or halved. -/
def fin (r : Nat) (e : Int) : Nat := if 0 ≤ e then dbls e.toNat r else hlfs (-e).toNat r

theorem fin_zero (r : Nat) : fin r 0 = r := rfl
theorem fin_dbl (r : Nat) {e : Int} (h : 0 < e) : fin (dbl r) (e - 1) = fin r e := by
  unfold fin
  rw [if_pos (by omega), if_pos (by omega)]
  obtain ⟨n, rfl⟩ : ∃ n : Nat, e = (n : Int) + 1 := ⟨(e - 1).toNat, by omega⟩
  rw [show ((n : Int) + 1 - 1).toNat = n by omega, show ((n : Int) + 1).toNat = n + 1 by omega]
  rfl
theorem fin_hlf (r : Nat) {e : Int} (h : e < 0) : fin (hlf r) (e + 1) = fin r e := by
  unfold fin
  obtain ⟨n, rfl⟩ : ∃ n : Nat, e = -((n : Int) + 1) := ⟨(-e - 1).toNat, by omega⟩
  rw [if_neg (by omega : ¬ 0 ≤ -((n : Int) + 1)), show (- -((n : Int) + 1)).toNat = n + 1 by omega]
  by_cases h0 : n = 0
  · subst h0; rfl
  · rw [if_neg (by omega), show (-(-((n : Int) + 1) + 1)).toNat = n by omega]
    rfl
theorem hlf_zero : hlf 0 = 0 := by unfold hlf; rw [if_pos (by decide), V_zero, rd_zero]
theorem hlfs_zero : ∀ n, hlfs n 0 = 0
  | 0 => rfl
  | n + 1 => by
    show hlfs n (hlf 0) = 0
    rw [hlf_zero]; exact hlfs_zero n
theorem fin_nought {e : Int} (h : e ≤ 0) : fin 0 e = 0 := by
  unfold fin
  split
  · have : e = 0 := by omega
    subst this; rfl
  · exact hlfs_zero _

theorem rep_mul (a n : Nat) (ha : a < 0x7ff0000000000000) : ∃ r, V r = V a * pw n := by
  obtain ⟨m, k, _, hv, hm, _⟩ := read_num (b := a) (by omega)
  rw [show a % 2 ^ 63 = a by omega] at hv
  obtain ⟨r, hr⟩ := rep (k + n) m hm
  exact ⟨r, by rw [hr, ← hv, pw_eq, Nat.mul_assoc, ← Nat.pow_add]⟩

theorem V_lt' {r s : Nat} (h : V r < V s) : r < s := Nat.lt_of_not_le fun h' => absurd (V_le h') (by omega)
theorem V_le' {r s : Nat} (h : V r ≤ V s) : r ≤ s := Nat.le_of_not_lt fun h' => absurd (V_lt h') (by omega)

theorem dbls_exact {a : Nat} (ha : a < 0x7ff0000000000000) : ∀ e r, V r * pw e = V a → dbls e r = a
  | 0, r, h => by
    have e0 : pw 0 = 1 := by rw [pw_eq]
    rw [e0, Nat.mul_one] at h
    exact V_inj h
  | e + 1, r, h => by
    have e1 : pw (e + 1) = pw 1 * pw e := by rw [Nat.add_comm, pw_add]
    have p1 : pw 1 = 2 := by rw [pw_eq]
    have p0 := pw_pos e
    rw [e1, ← Nat.mul_assoc] at h
    have hle : V r * 2 ≤ V a := by
      rw [← h, p1]; exact Nat.le_mul_of_pos_right _ p0
    have hr : r < 0x7ff0000000000000 := by
      have : r ≤ a := V_le' (by omega)
      omega
    obtain ⟨r', hr'⟩ := rep_mul r 1 hr
    have hra : r' ≤ a := V_le' (by rw [hr', p1]; exact hle)
    have hd : dbl r = r' := by
      unfold dbl
      rw [if_pos hr, ← p1, ← hr']
      have := rd_V (r := r') 0 (by omega)
      rw [pw_eq 0, Nat.pow_zero, Nat.mul_one] at this
      exact this
    show dbls e (dbl r) = a
    rw [hd]
    exact dbls_exact ha e r' (by rw [hr']; exact h)

theorem hlfs_exact {a : Nat} (ha : a < 0x7ff0000000000000) : ∀ n r, r < 0x7ff0000000000000 → V r = V a * pw n → hlfs n r = a
  | 0, r, _, h => by
    have e0 : pw 0 = 1 := by rw [pw_eq]
    rw [e0, Nat.mul_one] at h
    exact V_inj h
  | n + 1, r, hr, h => by
    obtain ⟨r', hr'⟩ := rep_mul a n ha
    have h2 : V r = V r' * pw 1 := by rw [h, hr', pw_add, Nat.mul_assoc]
    have p1 : pw 1 = 2 := by rw [pw_eq]
    have hrr : r' ≤ r := V_le' (by rw [h2, p1]; omega)
    have hd : hlf r = r' := by
      unfold hlf
      rw [if_pos hr, h2]
      exact rd_V 1 (by omega)
    show hlfs n (hlf r) = a
    rw [hd]
    exact hlfs_exact ha n r' (by omega) hr'

theorem fi_fin {M : Nat} (h : M < 2 ^ 53) : fi M < 0x7ff0000000000000 := by
  refine V_lt' ?_
  rw [fi_exact h, V_inf, show (2098 : Nat) = 1024 + 1074 from rfl, pw_add]
  refine Nat.mul_lt_mul_of_pos_right ?_ (pw_pos _)
  refine Nat.lt_of_lt_of_le h ?_
  rw [← pw_eq]
  exact pw_le (by omega)

/-- A whole number times a power of 2 that is a number. -/
theorem fin_exact {a M p n : Nat} {e : Int} (ha : a < 0x7ff0000000000000) (hM : M < 2 ^ 53) (he : (p : Int) - (n : Int) = e + 1074) (hv : V a * pw n = M * pw p) : fin (fi M) e = a := by
  unfold fin
  by_cases h0 : 0 ≤ e
  · rw [if_pos h0]
    refine dbls_exact ha _ _ ?_
    rw [fi_exact hM]
    refine Nat.eq_of_mul_eq_mul_right (pw_pos n) ?_
    rw [hv, Nat.mul_assoc, Nat.mul_assoc, ← pw_add, ← pw_add]
    congr 2
    omega
  · rw [if_neg h0]
    refine hlfs_exact ha _ _ (fi_fin hM) ?_
    rw [fi_exact hM]
    refine Nat.eq_of_mul_eq_mul_right (pw_pos n) ?_
    rw [Nat.mul_assoc, ← pw_add, show V a * pw (-e).toNat * pw n = V a * pw n * pw (-e).toNat by ac_rfl, hv, Nat.mul_assoc, ← pw_add]
    congr 2
    omega
end Go.Proofs.YtieldmakbokekaaGreatDoor.Fl
