/-
  Letters, plainly: the letter of several bytes that begins at a place.
-/
import Derived.Test.YtfnbkjmoppjegaaS
namespace Go.Proofs.Ytfnbkjmoppjegaa.Oct
open Go.RowKit

theorem i64_or_nat (a b : Nat) (ha : a < 9223372036854775808) (hb : b < 9223372036854775808) : bits .or .i64 (a : Int) (b : Int) = ((a ||| b : Nat) : Int) := by
  have hx : a ||| b < 2 ^ 63 := Nat.or_lt_two_pow (by omega) (by omega)
  show IntKind.i64.wrap ((BitVec.ofInt 64 (a : Int) ||| BitVec.ofInt 64 (b : Int)).toNat : Int) = _
  rw [BitVec.toNat_or, ofInt_u64 a (by omega), ofInt_u64 b (by omega), IntKind.wrap_i64]
  omega

theorem i64_and_nat (a b : Nat) (ha : a < 9223372036854775808) (hb : b < 9223372036854775808) : bits .and .i64 (a : Int) (b : Int) = ((a &&& b : Nat) : Int) := by
  have hx : a &&& b ≤ a := Nat.and_le_left
  show IntKind.i64.wrap ((BitVec.ofInt 64 (a : Int) &&& BitVec.ofInt 64 (b : Int)).toNat : Int) = _
  rw [BitVec.toNat_and, ofInt_u64 a (by omega), ofInt_u64 b (by omega), IntKind.wrap_i64]
  omega

theorem join6 (x z : Int) (h0 : 0 ≤ x) (h1 : x ≤ 65536) (z0 : 0 ≤ z) (z1 : z < 64) : bits .or .i64 (x * 64) z = x * 64 + z := by
  obtain ⟨X, rfl⟩ := Int.eq_ofNat_of_zero_le h0
  obtain ⟨Z, rfl⟩ := Int.eq_ofNat_of_zero_le z0
  have := i64_or_nat (X * 64) Z (by omega) (by omega)
  rw [nat_join 6 _ _ (by omega) (by omega)] at this
  have e : ((X * 64 : Nat) : Int) = (X : Int) * 64 := by omega
  rw [← e, this]
  omega

/-- What the first byte gives to the number. -/
def x0I (c : Int) : Int := if c < 224 then c - 192 else if c < 240 then c - 224 else c - 240

/-- The number that the first byte and k tails make. -/
def acc (zs : List Int) (p : Nat) : Nat → Int
  | 0 => x0I (zs.getD p 0)
  | k + 1 => acc zs p k * 64 + (zs.getD (p + 1 + k) 0 - 128)

/-- Are the k bytes behind the first tails? -/
def tls (zs : List Int) (p : Nat) : Nat → Bool
  | 0 => true
  | k + 1 => tls zs p k && tlB (zs.getD (p + 1 + k) 0)

/-- How many bytes a letter has that opens with the byte there; 0: none does. -/
def an (zs : List Int) (p : Nat) : Nat := (anI (zs.getD p 0)).toNat

/-- The number of the letter of several bytes that is there, if there is one. -/
def sx (zs : List Int) (p : Nat) : Int := acc zs p (an zs p - 1)

/-- How many bytes has the letter of several bytes that is there; 0: there is none. -/
def sn (zs : List Int) (p : Nat) : Nat :=
  if an zs p ≠ 0 ∧ tls zs p (an zs p - 1) = true ∧ ltB (sx zs p) = true ∧ lgI (sx zs p) = (an zs p : Int) then an zs p else 0

theorem anI_cases (c : Int) : (anI c = 0 ∧ (c < 192 ∨ 248 ≤ c)) ∨ (anI c = 2 ∧ 192 ≤ c ∧ c < 224) ∨ (anI c = 3 ∧ 224 ≤ c ∧ c < 240) ∨ (anI c = 4 ∧ 240 ≤ c ∧ c < 248) := by
  unfold anI
  split
  · split
    · omega
    · split
      · omega
      · split <;> omega
  · omega

theorem an_cases (zs : List Int) (p : Nat) : (an zs p = 0 ∧ (zs.getD p 0 < 192 ∨ 248 ≤ zs.getD p 0)) ∨ (an zs p = 2 ∧ 192 ≤ zs.getD p 0 ∧ zs.getD p 0 < 224) ∨ (an zs p = 3 ∧ 224 ≤ zs.getD p 0 ∧ zs.getD p 0 < 240) ∨ (an zs p = 4 ∧ 240 ≤ zs.getD p 0 ∧ zs.getD p 0 < 248) := by
  have := anI_cases (zs.getD p 0)
  unfold an
  omega

theorem anI_an (zs : List Int) (p : Nat) : anI (zs.getD p 0) = (an zs p : Int) := by
  have := anI_cases (zs.getD p 0)
  unfold an
  omega

theorem x0_bd (zs : List Int) (p : Nat) (h : an zs p ≠ 0) : 0 ≤ acc zs p 0 ∧ acc zs p 0 < 32 ∧ (an zs p = 3 → acc zs p 0 < 16) ∧ (an zs p = 4 → acc zs p 0 < 8) := by
  have := an_cases zs p
  show 0 ≤ x0I _ ∧ x0I _ < 32 ∧ (_ → x0I _ < 16) ∧ (_ → x0I _ < 8)
  unfold x0I
  split
  · omega
  · split <;> omega

theorem tls_at {zs : List Int} {p k : Nat} (h : tls zs p k = true) : ∀ i, i < k → tlB (zs.getD (p + 1 + i) 0) = true := by
  induction k with
  | zero => intro i hi; omega
  | succ k ih =>
    rw [tls, Bool.and_eq_true] at h
    intro i hi
    by_cases e : i = k
    · rw [e]; exact h.2
    · exact ih h.1 i (by omega)

theorem tls_mk {zs : List Int} {p k : Nat} (h : ∀ i, i < k → tlB (zs.getD (p + 1 + i) 0) = true) : tls zs p k = true := by
  induction k with
  | zero => rfl
  | succ k ih =>
    rw [tls, Bool.and_eq_true]
    exact ⟨ih fun i hi => h i (by omega), h k (by omega)⟩

theorem tlB_bd {c : Int} (h : tlB c = true) : 128 ≤ c ∧ c < 192 := by simpa [tlB] using h

/-- What the number so far may be. -/
theorem acc_bd {zs : List Int} {p : Nat} (ha : an zs p ≠ 0) {k : Nat} (hk : k + 1 ≤ an zs p) (ht : tls zs p k = true) :
    0 ≤ acc zs p k ∧ acc zs p k < 32 * 64 ^ k ∧ (an zs p = 3 → acc zs p k < 16 * 64 ^ k) ∧ (an zs p = 4 → acc zs p k < 8 * 64 ^ k) := by
  have h4 : an zs p ≤ 4 := by have := an_cases zs p; omega
  have h0 := x0_bd zs p ha
  have e0 : acc zs p 0 = x0I (zs.getD p 0) := rfl
  match k with
  | 0 => simpa using h0
  | 1 =>
    have a1 := tlB_bd (tls_at ht 0 (by omega))
    have e1 : acc zs p 1 = acc zs p 0 * 64 + (zs.getD (p + 1 + 0) 0 - 128) := rfl
    rw [e1]; omega
  | 2 =>
    have a1 := tlB_bd (tls_at ht 0 (by omega))
    have a2 := tlB_bd (tls_at ht 1 (by omega))
    have e1 : acc zs p 1 = acc zs p 0 * 64 + (zs.getD (p + 1 + 0) 0 - 128) := rfl
    have e2 : acc zs p 2 = acc zs p 1 * 64 + (zs.getD (p + 1 + 1) 0 - 128) := rfl
    rw [e2, e1]; omega
  | 3 =>
    have a1 := tlB_bd (tls_at ht 0 (by omega))
    have a2 := tlB_bd (tls_at ht 1 (by omega))
    have a3 := tlB_bd (tls_at ht 2 (by omega))
    have e1 : acc zs p 1 = acc zs p 0 * 64 + (zs.getD (p + 1 + 0) 0 - 128) := rfl
    have e2 : acc zs p 2 = acc zs p 1 * 64 + (zs.getD (p + 1 + 1) 0 - 128) := rfl
    have e3 : acc zs p 3 = acc zs p 2 * 64 + (zs.getD (p + 1 + 2) 0 - 128) := rfl
    rw [e3, e2, e1]; omega
  | k + 4 => omega

theorem acc_small {zs : List Int} {p : Nat} (ha : an zs p ≠ 0) {k : Nat} (hk : k + 1 ≤ an zs p) (ht : tls zs p k = true) : 0 ≤ acc zs p k ∧ acc zs p k ≤ 2097151 ∧ (k + 2 ≤ an zs p → acc zs p k ≤ 65535) := by
  have h4 : an zs p ≤ 4 := by have := an_cases zs p; omega
  have hb := acc_bd ha hk ht
  match k with
  | 0 => omega
  | 1 => omega
  | 2 => omega
  | 3 => omega
  | k + 4 => omega

theorem sn_pos {zs : List Int} {p : Nat} (h : sn zs p ≠ 0) : sn zs p = an zs p ∧ an zs p ≠ 0 ∧ tls zs p (an zs p - 1) = true ∧ ltB (sx zs p) = true ∧ lgI (sx zs p) = (an zs p : Int) := by
  unfold sn at h ⊢
  split at h
  · rename_i c
    rw [if_pos c]
    exact ⟨rfl, c⟩
  · exact absurd rfl h

theorem sn_le (zs : List Int) (p : Nat) : sn zs p = 0 ∨ sn zs p = 2 ∨ sn zs p = 3 ∨ sn zs p = 4 := by
  by_cases h : sn zs p = 0
  · exact .inl h
  · have := sn_pos h
    have := an_cases zs p
    omega

theorem getD_out {zs : List Int} {i : Nat} (h : zs.length ≤ i) : zs.getD i 0 = 0 := by
  rw [List.getD_eq_getElem?_getD, List.getElem?_eq_none h]; rfl

theorem tail_in {zs : List Int} {i : Nat} (h : tlB (zs.getD i 0) = true) : i < zs.length := by
  by_cases hi : i < zs.length
  · exact hi
  · rw [getD_out (by omega)] at h; exact absurd h (by decide)

/-- A letter of several bytes lies within, its bytes behind the first are tails. -/
theorem sn_in {zs : List Int} {p : Nat} (h : sn zs p ≠ 0) : p + sn zs p ≤ zs.length ∧ (∀ i, 1 ≤ i → i < sn zs p → tlB (zs.getD (p + i) 0) = true) ∧ tlB (zs.getD p 0) = false := by
  obtain ⟨e, h0, ht, _, _⟩ := sn_pos h
  have hc := an_cases zs p
  have ht' : ∀ i, 1 ≤ i → i < sn zs p → tlB (zs.getD (p + i) 0) = true := by
    intro i h1 h2
    have := tls_at ht (i - 1) (by omega)
    rw [show p + 1 + (i - 1) = p + i from by omega] at this
    exact this
  refine ⟨?_, ht', ?_⟩
  · have := tail_in (ht' (sn zs p - 1) (by omega) (by omega))
    omega
  · unfold tlB
    rw [decide_eq_false_iff_not]
    omega

theorem an_tail {zs : List Int} {p : Nat} (h : tlB (zs.getD p 0) = true) : an zs p = 0 := by
  have := tlB_bd h
  have := an_cases zs p
  omega

theorem sn_an0 {zs : List Int} {p : Nat} (h : an zs p = 0) : sn zs p = 0 := by
  by_cases hs : sn zs p = 0
  · exact hs
  · have := sn_pos hs; omega

theorem sn_tail {zs : List Int} {p : Nat} (h : tlB (zs.getD p 0) = true) : sn zs p = 0 := sn_an0 (an_tail h)

theorem sn_small {zs : List Int} {p : Nat} (h : zs.getD p 0 < 192) : sn zs p = 0 := sn_an0 (by have := an_cases zs p; omega)

theorem sn_out {zs : List Int} {p : Nat} (h : zs.length ≤ p) : sn zs p = 0 := sn_small (by rw [getD_out h]; omega)

theorem acc_drop (zs : List Int) (p q k : Nat) : acc (zs.drop p) q k = acc zs (p + q) k := by
  induction k with
  | zero => simp [acc, List.getD_eq_getElem?_getD]
  | succ k ih =>
    simp only [acc, ih, List.getD_eq_getElem?_getD, List.getElem?_drop]
    rw [show p + (q + 1 + k) = p + q + 1 + k from by omega]

theorem tls_drop (zs : List Int) (p q k : Nat) : tls (zs.drop p) q k = tls zs (p + q) k := by
  induction k with
  | zero => rfl
  | succ k ih =>
    simp only [tls, ih, List.getD_eq_getElem?_getD, List.getElem?_drop]
    rw [show p + (q + 1 + k) = p + q + 1 + k from by omega]

theorem an_drop (zs : List Int) (p q : Nat) : an (zs.drop p) q = an zs (p + q) := by
  simp [an, List.getD_eq_getElem?_getD]

theorem sx_drop (zs : List Int) (p q : Nat) : sx (zs.drop p) q = sx zs (p + q) := by
  simp only [sx, acc_drop, an_drop]

theorem sn_drop (zs : List Int) (p q : Nat) : sn (zs.drop p) q = sn zs (p + q) := by
  simp only [sn, sx_drop, tls_drop, an_drop]
end Go.Proofs.Ytfnbkjmoppjegaa.Oct
