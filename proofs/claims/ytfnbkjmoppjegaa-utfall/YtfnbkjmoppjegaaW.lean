/-
  Letters back and forth, plainly: Last, Begins, Count.
-/
import Derived.Test.YtfnbkjmoppjegaaSv
namespace Go.Proofs.Ytfnbkjmoppjegaa.Oct
open Go.RowKit

theorem nl_pos (zs : List Int) (q : Nat) : 1 ≤ nl zs q := by
  unfold nl; split <;> omega

theorem nl_le (zs : List Int) (q : Nat) : nl zs q ≤ 4 := by
  have := sn_le zs q
  unfold nl; split <;> omega

theorem nl_in {zs : List Int} {q : Nat} (h : q < zs.length) : q + nl zs q ≤ zs.length := by
  unfold nl
  split
  · rename_i hs; exact (sn_in hs).1
  · omega

/-- How many bytes has the letter that ends ahead of a place. -/
def la (zs : List Int) (q : Nat) : Nat :=
  if 2 ≤ q ∧ sn zs (q - 2) = 2 then 2 else if 3 ≤ q ∧ sn zs (q - 3) = 3 then 3 else if 4 ≤ q ∧ sn zs (q - 4) = 4 then 4 else 1
def laI (zs : List Int) (p : Int) : Int := if 1 ≤ p ∧ p ≤ zs.length then (la zs p.toNat : Int) else 0

/-- No letter of several bytes begins ahead of the place and ends behind it. -/
def be (zs : List Int) (q : Nat) : Bool :=
  decide (¬ (1 ≤ q ∧ 1 < sn zs (q - 1)) ∧ ¬ (2 ≤ q ∧ 2 < sn zs (q - 2)) ∧ ¬ (3 ≤ q ∧ 3 < sn zs (q - 3)))
def beB (zs : List Int) (p : Int) : Bool := decide (0 ≤ p ∧ p ≤ zs.length ∧ be zs p.toNat = true)

/-- At the end letters begin. -/
theorem be_end {zs : List Int} {q : Nat} (h : zs.length ≤ q) : be zs q = true := by
  have f : ∀ k, 1 ≤ k → k ≤ q → sn zs (q - k) ≤ k := by
    intro k h1 h2
    by_cases hs : sn zs (q - k) = 0
    · omega
    · have := (sn_in hs).1; omega
  unfold be
  rw [decide_eq_true_iff]
  refine ⟨fun h => ?_, fun h => ?_, fun h => ?_⟩
  · have := f 1 (by omega) (by omega); omega
  · have := f 2 (by omega) (by omega); omega
  · have := f 3 (by omega) (by omega); omega

theorem be_zero (zs : List Int) : be zs 0 = true := by
  unfold be; rw [decide_eq_true_iff]; omega

/-- Back over tails, at most so many. -/
def hdF (zs : List Int) : Nat → Nat → Nat
  | 0, q => q
  | f + 1, q => if 0 < q ∧ tlB (zs.getD q 0) = true then hdF zs f (q - 1) else q
def hd (zs : List Int) (q : Nat) : Nat := hdF zs 3 q

theorem hdF_eq {zs : List Int} : ∀ (f q j : Nat), j ≤ q → q ≤ j + f → (∀ i, j < i → i ≤ q → tlB (zs.getD i 0) = true) → (tlB (zs.getD j 0) = false ∨ j = 0 ∨ j + f = q) → hdF zs f q = j
  | 0, q, j, h1, h2, _, _ => by show q = j; omega
  | f + 1, q, j, h1, h2, h3, h4 => by
    unfold hdF
    by_cases e : j = q
    · subst e
      rw [if_neg]
      rintro ⟨h, h'⟩
      rcases h4 with h4 | h4 | h4
      · rw [h4] at h'; exact absurd h' (by decide)
      · omega
      · omega
    · rw [if_pos ⟨by omega, h3 q (by omega) (Nat.le_refl _)⟩]
      exact hdF_eq f (q - 1) j (by omega) (by omega) (fun i h5 h6 => h3 i h5 (by omega)) (h4.imp id (fun h => h.imp id (fun h => by omega)))

theorem hd_eq {zs : List Int} {q j : Nat} (h1 : j ≤ q) (h2 : q ≤ j + 3) (h3 : ∀ i, j < i → i ≤ q → tlB (zs.getD i 0) = true) (h4 : tlB (zs.getD j 0) = false ∨ j = 0 ∨ j + 3 = q) : hd zs q = j := hdF_eq 3 q j h1 h2 h3 h4

theorem hdF_le {zs : List Int} : ∀ (f q : Nat), hdF zs f q ≤ q ∧ q ≤ hdF zs f q + f
  | 0, q => by show q ≤ q ∧ q ≤ q + 0; omega
  | f + 1, q => by
    unfold hdF
    split
    · have := hdF_le (zs := zs) f (q - 1); omega
    · omega

theorem hd_le (zs : List Int) (q : Nat) : hd zs q ≤ q ∧ q ≤ hd zs q + 3 := hdF_le 3 q

/-- Where a letter of several bytes lies over the byte at q, the way back stops at its first. -/
theorem hd_sn {zs : List Int} {q k : Nat} (hk : k ≤ q) (h : k < sn zs (q - k)) : hd zs q = q - k := by
  have hs : sn zs (q - k) ≠ 0 := by omega
  obtain ⟨h1, h2, h3⟩ := sn_in hs
  have := sn_le zs (q - k)
  refine hd_eq (by omega) (by omega) (fun i h4 h5 => ?_) (.inl h3)
  have := h2 (i - (q - k)) (by omega) (by omega)
  rw [show q - k + (i - (q - k)) = i from by omega] at this
  exact this

theorem nl_sn {zs : List Int} {q : Nat} (h : sn zs q ≠ 0) : nl zs q = sn zs q := if_pos h
theorem nl_one {zs : List Int} {q : Nat} (h : sn zs q = 0) : nl zs q = 1 := if_neg (by simpa using h)

theorem la_cases (zs : List Int) (q : Nat) : (∃ k, 2 ≤ k ∧ k ≤ 4 ∧ k ≤ q ∧ sn zs (q - k) = k ∧ la zs q = k) ∨ (la zs q = 1 ∧ ∀ k, 2 ≤ k → k ≤ q → sn zs (q - k) ≠ k) := by
  unfold la
  split
  · rename_i h; exact .inl ⟨2, by omega, by omega, h.1, h.2, rfl⟩
  · rename_i h2
    split
    · rename_i h; exact .inl ⟨3, by omega, by omega, h.1, h.2, rfl⟩
    · rename_i h3
      split
      · rename_i h; exact .inl ⟨4, by omega, by omega, h.1, h.2, rfl⟩
      · rename_i h4
        refine .inr ⟨rfl, fun k h5 h6 h7 => ?_⟩
        have := sn_le zs (q - k)
        have hk : k = 2 ∨ k = 3 ∨ k = 4 := by omega
        rcases hk with rfl | rfl | rfl
        · exact h2 ⟨h6, h7⟩
        · exact h3 ⟨h6, h7⟩
        · exact h4 ⟨h6, h7⟩

/-- What utf.Last reckons. -/
theorem la_hd {zs : List Int} {q : Nat} (h1 : 1 ≤ q) : la zs q = if hd zs (q - 1) + nl zs (hd zs (q - 1)) = q then nl zs (hd zs (q - 1)) else 1 := by
  rcases la_cases zs q with ⟨k, h2, h3, h4, h5, h6⟩ | ⟨h2, h3⟩
  · have e := hd_sn (zs := zs) (q := q - 1) (k := k - 1) (by omega) (by rw [show q - 1 - (k - 1) = q - k from by omega]; omega)
    rw [show q - 1 - (k - 1) = q - k from by omega] at e
    rw [e, nl_sn (by omega), h5, h6, if_pos (by omega)]
  · rw [h2]
    split
    · rename_i h
      have hle := hd_le zs (q - 1)
      by_cases hs : sn zs (hd zs (q - 1)) = 0
      · rw [nl_one hs]
      · rw [nl_sn hs] at h
        have h4 := sn_le zs (hd zs (q - 1))
        have := h3 (sn zs (hd zs (q - 1))) (by omega) (by omega)
        rw [show q - sn zs (hd zs (q - 1)) = hd zs (q - 1) from by omega] at this
        exact absurd rfl this
    · rfl

theorem be_cases (zs : List Int) (q : Nat) : (be zs q = false ∧ ∃ k, 1 ≤ k ∧ k ≤ 3 ∧ k ≤ q ∧ k < sn zs (q - k)) ∨ (be zs q = true ∧ ∀ k, 1 ≤ k → k ≤ q → sn zs (q - k) ≤ k) := by
  by_cases h : be zs q = true
  · refine .inr ⟨h, fun k h1 h2 => ?_⟩
    unfold be at h
    rw [decide_eq_true_iff] at h
    obtain ⟨a1, a2, a3⟩ := h
    by_cases h3 : k ≤ 3
    · have hk : k = 1 ∨ k = 2 ∨ k = 3 := by omega
      rcases hk with rfl | rfl | rfl
      · exact Nat.le_of_not_lt fun x => a1 ⟨h2, x⟩
      · exact Nat.le_of_not_lt fun x => a2 ⟨h2, x⟩
      · exact Nat.le_of_not_lt fun x => a3 ⟨h2, x⟩
    · have := sn_le zs (q - k); omega
  · refine .inl ⟨by simpa using h, ?_⟩
    unfold be at h
    rw [decide_eq_true_iff] at h
    by_cases a1 : 1 ≤ q ∧ 1 < sn zs (q - 1)
    · exact ⟨1, by omega, by omega, a1.1, a1.2⟩
    · by_cases a2 : 2 ≤ q ∧ 2 < sn zs (q - 2)
      · exact ⟨2, by omega, by omega, a2.1, a2.2⟩
      · by_cases a3 : 3 ≤ q ∧ 3 < sn zs (q - 3)
        · exact ⟨3, by omega, by omega, a3.1, a3.2⟩
        · exact absurd ⟨a1, a2, a3⟩ h

/-- What utf.Begins reckons. -/
theorem be_hd {zs : List Int} (q : Nat) : be zs q = decide (hd zs q = q ∨ hd zs q + nl zs (hd zs q) ≤ q) := by
  rcases be_cases zs q with ⟨h, k, h1, h2, h3, h4⟩ | ⟨h, h1⟩
  · rw [h]
    have e := hd_sn h3 h4
    symm
    rw [decide_eq_false_iff_not, e, nl_sn (by omega)]
    omega
  · rw [h]
    symm
    rw [decide_eq_true_iff]
    have hle := hd_le zs q
    by_cases e : hd zs q = q
    · exact .inl e
    · refine .inr ?_
      have := h1 (q - hd zs q) (by omega) (by omega)
      rw [show q - (q - hd zs q) = hd zs q from by omega] at this
      by_cases hs : sn zs (hd zs q) = 0
      · rw [nl_one hs]; omega
      · rw [nl_sn hs]; omega

/-- The places where letters begin, from one of them on. -/
def pl (zs : List Int) (q : Nat) : List Nat :=
  if q < zs.length then q :: pl zs (q + nl zs q) else []
termination_by zs.length - q
decreasing_by have := nl_pos zs q; omega

theorem pl_in {zs : List Int} {q : Nat} (h : q < zs.length) : pl zs q = q :: pl zs (q + nl zs q) := by rw [pl, if_pos h]
theorem pl_out {zs : List Int} {q : Nat} (h : zs.length ≤ q) : pl zs q = [] := by rw [pl, if_neg (by omega)]

def cnt (zs : List Int) (q : Nat) : Nat := (pl zs q).length
theorem cnt_in {zs : List Int} {q : Nat} (h : q < zs.length) : cnt zs q = cnt zs (q + nl zs q) + 1 := by unfold cnt; rw [pl_in h]; rfl
theorem cnt_out {zs : List Int} {q : Nat} (h : zs.length ≤ q) : cnt zs q = 0 := by unfold cnt; rw [pl_out h]; rfl
theorem cnt_le (zs : List Int) (n : Nat) : ∀ q, zs.length - q ≤ n → cnt zs q ≤ zs.length - q := by
  induction n with
  | zero => intro q h; rw [cnt_out (by omega)]; omega
  | succ n ih =>
    intro q h
    by_cases hq : q < zs.length
    · have h1 := nl_pos zs q
      have h2 := nl_in hq
      rw [cnt_in hq]
      have := ih (q + nl zs q) (by omega)
      omega
    · rw [cnt_out (by omega)]; omega
theorem cnt_len (zs : List Int) : cnt zs 0 ≤ zs.length := cnt_le zs zs.length 0 (by omega)

theorem nxN_in {zs : List Int} {q : Nat} (h : q < zs.length) : nxN zs (q : Int) = (nl zs q : Int) := if_pos (by omega)
theorem nxI_in {zs : List Int} {q : Nat} (h : q < zs.length) : nxI zs (q : Int) = nv zs q := if_pos (by omega)
theorem laI_in {zs : List Int} {q : Nat} (h1 : 1 ≤ q) (h2 : q ≤ zs.length) : laI zs (q : Int) = (la zs q : Int) := if_pos (by omega)
theorem beB_in {zs : List Int} {q : Nat} (h2 : q ≤ zs.length) : beB zs (q : Int) = be zs q := by
  unfold beB
  by_cases h : be zs q = true
  · rw [h, decide_eq_true_iff]; exact ⟨by omega, by omega, h⟩
  · have h' : be zs q = false := by simpa using h
    rw [h', decide_eq_false_iff_not]
    rintro ⟨_, _, h3⟩
    exact h h3
end Go.Proofs.Ytfnbkjmoppjegaa.Oct
