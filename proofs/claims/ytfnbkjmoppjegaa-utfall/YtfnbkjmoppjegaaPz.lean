/-
  The places where letters begin, on and back: plainly.
-/
import Derived.Test.YtfnbkjmoppjegaaW
namespace Go.Proofs.Ytfnbkjmoppjegaa.Oct
open Go.RowKit

theorem be_all {zs : List Int} {q : Nat} (h : be zs q = true) : ∀ k, 1 ≤ k → k ≤ q → sn zs (q - k) ≤ k := by
  rcases be_cases zs q with ⟨e, _⟩ | ⟨_, e⟩
  · rw [e] at h; exact absurd h (by decide)
  · exact e

theorem be_mk {zs : List Int} {q : Nat} (h : ∀ k, 1 ≤ k → k ≤ q → sn zs (q - k) ≤ k) : be zs q = true := by
  rcases be_cases zs q with ⟨_, k, h1, _, h3, h4⟩ | ⟨e, _⟩
  · have := h k h1 h3; omega
  · exact e

theorem be_not {zs : List Int} {q k : Nat} (h1 : 1 ≤ k) (hq : k ≤ q) (h : k < sn zs (q - k)) : be zs q = false := by
  rcases be_cases zs q with ⟨e, _⟩ | ⟨_, e⟩
  · exact e
  · have := e k h1 hq; omega

/-- In a letter's middle none begins. -/
theorem be_mid {zs : List Int} {q x : Nat} (h1 : q < x) (h2 : x < q + nl zs q) : be zs x = false := by
  by_cases hs : sn zs q = 0
  · rw [nl_one hs] at h2; omega
  · rw [nl_sn hs] at h2
    refine be_not (k := x - q) (by omega) (by omega) ?_
    rw [show x - (x - q) = q from by omega]; omega

/-- In a letter's middle there is no letter of several bytes. -/
theorem sn_mid {zs : List Int} {q x : Nat} (h1 : q < x) (h2 : x < q + nl zs q) : sn zs x = 0 := by
  by_cases hs : sn zs q = 0
  · rw [nl_one hs] at h2; omega
  · rw [nl_sn hs] at h2
    have := (sn_in hs).2.1 (x - q) (by omega) (by omega)
    rw [show q + (x - q) = x from by omega] at this
    exact sn_tail this

/-- Behind a letter another one begins. -/
theorem be_next {zs : List Int} {q : Nat} (hb : be zs q = true) : be zs (q + nl zs q) = true := by
  refine be_mk fun k h1 h2 => ?_
  have hn := nl_pos zs q
  by_cases h3 : q + nl zs q - k < q
  · have := be_all hb (k - nl zs q) (by omega) (by omega)
    rw [show q - (k - nl zs q) = q + nl zs q - k from by omega] at this
    omega
  · by_cases h4 : q + nl zs q - k = q
    · by_cases hs : sn zs q = 0
      · rw [h4, hs]; omega
      · have := nl_sn hs
        rw [h4]; omega
    · rw [sn_mid (zs := zs) (q := q) (by omega) (by omega)]; omega

/-- The letter that ends there is the one that was gone over. -/
theorem la_next {zs : List Int} {q : Nat} (hb : be zs q = true) : la zs (q + nl zs q) = nl zs q := by
  have hn := nl_pos zs q
  rcases la_cases zs (q + nl zs q) with ⟨k, h2, h3, h4, h5, h6⟩ | ⟨h2, h3⟩
  · rw [h6]
    by_cases c1 : q + nl zs q - k < q
    · have := be_all hb (k - nl zs q) (by omega) (by omega)
      rw [show q - (k - nl zs q) = q + nl zs q - k from by omega] at this
      omega
    · by_cases c2 : q + nl zs q - k = q
      · omega
      · have := sn_mid (zs := zs) (q := q) (x := q + nl zs q - k) (by omega) (by omega)
        omega
  · rw [h2]
    by_cases hs : sn zs q = 0
    · rw [nl_one hs]
    · have e := nl_sn hs
      have h4 := sn_le zs q
      have := h3 (sn zs q) (by omega) (by omega)
      rw [show q + nl zs q - sn zs q = q from by omega] at this
      exact absurd rfl this

theorem pl_inj {zs : List Int} {x y : Nat} (hx : x ≤ zs.length) (hy : y ≤ zs.length) (h : pl zs x = pl zs y) : x = y := by
  by_cases h1 : x < zs.length
  · by_cases h2 : y < zs.length
    · rw [pl_in h1, pl_in h2] at h
      exact (List.cons.inj h).1
    · rw [pl_in h1, pl_out (q := y) (by omega)] at h; exact absurd h (by simp)
  · by_cases h2 : y < zs.length
    · rw [pl_out (q := x) (by omega), pl_in h2] at h; exact absurd h (by simp)
    · omega

theorem pl_drop (zs : List Int) : ∀ j, j ≤ (pl zs 0).length → ∃ q, q ≤ zs.length ∧ be zs q = true ∧ (pl zs 0).drop j = pl zs q
  | 0, _ => ⟨0, Nat.zero_le _, be_zero zs, rfl⟩
  | j + 1, hj => by
    obtain ⟨q, h1, h2, h3⟩ := pl_drop zs j (by omega)
    have hq : q < zs.length := by
      by_cases h : q < zs.length
      · exact h
      · rw [pl_out (q := q) (by omega)] at h3
        have := congrArg List.length h3
        simp at this
        omega
    refine ⟨q + nl zs q, nl_in hq, be_next h2, ?_⟩
    rw [← List.drop_drop, h3, pl_in hq]
    rfl

theorem getD_drop {α : Type} (d : α) (l : List α) (j : Nat) {x : α} {t : List α} (h : l.drop j = x :: t) : j < l.length ∧ l.getD j d = x ∧ l.drop (j + 1) = t := by
  have h1 : j < l.length := by
    have := congrArg List.length h
    simp at this
    omega
  refine ⟨h1, ?_, ?_⟩
  · have : l[j]? = some x := by
      have e : (l.drop j)[0]? = some x := by rw [h]; rfl
      simpa using e
    rw [List.getD_eq_getElem?_getD, this]; rfl
  · rw [← List.drop_drop, h]; rfl

/-- One letter back. -/
theorem pl_back {zs : List Int} {k q : Nat} (hk : k ≤ (pl zs 0).length) (hq : q ≤ zs.length) (h : (pl zs 0).drop k = pl zs q) (h0 : 0 < q) :
    ∃ j r, k = j + 1 ∧ r + la zs q = q ∧ 1 ≤ la zs q ∧ r ≤ zs.length ∧ (pl zs 0).drop j = pl zs r ∧ (pl zs 0).getD j 0 = r := by
  cases k with
  | zero =>
    have := pl_inj (Nat.zero_le _) hq h
    omega
  | succ j =>
    obtain ⟨r, h1, h2, h3⟩ := pl_drop zs j (by omega)
    have hr : r < zs.length := by
      by_cases h' : r < zs.length
      · exact h'
      · rw [pl_out (q := r) (by omega)] at h3
        have := congrArg List.length h3
        simp at this
        omega
    have h4 := h3
    rw [pl_in hr] at h4
    obtain ⟨_, h5, h6⟩ := getD_drop 0 _ _ h4
    have e := pl_inj (nl_in hr) hq (h6.symm.trans h)
    have hl := la_next h2
    rw [e] at hl
    have := nl_pos zs r
    exact ⟨j, r, rfl, by omega, by omega, h1, h3, h5⟩

/-- What is carried while all places are looked at: the next one where a letter begins. -/
def Ahead (zs : List Int) (i p : Nat) : Prop := ∃ q, p ≤ q ∧ q ≤ zs.length ∧ be zs q = true ∧ i ≤ (pl zs 0).length ∧ (pl zs 0).drop i = pl zs q ∧ ∀ x, p ≤ x → x < q → be zs x = false

theorem ahead_start (zs : List Int) : Ahead zs 0 0 := ⟨0, Nat.le_refl _, Nat.zero_le _, be_zero zs, Nat.zero_le _, rfl, fun x _ h => by omega⟩

/-- At a place: the next of the places is this one, and a letter begins here; or it is not, and none does. -/
theorem ahead_step {zs : List Int} {i p : Nat} (h : Ahead zs i p) (hp : p < zs.length) :
    (be zs p = true ∧ i < (pl zs 0).length ∧ (pl zs 0).getD i 0 = p ∧ Ahead zs (i + 1) (p + 1)) ∨ (be zs p = false ∧ (i < (pl zs 0).length → (pl zs 0).getD i 0 ≠ p) ∧ i ≤ (pl zs 0).length ∧ Ahead zs i (p + 1)) := by
  obtain ⟨q, h1, h2, h3, h4, h5, h6⟩ := h
  by_cases e : p = q
  · subst e
    have h7 := h5
    rw [pl_in hp] at h7
    obtain ⟨h8, h9, h10⟩ := getD_drop 0 _ _ h7
    have := nl_pos zs p
    exact .inl ⟨h3, h8, h9, p + nl zs p, by omega, nl_in hp, be_next h3, by omega, h10, fun x h11 h12 => be_mid (q := p) (by omega) h12⟩
  · refine .inr ⟨h6 p (Nat.le_refl _) (by omega), fun h7 h8 => ?_, h4, q, by omega, h2, h3, h4, h5, fun x h7 h8 => h6 x (by omega) h8⟩
    by_cases hq : q < zs.length
    · rw [pl_in hq] at h5
      have := (getD_drop 0 _ _ h5).2.1
      omega
    · rw [pl_out (q := q) (by omega)] at h5
      have := congrArg List.length h5
      simp at this
      omega
end Go.Proofs.Ytfnbkjmoppjegaa.Oct
