/-
  Two rows side by side: how many letters, and where they begin; plainly.
-/
import Derived.Test.YtfnbkjmoppjegaaPz
namespace Go.Proofs.Ytfnbkjmoppjegaa.Oct
open Go.RowKit

theorem acc_congr {zs ys : List Int} {p q : Nat} : ∀ k, (∀ i, i ≤ k → zs.getD (p + i) 0 = ys.getD (q + i) 0) → acc zs p k = acc ys q k
  | 0, h => by
    have := h 0 (Nat.le_refl _)
    simp only [Nat.add_zero] at this
    show x0I _ = x0I _
    rw [this]
  | k + 1, h => by
    have h1 := acc_congr k fun i hi => h i (by omega)
    have h2 := h (k + 1) (Nat.le_refl _)
    rw [acc, acc, h1, show p + 1 + k = p + (k + 1) from by omega, show q + 1 + k = q + (k + 1) from by omega, h2]

theorem tls_congr {zs ys : List Int} {p q : Nat} : ∀ k, (∀ i, i ≤ k → zs.getD (p + i) 0 = ys.getD (q + i) 0) → tls zs p k = tls ys q k
  | 0, _ => rfl
  | k + 1, h => by
    have h1 := tls_congr k fun i hi => h i (by omega)
    have h2 := h (k + 1) (Nat.le_refl _)
    rw [tls, tls, h1, show p + 1 + k = p + (k + 1) from by omega, show q + 1 + k = q + (k + 1) from by omega, h2]

/-- A letter is told by its bytes. -/
theorem sn_congr {zs ys : List Int} {p q : Nat} (h0 : zs.getD p 0 = ys.getD q 0) (h : ∀ i, i < an zs p → zs.getD (p + i) 0 = ys.getD (q + i) 0) : sn zs p = sn ys q := by
  have ha : an zs p = an ys q := by unfold an; rw [h0]
  by_cases hz : an zs p = 0
  · rw [sn_an0 hz, sn_an0 (by omega)]
  · have h1 := acc_congr (an zs p - 1) fun i hi => h i (by omega)
    have h2 := tls_congr (an zs p - 1) fun i hi => h i (by omega)
    unfold sn sx
    rw [← ha, h1, h2]

theorem pre_at {a b : List Int} {i : Nat} (h : i < a.length) : (a ++ b).getD i 0 = a.getD i 0 := by rw [app_at, if_pos h]

/-- What is a letter of several bytes in the first row is one in both. -/
theorem sn_pre {a : List Int} (b : List Int) {p : Nat} (h : sn a p ≠ 0) : sn (a ++ b) p = sn a p := by
  have h1 := (sn_in h).1
  have h2 := sn_pos h
  exact (sn_congr (pre_at (by omega)).symm fun i hi => (pre_at (by omega)).symm).symm

/-- What is one in both, and ends in the first, is one in the first. -/
theorem sn_back {a b : List Int} {p : Nat} (h : sn (a ++ b) p ≠ 0) (hl : p + sn (a ++ b) p ≤ a.length) : sn a p = sn (a ++ b) p := by
  have h2 := sn_pos h
  have h3 := sn_le (a ++ b) p
  exact (sn_congr (pre_at (by omega)) fun i hi => pre_at (by omega)).symm

/-- Where none reaches over the seam, they are the same. -/
theorem sn_fit {a b : List Int} {p : Nat} (hl : p + sn (a ++ b) p ≤ a.length) : sn (a ++ b) p = sn a p := by
  by_cases h : sn (a ++ b) p = 0
  · by_cases h' : sn a p = 0
    · omega
    · exact sn_pre b h'
  · exact (sn_back h hl).symm

theorem nl_of_sn {zs ys : List Int} {p q : Nat} (h : sn zs p = sn ys q) : nl zs p = nl ys q := by unfold nl; rw [h]

theorem nl_drop (zs : List Int) (p q : Nat) : nl (zs.drop p) q = nl zs (p + q) := nl_of_sn (sn_drop zs p q)

theorem cnt_drop (zs : List Int) (p n : Nat) : ∀ q, (zs.drop p).length - q ≤ n → cnt (zs.drop p) q = cnt zs (p + q) := by
  induction n with
  | zero =>
    intro q h
    rw [cnt_out (by omega), cnt_out (by simp at h; omega)]
  | succ n ih =>
    intro q h
    by_cases hq : q < (zs.drop p).length
    · have h1 := nl_pos (zs.drop p) q
      rw [cnt_in hq, cnt_in (q := p + q) (by simp at hq; omega), ih _ (by omega), nl_drop, Nat.add_assoc]
    · rw [cnt_out (by omega), cnt_out (by simp at hq; omega)]

theorem cnt_tail (a b : List Int) (j : Nat) : cnt (a ++ b) (a.length + j) = cnt b j := by
  have := cnt_drop (a ++ b) a.length _ j (Nat.le_refl _)
  rw [List.drop_left] at this
  exact this.symm

/-- Up to a place where a letter begins two rows with the same letters have as many. -/
theorem cnt_same {A C : List Int} {p : Nat} (hA : p ≤ A.length) (hC : p ≤ C.length) (hp : be A p = true) (hs : ∀ q, q < p → nl A q = nl C q) (n : Nat) :
    ∀ q, q ≤ p → p - q ≤ n → ∃ X, cnt A q = X + cnt A p ∧ cnt C q = X + cnt C p := by
  induction n with
  | zero =>
    intro q h1 h2
    have : q = p := by omega
    subst this
    exact ⟨0, by omega, by omega⟩
  | succ n ih =>
    intro q h1 h2
    by_cases e : q = p
    · subst e
      exact ⟨0, by omega, by omega⟩
    · have hn := nl_pos A q
      have hle : q + nl A q ≤ p := by
        by_cases h : q + nl A q ≤ p
        · exact h
        · have := be_mid (zs := A) (q := q) (x := p) (by omega) (by omega)
          rw [this] at hp
          exact absurd hp (by decide)
      obtain ⟨X, x1, x2⟩ := ih (q + nl A q) hle (by omega)
      refine ⟨X + 1, ?_, ?_⟩
      · rw [cnt_in (by omega), x1]; omega
      · rw [cnt_in (by omega), ← hs q (by omega), x2]; omega

theorem cnt_ones {zs : List Int} {x : Nat} : ∀ m, x + m ≤ zs.length → (∀ i, i < m → nl zs (x + i) = 1) → cnt zs x = m + cnt zs (x + m)
  | 0, _, _ => by simp
  | m + 1, h, h1 => by
    have := cnt_ones m (by omega) fun i hi => h1 i (by omega)
    have e := cnt_in (zs := zs) (q := x + m) (by omega)
    rw [h1 m (by omega)] at e
    rw [this, e, show x + m + 1 = x + (m + 1) from by omega]
    omega

/-- How many letters two rows have side by side. -/
theorem cnt_join (a b : List Int) : cnt (a ++ b) 0 ≤ cnt a 0 + cnt b 0 ∧ cnt a 0 + cnt b 0 ≤ cnt (a ++ b) 0 + 3 ∧ (be (a ++ b) a.length = true ↔ cnt (a ++ b) 0 = cnt a 0 + cnt b 0) := by
  have hlen : (a ++ b).length = a.length + b.length := List.length_append
  rcases be_cases (a ++ b) a.length with ⟨hb, k, h1, h3, hk, hs⟩ | ⟨hb, hall⟩
  · obtain ⟨p, hp⟩ : ∃ p, a.length - k = p := ⟨_, rfl⟩
    rw [hp] at hs
    have hs0 : sn (a ++ b) p ≠ 0 := by omega
    obtain ⟨hin, htl, hhd⟩ := sn_in hs0
    have hle := sn_le (a ++ b) p
    rw [hlen] at hin
    obtain ⟨s, hss⟩ : ∃ s, sn (a ++ b) p = s := ⟨_, rfl⟩
    rw [hss] at hs hs0 hin htl hle
    have hsa : sn a p = 0 := by
      by_cases h : sn a p = 0
      · exact h
      · have e := sn_pre b h
        have := (sn_in h).1
        omega
    -- no letter reaches over p
    have hno : ∀ q, q < p → q + sn (a ++ b) q ≤ p := by
      intro q hq
      by_cases h : q + sn (a ++ b) q ≤ p
      · exact h
      · have h0 : sn (a ++ b) q ≠ 0 := by omega
        have := (sn_in h0).2.1 (p - q) (by omega) (by omega)
        rw [show q + (p - q) = p from by omega, hhd] at this
        exact absurd this (by decide)
    have hnl : ∀ q, q < p → nl a q = nl (a ++ b) q := fun q hq => (nl_of_sn (sn_fit (by have := hno q hq; omega))).symm
    have hbp : be a p = true := be_mk fun j j1 j2 => by
      have := hno (p - j) (by omega)
      have e := sn_fit (a := a) (b := b) (p := p - j) (by omega)
      omega
    obtain ⟨X, x1, x2⟩ := cnt_same (A := a) (C := a ++ b) (by omega) (by omega) hbp hnl p 0 (Nat.zero_le _) (by omega)
    -- in the first row the letter's bytes are single ones
    have ha : cnt a p = k := by
      have := cnt_ones (zs := a) (x := p) k (by omega) fun i hi => by
        by_cases e : i = 0
        · rw [e]; exact nl_one hsa
        · refine nl_one (sn_tail ?_)
          have := htl i (by omega) (by omega)
          rw [pre_at (by omega)] at this
          exact this
      rw [this, cnt_out (by omega)]; omega
    have hbq : cnt b 0 = (s - k) + cnt b (s - k) := by
      have := cnt_ones (zs := b) (x := 0) (s - k) (by omega) fun i hi => by
        refine nl_one (sn_tail ?_)
        have := htl (k + i) (by omega) (by omega)
        rw [app_at, if_neg (by omega), show p + (k + i) - a.length = 0 + i from by omega] at this
        exact this
      rw [this, Nat.zero_add]
    have hc : cnt (a ++ b) p = 1 + cnt b (s - k) := by
      have e := cnt_tail a b (s - k)
      rw [cnt_in (by omega), nl_sn (by omega), hss, show p + s = a.length + (s - k) from by omega, e]; omega
    rw [x1, x2, ha, hbq, hc]
    refine ⟨by omega, by omega, ?_⟩
    rw [hb]
    constructor
    · intro h; exact absurd h (by decide)
    · intro h; omega
  · have hnl : ∀ q, q < a.length → nl a q = nl (a ++ b) q := fun q hq => (nl_of_sn (sn_fit (by
      have := hall (a.length - q) (by omega) (by omega)
      rw [show a.length - (a.length - q) = q from by omega] at this
      omega))).symm
    obtain ⟨X, x1, x2⟩ := cnt_same (A := a) (C := a ++ b) (p := a.length) (Nat.le_refl _) (by omega) (be_end (Nat.le_refl _)) hnl a.length 0 (Nat.zero_le _) (by omega)
    have e := cnt_tail a b 0
    rw [Nat.add_zero] at e
    rw [cnt_out (Nat.le_refl _)] at x1
    rw [x1, x2, e]
    refine ⟨by omega, by omega, ?_⟩
    rw [hb]
    constructor
    · intro _; omega
    · intro _; rfl

/-- Away from the seam letters begin where they did. -/
theorem be_away (a b : List Int) {i : Nat} (h : i + 3 < a.length) : be (a ++ b) i = be a i := by
  have f : ∀ k, 1 ≤ k → k ≤ i → sn (a ++ b) (i - k) = sn a (i - k) := by
    intro k h1 h2
    refine sn_fit ?_
    have := sn_le (a ++ b) (i - k)
    omega
  rcases be_cases a i with ⟨e, k, h1, h2, h3, h4⟩ | ⟨e, hall⟩
  · rw [e]
    exact be_not (k := k) h1 h3 (by rw [f k h1 h3]; exact h4)
  · rw [e]
    exact be_mk fun k h1 h2 => by rw [f k h1 h2]; exact hall k h1 h2
end Go.Proofs.Ytfnbkjmoppjegaa.Oct
