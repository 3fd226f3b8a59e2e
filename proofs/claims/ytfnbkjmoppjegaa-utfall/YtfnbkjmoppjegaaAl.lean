/-
  Letters written one behind the other, plainly.
-/
import Derived.Test.YtfnbkjmoppjegaaEc
import Derived.Test.YtfnbkjmoppjegaaAp
namespace Go.Proofs.Ytfnbkjmoppjegaa.Oct
open Go.RowKit

theorem Own.row3 {base : Nat} {w : World} {v : Value} {zs : List Int} (h : Own base w v zs) (hb : Bys zs) : ∃ a cap, v = .slice a zs.length cap ∧ Row w a cap zs ∧ (a = none → cap = 0) := by
  obtain ⟨a, cap, e, hr⟩ := h.row hb
  refine ⟨a, cap, e, hr, fun hn => ?_⟩
  obtain ⟨_, ⟨h1, _⟩ | ⟨g, cap', cur, h1, _⟩⟩ := id h
  · rw [e] at h1; simp only [Value.slice.injEq] at h1; exact h1.2.2
  · rw [e, hn] at h1; simp at h1

/-- The bytes of the first k letters. -/
def ec (l : List Int) : Nat → List Int
  | 0 => []
  | k + 1 => ec l k ++ enc (l.getD k 0)

/-- How many letters are among the first k numbers. -/
def en (l : List Int) : Nat → Nat
  | 0 => 0
  | k + 1 => en l k + if ltB (l.getD k 0) = true then 1 else 0

theorem bys_ec (l : List Int) : ∀ k, Bys (ec l k)
  | 0 => by intro z hz; simp [ec] at hz
  | k + 1 => (bys_ec l k).app (bys_enc _)

theorem ec_len (l : List Int) : ∀ k, (ec l k).length ≤ 4 * k
  | 0 => by simp [ec]
  | k + 1 => by
    have h1 := ec_len l k
    have h2 := enc_len (l.getD k 0)
    simp only [ec, List.length_append]
    omega

theorem en_le (l : List Int) : ∀ k, en l k ≤ k
  | 0 => by simp [en]
  | k + 1 => by
    have := en_le l k
    simp only [en]
    split <;> omega

theorem ec_yes {l : List Int} {k : Nat} (_h : ltB (l.getD k 0) = true) : ec l (k + 1) = ec l k ++ enc (l.getD k 0) := rfl
theorem ec_no {l : List Int} {k : Nat} (h : ltB (l.getD k 0) = false) : ec l (k + 1) = ec l k := by rw [ec, e0 h, List.append_nil]
theorem en_yes {l : List Int} {k : Nat} (h : ltB (l.getD k 0) = true) : en l (k + 1) = en l k + 1 := by rw [en, if_pos h]
theorem en_no {l : List Int} {k : Nat} (h : ltB (l.getD k 0) = false) : en l (k + 1) = en l k := by rw [en, if_neg (by rw [h]; decide), Nat.add_zero]

theorem ec_split (l : List Int) (k : Nat) : ∀ m, ∃ R, ec l (k + m) = ec l k ++ R
  | 0 => ⟨[], by simp⟩
  | m + 1 => by
    obtain ⟨R, h⟩ := ec_split l k m
    exact ⟨R ++ enc (l.getD (k + m) 0), by rw [← Nat.add_assoc, ec, h, List.append_assoc]⟩

/-- What stands at the k-th place. -/
theorem ec_at {l : List Int} {k N : Nat} (hk : k < N) (hl : ltB (l.getD k 0) = true) :
    nl (ec l N) (ec l k).length = (enc (l.getD k 0)).length ∧ nv (ec l N) (ec l k).length = l.getD k 0 ∧ (ec l k).length < (ec l N).length ∧ (ec l k).length + (enc (l.getD k 0)).length = (ec l (k + 1)).length := by
  obtain ⟨R, hR⟩ := ec_split l (k + 1) (N - (k + 1))
  rw [show k + 1 + (N - (k + 1)) = N from by omega, ec, List.append_assoc] at hR
  have hp := enc_pos hl
  have h := enc_at (zs := ec l N) (p := (ec l k).length) hl fun i hi => by
    rw [hR, app_at, if_neg (by omega), show (ec l k).length + i - (ec l k).length = i from by omega, app_at, if_pos hi]
  refine ⟨h.1, h.2, ?_, by rw [ec, List.length_append]⟩
  rw [hR, List.length_append, List.length_append]
  omega

theorem ec_be (l : List Int) (N : Nat) : ∀ k, k ≤ N → be (ec l N) (ec l k).length = true ∧ cnt (ec l N) (ec l k).length + en l k = cnt (ec l N) 0
  | 0, _ => ⟨be_zero _, rfl⟩
  | k + 1, hk => by
    obtain ⟨h1, h2⟩ := ec_be l N k (by omega)
    by_cases hl : ltB (l.getD k 0) = true
    · obtain ⟨a1, _, a3, a4⟩ := ec_at (N := N) hk hl
      have hb := be_next h1
      rw [a1, a4] at hb
      have hc := cnt_in a3
      rw [a1, a4] at hc
      rw [en_yes hl]
      exact ⟨hb, by omega⟩
    · have hf : ltB (l.getD k 0) = false := by simpa using hl
      rw [ec_no hf, en_no hf]
      exact ⟨h1, h2⟩

theorem ec_cnt (l : List Int) (N : Nat) : cnt (ec l N) 0 = en l N := by
  have := (ec_be l N N (Nat.le_refl _)).2
  rw [cnt_out (Nat.le_refl _)] at this
  omega

theorem ec_mono (l : List Int) {k N : Nat} (h : k ≤ N) : (ec l k).length ≤ (ec l N).length := by
  obtain ⟨R, hR⟩ := ec_split l k (N - k)
  rw [show k + (N - k) = N from by omega] at hR
  rw [hR, List.length_append]
  omega
end Go.Proofs.Ytfnbkjmoppjegaa.Oct
