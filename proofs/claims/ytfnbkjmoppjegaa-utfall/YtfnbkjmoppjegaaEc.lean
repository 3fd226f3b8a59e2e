/-
  A letter's bytes, read, are it: plainly.
-/
import Derived.Test.YtfnbkjmoppjegaaEn
import Derived.Test.YtfnbkjmoppjegaaPz
namespace Go.Proofs.Ytfnbkjmoppjegaa.Oct
open Go.RowKit

theorem enc_cases (r : Int) : (ltB r = false ∧ enc r = []) ∨ (ltB r = true ∧ 0 ≤ r ∧ r ≤ 1114111 ∧ (r < 55296 ∨ 57343 < r) ∧ (
    (r < 128 ∧ enc r = [r]) ∨ (128 ≤ r ∧ r < 2048 ∧ enc r = [192 + r / 64, 128 + r % 64]) ∨ (2048 ≤ r ∧ r < 65536 ∧ enc r = [224 + r / 4096, 128 + r / 64 % 64, 128 + r % 64]) ∨
    (65536 ≤ r ∧ enc r = [240 + r / 262144, 128 + r / 4096 % 64, 128 + r / 64 % 64, 128 + r % 64]))) := by
  by_cases hl : ltB r = true
  · obtain ⟨hb0, hb1, hb2⟩ := ltB_bd hl
    refine .inr ⟨hl, hb0, hb1, hb2, ?_⟩
    by_cases h1 : r < 128
    · exact .inl ⟨h1, e1 hl h1⟩
    · by_cases h2 : r < 2048
      · exact .inr (.inl ⟨by omega, h2, e2 hl h1 h2⟩)
      · by_cases h3 : r < 65536
        · exact .inr (.inr (.inl ⟨by omega, h3, e3 hl h1 h2 h3⟩))
        · exact .inr (.inr (.inr ⟨by omega, e4 hl h1 h2 h3⟩))
  · have hf : ltB r = false := by simpa using hl
    exact .inl ⟨hf, e0 hf⟩

theorem bys_enc (r : Int) : Bys (enc r) := by
  rcases enc_cases r with ⟨_, e⟩ | ⟨_, h0, h1, _, ⟨h, e⟩ | ⟨h, h', e⟩ | ⟨h, h', e⟩ | ⟨h, e⟩⟩
  · rw [e]; intro z hz; simp at hz
  all_goals
    rw [e]
    intro z hz
    simp at hz
    omega

theorem enc_len (r : Int) : (enc r).length ≤ 4 := by
  rcases enc_cases r with ⟨_, e⟩ | ⟨_, h0, h1, _, ⟨h, e⟩ | ⟨h, h', e⟩ | ⟨h, h', e⟩ | ⟨h, e⟩⟩
  all_goals
    rw [e]
    simp

theorem enc_pos {r : Int} (h : ltB r = true) : 1 ≤ (enc r).length := by
  rcases enc_cases r with ⟨e, _⟩ | ⟨_, h0, h1, _, ⟨h, e⟩ | ⟨h, h', e⟩ | ⟨h, h', e⟩ | ⟨h, e⟩⟩
  · rw [e] at h; exact absurd h (by decide)
  all_goals
    rw [e]
    simp

/-- Where a letter's bytes stand, there is that letter. -/
theorem enc_at {zs : List Int} {p : Nat} {r : Int} (hl : ltB r = true) (h : ∀ i, i < (enc r).length → zs.getD (p + i) 0 = (enc r).getD i 0) : nl zs p = (enc r).length ∧ nv zs p = r := by
  rcases enc_cases r with ⟨e, _⟩ | ⟨_, h0, h1, h2, ⟨q, e⟩ | ⟨q, q', e⟩ | ⟨q, q', e⟩ | ⟨q, e⟩⟩
  · rw [e] at hl; exact absurd hl (by decide)
  · rw [e] at h ⊢
    have a0 := h 0 (by simp)
    simp only [Nat.add_zero, List.getD_cons_zero] at a0
    have hs : sn zs p = 0 := sn_small (by omega)
    refine ⟨nl_one hs, ?_⟩
    unfold nv
    rw [if_neg (by simpa using hs), a0, if_pos (by omega)]
  · rw [e] at h ⊢
    have a0 := h 0 (by simp)
    have a1 := h 1 (by simp)
    simp only [Nat.add_zero, List.getD_cons_zero, List.getD_cons_succ] at a0 a1
    have hn : an zs p = 2 := by have := an_cases zs p; omega
    have ht : tls zs p 1 = true := tls_mk fun i hi => by
      have : i = 0 := by omega
      subst this
      show tlB (zs.getD (p + 1) 0) = true
      rw [a1]; unfold tlB; rw [decide_eq_true_iff]; omega
    have hx : x0I (zs.getD p 0) = r / 64 := by unfold x0I; rw [a0, if_pos (by omega)]; omega
    have hy : acc zs p 1 = r := by
      show x0I (zs.getD p 0) * 64 + (zs.getD (p + 1) 0 - 128) = r
      rw [hx, a1]; omega
    have := (acc_full (n := 2) (ls := 128) hn (by omega) ht hy).1 ⟨by omega, by omega, by omega⟩
    refine ⟨(nl_sn (by omega)).trans this.1, ?_⟩
    unfold nv
    rw [if_pos (by omega), this.2]
  · rw [e] at h ⊢
    have a0 := h 0 (by simp)
    have a1 := h 1 (by simp)
    have a2 := h 2 (by simp)
    simp only [Nat.add_zero, List.getD_cons_zero, List.getD_cons_succ] at a0 a1 a2
    have hn : an zs p = 3 := by have := an_cases zs p; omega
    have ht : tls zs p 2 = true := tls_mk fun i hi => by
      have : i = 0 ∨ i = 1 := by omega
      rcases this with rfl | rfl
      · show tlB (zs.getD (p + 1) 0) = true
        rw [a1]; unfold tlB; rw [decide_eq_true_iff]; omega
      · show tlB (zs.getD (p + 2) 0) = true
        rw [a2]; unfold tlB; rw [decide_eq_true_iff]; omega
    have hx : x0I (zs.getD p 0) = r / 4096 := by unfold x0I; rw [a0, if_neg (by omega), if_pos (by omega)]; omega
    have hy : acc zs p 2 = r := by
      show (x0I (zs.getD p 0) * 64 + (zs.getD (p + 1) 0 - 128)) * 64 + (zs.getD (p + 2) 0 - 128) = r
      rw [hx, a1, a2]; omega
    have := (acc_full (n := 3) (ls := 2048) hn (by omega) ht hy).1 ⟨by omega, by omega, by omega⟩
    refine ⟨(nl_sn (by omega)).trans this.1, ?_⟩
    unfold nv
    rw [if_pos (by omega), this.2]
  · rw [e] at h ⊢
    have a0 := h 0 (by simp)
    have a1 := h 1 (by simp)
    have a2 := h 2 (by simp)
    have a3 := h 3 (by simp)
    simp only [Nat.add_zero, List.getD_cons_zero, List.getD_cons_succ] at a0 a1 a2 a3
    have hn : an zs p = 4 := by have := an_cases zs p; omega
    have ht : tls zs p 3 = true := tls_mk fun i hi => by
      have : i = 0 ∨ i = 1 ∨ i = 2 := by omega
      rcases this with rfl | rfl | rfl
      · show tlB (zs.getD (p + 1) 0) = true
        rw [a1]; unfold tlB; rw [decide_eq_true_iff]; omega
      · show tlB (zs.getD (p + 2) 0) = true
        rw [a2]; unfold tlB; rw [decide_eq_true_iff]; omega
      · show tlB (zs.getD (p + 3) 0) = true
        rw [a3]; unfold tlB; rw [decide_eq_true_iff]; omega
    have hx : x0I (zs.getD p 0) = r / 262144 := by unfold x0I; rw [a0, if_neg (by omega), if_neg (by omega)]; omega
    have hy : acc zs p 3 = r := by
      show ((x0I (zs.getD p 0) * 64 + (zs.getD (p + 1) 0 - 128)) * 64 + (zs.getD (p + 2) 0 - 128)) * 64 + (zs.getD (p + 3) 0 - 128) = r
      rw [hx, a1, a2, a3]; omega
    have := (acc_full (n := 4) (ls := 65536) hn (by omega) ht hy).1 ⟨by omega, by omega, by omega⟩
    refine ⟨(nl_sn (by omega)).trans this.1, ?_⟩
    unfold nv
    rw [if_pos (by omega), this.2]

/-- Read ahead of others it is it, too. -/
theorem enc_ahead (zs : List Int) {r : Int} (hl : ltB r = true) : nxI (enc r ++ zs) 0 = r ∧ nxN (enc r ++ zs) 0 = ((enc r).length : Int) := by
  have hp := enc_pos hl
  have h := enc_at (zs := enc r ++ zs) (p := 0) hl fun i hi => by rw [Nat.zero_add, app_at, if_pos hi]
  have hlen : 0 < (enc r ++ zs).length := by simp; omega
  have e1 := nxI_in hlen
  have e2 := nxN_in hlen
  rw [h.2] at e1
  rw [h.1] at e2
  exact ⟨e1, e2⟩
end Go.Proofs.Ytfnbkjmoppjegaa.Oct
