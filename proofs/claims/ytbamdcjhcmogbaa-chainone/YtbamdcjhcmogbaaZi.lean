/-
  page.Seal: what it answers.
-/
import Derived.Test.YtbamdcjhcmogbaaZh
namespace Go.Proofs.Ytbamdcjhcmogbaa.Oct
open Go.RowKit

theorem e0_in {p : Pg} (h : er p 0 = 0) : 1 ≤ p.kind ∧ p.kind ≤ 5 := by
  rw [er0] at h
  by_cases hk : okK p.kind = true
  · exact of_decide_eq_true hk
  · rw [Bool.eq_false_iff.2 hk, Bool.false_and] at h; exact absurd h (by decide)

theorem e1_in {p : Pg} (h : er p 1 = 0) : 0 ≤ p.level ∧ p.level ≤ 255 := by
  rw [er1] at h
  by_cases hk : putB (st1 p) 5 1 p.level = true
  · unfold putB at hk
    rw [Bool.and_eq_true, fit1] at hk
    exact of_decide_eq_true hk.2
  · rw [if_neg hk] at h; exact absurd h (by decide)

theorem e2_in {p : Pg} (h : er p 2 = 0) : 0 ≤ p.count ∧ p.count ≤ 65535 := by
  rw [er2] at h
  by_cases hk : putB (st2 p) 6 2 p.count = true
  · unfold putB at hk
    rw [Bool.and_eq_true, fit2] at hk
    exact of_decide_eq_true hk.2
  · rw [if_neg hk] at h; exact absurd h (by decide)

theorem e3_in {p : Pg} (h : er p 3 = 0) : p.body.length ≤ 248 := by
  rw [er3] at h
  by_cases hk : p.body.length ≤ 248
  · exact hk
  · rw [if_neg hk] at h; exact absurd h (by decide)

theorem er_one {p : Pg} {k : Nat} (hk : k = 0 ∨ k = 1 ∨ k = 2 ∨ k = 4) (h : er p k ≠ 0) : er p k = 1 := by
  rcases hk with rfl | rfl | rfl | rfl
  · rw [er0] at h ⊢; split
    · rename_i h'; rw [if_pos h'] at h; exact absurd rfl h
    · rfl
  · rw [er1] at h ⊢; split
    · rename_i h'; rw [if_pos h'] at h; exact absurd rfl h
    · rfl
  · rw [er2] at h ⊢; split
    · rename_i h'; rw [if_pos h'] at h; exact absurd rfl h
    · rfl
  · rw [er4] at h ⊢; split
    · rename_i h'; rw [if_pos h'] at h; exact absurd rfl h
    · rfl

theorem seal_one {p : Pg} (h : ¬ ((1 ≤ p.kind ∧ p.kind ≤ 5) ∧ (0 ≤ p.level ∧ p.level ≤ 255) ∧ (0 ≤ p.count ∧ p.count ≤ 65535))) : sealE p = 1 ∧ sealZ p = [] := by
  have e : sealE p = 1 := by unfold sealE; rw [if_neg (argP_no h)]
  exact ⟨e, by unfold sealZ; rw [e]; rfl⟩

theorem seal_HA {p : Pg} (hb : Bys p.body) : ∀ k, k < 5 → (∀ j, j < k → er p j = 0) → er p k ≠ 0 → sealE p = er p k ∧ sealZ p = [] := by
  intro k hk hj he
  have : k = 0 ∨ k = 1 ∨ k = 2 ∨ k = 3 ∨ k = 4 := by omega
  rcases this with rfl | rfl | rfl | rfl | rfl
  · rw [er_one (by omega) he]
    exact seal_one fun h => he (step1 h.1).1
  · have a0 := e0_in (hj 0 (by omega))
    rw [er_one (by omega) he]
    exact seal_one fun h => he (step2 (step1 a0).2 h.2.1).1
  · have a0 := e0_in (hj 0 (by omega))
    have a1 := e1_in (hj 1 (by omega))
    rw [er_one (by omega) he]
    exact seal_one fun h => he (step3 (step2 (step1 a0).2 a1).2 h.2.2).1
  · have a0 := e0_in (hj 0 (by omega))
    have a1 := e1_in (hj 1 (by omega))
    have a2 := e2_in (hj 2 (by omega))
    have hl : ¬ p.body.length ≤ 248 := fun h => he (by rw [er3, if_pos h])
    have e : sealE p = 3 := by unfold sealE; rw [if_pos (show argP p = true from decide_eq_true ⟨a0, a1, a2⟩), if_neg hl]
    exact ⟨by rw [e, er3, if_neg hl], by unfold sealZ; rw [e]; rfl⟩
  · have a0 := e0_in (hj 0 (by omega))
    have a1 := e1_in (hj 1 (by omega))
    have a2 := e2_in (hj 2 (by omega))
    have a3 := e3_in (hj 3 (by omega))
    exact absurd (step5 hb (step4 (step3 (step2 (step1 a0).2 a1).2 a2).2 a3).2).1 he

theorem seal_HZ {p : Pg} (hb : Bys p.body) (h : ∀ j, j < 5 → er p j = 0) : sealE p = 0 ∧ sealZ p = st p 5 := by
  have a0 := e0_in (h 0 (by omega))
  have a1 := e1_in (h 1 (by omega))
  have a2 := e2_in (h 2 (by omega))
  have a3 := e3_in (h 3 (by omega))
  have e : sealE p = 0 := by unfold sealE; rw [if_pos (show argP p = true from decide_eq_true ⟨a0, a1, a2⟩), if_pos a3]
  have e5 := (step5 hb (step4 (step3 (step2 (step1 a0).2 a1).2 a2).2 a3).2).2
  refine ⟨e, ?_⟩
  unfold sealZ
  rw [if_pos e]
  exact e5.symm

theorem seal_any (p : Pg) (ba : Option Addr) (bc : Nat) (w : World) (hr : Row w ba bc p.body) (h1 : p.kind ≤ 9223372036854775807) (h2 : p.level ≤ 9223372036854775807) (h3 : p.count ≤ 9223372036854775807) :
    Calls Try.prog 33 #[pgV p ba bc] w fun e w' => ∃ v, e = .returned (.tuple #[v, .int .i64 (sealE p)]) ∧ Own w.heap.size w' v (sealZ p) ∧ Below w.heap.size w w' :=
  seal_walk p ba bc w hr _ _ h1 h2 h3 (seal_HA hr.1) (seal_HZ hr.1)

theorem sealZ_bys {p : Pg} (h : Bys p.body) : Bys (sealZ p) := by
  unfold sealZ
  split
  · exact seal_bys h
  · intro z hz; cases hz
end Go.Proofs.Ytbamdcjhcmogbaa.Oct
