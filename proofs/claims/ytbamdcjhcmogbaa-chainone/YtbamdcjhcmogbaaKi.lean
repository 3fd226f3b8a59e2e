/-
  Unlike bytes have unlike pages; a bit that is turned is found.
-/
import Derived.Test.YtbamdcjhcmogbaaKh
namespace Go.Proofs.Ytbamdcjhcmogbaa.Oct
open Go.RowKit

theorem prts_eq {a b : List Int} {n : Nat} (h : ∀ i, i < n → prt a i = prt b i) : ∀ k, k ≤ n → prts a k = prts b k
  | 0, _ => by unfold prts; rw [Nat.zero_mul, List.take_zero, List.take_zero]
  | k + 1, hk => by rw [prts_succ, prts_succ, prts_eq h k (by omega), h k (by omega)]

theorem ctL_inj {a b pg : List Int} (ha : Bys a) (hb : Bys b) (hok : CtOk pg) (h1 : pg.length = ned a.length) (h2 : pg.length = ned b.length) (h : ctL a pg = ctL b pg) : a = b := by
  have hp : ∀ i, i < pg.length → prt a i = prt b i := fun i hi => by
    have e := congrArg (fun L => L.getD i []) h
    rw [ctL_at hi, ctL_at hi] at e
    rw [← (part_cpg ha hok h1 hi).2.1, ← (part_cpg hb hok h2 hi).2.1, e]
  have := prts_eq hp pg.length (Nat.le_refl _)
  rw [prts_all h1, prts_all h2] at this
  exact this

/-- The two lists of pages, over pages that rise. -/
theorem cut_same {a b : List Int} (ha : Bys a) (hb : Bys b) (f d : Nat) (h1 : CtOk (pgF f d (ned a.length))) : decide (ctL a (pgF f d (ned a.length)) = ctL b (pgF f d (ned b.length))) = sameB a b := by
  unfold sameB
  refine decide_eq_decide.2 ⟨fun h => ?_, fun h => by rw [h]⟩
  have hl := congrArg List.length h
  rw [ctL_len, ctL_len, pgF_len, pgF_len] at hl
  rw [← hl] at h
  exact ctL_inj ha hb h1 (pgF_len _ _ _) (by rw [pgF_len]; exact hl) h

/-- One byte turned. -/
theorem part_turned {zs pg : List Int} {k j : Nat} {y : Int} (hb : Bys zs) (hj : j < 256) (h0 : 0 ≤ y) (h1 : y ≤ 255) (hy : y ≠ (sealL (cpg zs pg k)).getD j 0) :
    ptE ((sealL (cpg zs pg k)).set j y) = 5 ∧ ptL ((sealL (cpg zs pg k)).set j y) = [] ∧ ptN ((sealL (cpg zs pg k)).set j y) = 0 := by
  have h := open_turned (cpg_bys hb k) (cpg_ok zs pg k) j hj y h0 h1 hy
  have := ptE_op (zs := (sealL (cpg zs pg k)).set j y) (by rw [h]; omega)
  rw [h] at this
  exact this

theorem RowI.take' {w : World} {a : Option Addr} {cap : Nat} {zs : List Int} (h : RowI w a cap zs) (k : Nat) (hk : k ≤ zs.length) : RowI w a cap (zs.take k) := by
  obtain ⟨h1, h2, h3⟩ := h
  refine ⟨by rw [List.length_take]; omega, h2, ?_⟩
  rcases h3 with h3 | ⟨b, off, ha, hc⟩
  · exact .inl (by rw [h3, List.take_nil])
  · refine .inr ⟨b, off, ha, fun i hi => ?_⟩
    rw [List.length_take] at hi
    rw [hc i (by omega), List.getD_eq_getElem?_getD, List.getD_eq_getElem?_getD, List.getElem?_take, if_pos (by omega)]
theorem Bys.set' {zs : List Int} (h : Bys zs) (j : Nat) {y : Int} (h0 : 0 ≤ y) (h1 : y ≤ 255) : Bys (zs.set j y) := fun z hz => by
  rcases List.mem_or_eq_of_mem_set hz with hz | rfl
  · exact h z hz
  · exact ⟨h0, h1⟩
end Go.Proofs.Ytbamdcjhcmogbaa.Oct
