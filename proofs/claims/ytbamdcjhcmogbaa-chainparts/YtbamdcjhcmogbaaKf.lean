/-
  Chains, plainly: what a page of a chain says when it is read; the parts are the bytes.
-/
import Derived.Test.YtbamdcjhcmogbaaKe
namespace Go.Proofs.Ytbamdcjhcmogbaa.Oct
open Go.RowKit

theorem nou_zero (n : Nat) : nouB (List.replicate n 0) = true := nouB_iff.2 fun j hj => by
  rw [List.length_replicate] at hj
  rw [List.getD_eq_getElem?_getD, List.getElem?_replicate, if_pos hj]
  rfl
theorem nx_cpg {zs pg : List Int} {k : Nat} (hX : 0 ≤ nxt pg k ∧ nxt pg k < 4096) : nx (padP (cpg zs pg k)) = nxt pg k := by
  have h := getI_mid [] (nums 4 (nxt pg k).toNat) (prt zs k ++ List.replicate (248 - (cpg zs pg k).body.length) 0) 0 4 (nums_bys _ _) rfl (by rw [nums_len]; rfl) (by rw [nums_len]; omega) (by rw [nums_len]; omega)
  unfold nx
  have e : (padP (cpg zs pg k)).body = [] ++ (nums 4 (nxt pg k).toNat ++ (prt zs k ++ List.replicate (248 - (cpg zs pg k).body.length) 0)) := by
    show (nums 4 (nxt pg k).toNat ++ prt zs k) ++ _ = _
    rw [List.append_assoc]
    rfl
  rw [e, h, numsZ (by have : (256 : Nat) ^ 4 = 4294967296 := rfl; omega)]
  omega

/-- A page of a chain, read. -/
theorem part_cpg {zs pg : List Int} {k : Nat} (hb : Bys zs) (hok : CtOk pg) (hl : pg.length = ned zs.length) (hk : k < pg.length) :
    ptE (sealL (cpg zs pg k)) = 0 ∧ ptL (sealL (cpg zs pg k)) = prt zs k ∧ ptN (sealL (cpg zs pg k)) = nxt pg k := by
  obtain ⟨h1, h2⟩ := open_seal (cpg_bys hb k) (cpg_ok zs pg k)
  have hX := nxt_in hok k
  have hm := prt_len zs k
  have hx := nx_cpg (zs := zs) hX
  have hkz : k * 244 < zs.length := by unfold ned at hl; omega
  have hB : ptB (padP (cpg zs pg k)) = true := by
    have hc : (padP (cpg zs pg k)).count = (prt zs k).length := rfl
    rw [ptB_yes rfl rfl (by rw [hc]; omega) (by rw [hc]; omega) ?_ (by rw [hx]; exact hX.2) ?_, hc, Int.toNat_natCast]
    · have e : (padP (cpg zs pg k)).body.drop (4 + (prt zs k).length) = List.replicate (248 - (cpg zs pg k).body.length) 0 := by
        show ((nums 4 (nxt pg k).toNat ++ prt zs k) ++ _).drop _ = _
        rw [List.drop_append_of_le_length (by rw [List.length_append, nums_len]; exact Nat.le_refl _), List.drop_of_length_le (by rw [List.length_append, nums_len]; exact Nat.le_refl _)]
        rfl
      rw [e]
      exact nou_zero _
    · rw [hx]
      unfold nxt
      split
      · next h => have := (hok (k + 1) h).1; omega
      · omega
    · rw [hx, hc]
      unfold nxt
      intro h0
      split at h0
      · next h => unfold ned at hl; omega
      · exact absurd rfl h0
  have hE : ptE (sealL (cpg zs pg k)) = 0 := by unfold ptE; rw [if_pos h1, h2, hB]; rfl
  refine ⟨hE, ?_, ?_⟩
  · unfold ptL
    rw [hE, if_pos rfl, h2]
    show (((nums 4 (nxt pg k).toNat ++ prt zs k) ++ _).drop 4).take ((prt zs k).length : Int).toNat = _
    rw [List.append_assoc, List.drop_left' (nums_len _ _), Int.toNat_natCast, List.take_left' rfl]
  · unfold ptN
    rw [hE, if_pos rfl, h2]
    exact hx

/-- The parts, one behind the other. -/
def prts (zs : List Int) (k : Nat) : List Int := zs.take (k * 244)
theorem prts_succ (zs : List Int) (k : Nat) : prts zs (k + 1) = prts zs k ++ prt zs k := by
  unfold prts prt
  rw [Nat.succ_mul, List.take_add]
theorem prts_all {zs : List Int} {k : Nat} (h : k = ned zs.length) : prts zs k = zs := by
  unfold prts
  exact List.take_of_length_le (by unfold ned at h; omega)
theorem prt_pos {zs : List Int} {k : Nat} (h : k < ned zs.length) : 0 < (prt zs k).length := by
  rw [prt_len]
  unfold ned at h
  omega
end Go.Proofs.Ytbamdcjhcmogbaa.Oct
