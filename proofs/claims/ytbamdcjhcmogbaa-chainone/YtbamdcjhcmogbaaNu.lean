/-
  Noughts: the document's.
-/
import Derived.Test.YtbamdcjhcmogbaaRc
namespace Go.Proofs.Ytbamdcjhcmogbaa.Oct
open Go.RowKit

def nouB (zs : List Int) : Bool := zs.all (fun z => z == 0)
theorem nouB_iff {zs : List Int} : nouB zs = true ↔ ∀ j, j < zs.length → zs.getD j 0 = 0 := by
  unfold nouB
  rw [List.all_eq_true]
  constructor
  · intro h j hj
    have := h (zs.getD j 0) (by rw [List.getD_eq_getElem?_getD, List.getElem?_eq_getElem hj]; exact List.getElem_mem hj)
    simpa using this
  · intro h z hz
    obtain ⟨j, hj, rfl⟩ := List.getElem_of_mem hz
    have := h j hj
    rw [List.getD_eq_getElem?_getD, List.getElem?_eq_getElem hj] at this
    simpa using this

theorem nouB_no {zs : List Int} {j : Nat} (hj : j < zs.length) (h : zs.getD j 0 ≠ 0) : nouB zs = false := by
  cases hn : nouB zs
  · rfl
  · exact absurd (nouB_iff.1 hn j hj) h

set_option maxHeartbeats 1000000 in
theorem rnoughts_v (b off cap n m : Nat) (zs : List Int) (w : World) (h : Row w (some ⟨b, off, none⟩) cap zs) (hn : zs.length = n) (hm0 : m ≤ n) (V : Bool) (hV : nouB (zs.drop m) = V) :
    Calls Try.prog 28 #[.slice (some ⟨b, off, none⟩) n cap, .int .i64 m] w fun e w' => e = .returned (.bool V) ∧ w = w' := by
  subst hn
  have hm := Nat.le_trans h.2.1 h.2.2.1
  unfold maxLen at hm
  have HCE : Hid (∀ i, i < zs.length → w.cell? ⟨b, off + i, none⟩ = some (.int .u8 (zs.getD i 0))) := h.cells
  have HN : Hid (∀ i, i < zs.length → m ≤ i → zs.getD i 0 ≠ 0 → V = false) := fun i hi hmi hx => by
    rw [← hV]
    exact nouB_no (j := i - m) (by rw [List.length_drop]; omega) (by rw [List.getD_eq_getElem?_getD, List.getElem?_drop, ← List.getD_eq_getElem?_getD, show m + (i - m) = i by omega]; exact hx)
  have HY : Hid ((∀ i, i < zs.length → m ≤ i → zs.getD i 0 = 0) → V = true) := fun hh => by
    rw [← hV]
    refine nouB_iff.2 fun j hj => ?_
    rw [List.length_drop] at hj
    rw [List.getD_eq_getElem?_getD, List.getElem?_drop, ← List.getD_eq_getElem?_getD]
    exact hh _ (by omega) (by omega)
  clear hV h
  go_enter Try.func28, Try.ntmps28
  go_wp2_with fail
  go_loop [5] (fun i => ∃ k : Nat, m ≤ k ∧ k ≤ zs.length ∧ i = .int .i64 k ∧ Hid (∀ j, j < k → m ≤ j → zs.getD j 0 = 0)) (fun i => zs.length - (intOf i).toNat)
  case atStart => exact ⟨m, Nat.le_refl _, hm0, rfl, fun j hj h => by omega⟩
  case round =>
    obtain ⟨k, hmk, hk, rfl, HK⟩ := hrel
    by_cases hlt : k < zs.length
    · have hc := HCE.out k hlt
      obtain ⟨x, hx⟩ : ∃ x, zs.getD k 0 = x := ⟨_, rfl⟩
      rw [hx] at hc
      by_cases h0 : x = 0
      · subst h0
        have HX : Hid (zs.getD k 0 = 0) := hx
        clear hx
        go_wp2
        go_round
        case rel => exact ⟨k + 1, by omega, by omega, by go_num, fun j hj h => by
          by_cases e : j = k
          · rw [e]; exact HX.out
          · exact HK.out j (by omega) h⟩
        case measure => simp [intOf]; omega
      · have e : V = false := HN.out k hlt hmk (by rw [hx]; exact h0)
        have h0b : (x != 0) = true := by simpa using h0
        subst e
        clear hx h0
        go_wp2
        go_ret
        exact ⟨rfl, rfl⟩
    · have e : V = true := HY.out fun j hj h => HK.out j (by omega) h
      subst e
      go_wp2
      go_ret
      exact ⟨rfl, rfl⟩
end Go.Proofs.Ytbamdcjhcmogbaa.Oct
