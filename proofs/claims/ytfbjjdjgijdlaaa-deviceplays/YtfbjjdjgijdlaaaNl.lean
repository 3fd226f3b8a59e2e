/-
  Clone.
-/
import Derived.Test.YtfbjjdjgijdlaaaNk
namespace Go.Proofs.Ytfbjjdjgijdlaaa.Oct
open Go.RowKit

theorem scells_one (l : List (Nat × List Int)) : ∀ v ∈ scells l, v.oneCell' = true := fun v hv => by
  simp only [scells, List.mem_flatMap, wcells, List.mem_cons, List.mem_map] at hv
  obtain ⟨x, _, rfl | ⟨z, _, rfl⟩⟩ := hv <;> rfl

theorem nil_sliceW (w : World) (a : Option Addr) (n c : Nat) : (binOp .eql 70 (.slice a n c) (.slice none 0 0)).run Try.prog w = .ok (.bool a.isNone) w := Lib.run_eql_slice_nil w 70 64 a n c 0 0 Try.underlying70

theorem wclone_none (w : World) : Calls Try.prog 49 #[.slice none 0 0] w fun e w' => e = .returned (.slice none 0 0) ∧ w = w' := by
  have hq := nil_sliceW w none 0 0
  go_enter Try.func49, Try.ntmps49
  go_wp2
  go_ret
  exact ⟨rfl, rfl⟩

set_option maxHeartbeats 1000000 in
set_option maxRecDepth 20000 in
theorem wclone_some (g c : Nat) (l : List (Nat × List Int)) (w : World) (h : w.ownsRow 0 64 257 (.slice (some ⟨g, 0, none⟩) l.length c) l.length (scells l)) (hsz : l.length ≤ 1000000) :
    Calls Try.prog 49 #[.slice (some ⟨g, 0, none⟩) l.length c] w fun e w' => ∃ g' c', e = .returned (.slice (some ⟨g', 0, none⟩) l.length c') ∧ w'.ownsRow w.heap.size 64 257 (.slice (some ⟨g', 0, none⟩) l.length c') l.length (scells l) ∧ Below w.heap.size w w' := by
  obtain ⟨i0, zz, hi0, hz0, hz1, hz2, hz3⟩ := parts64
  have lg := (World.ownsRow.lt h g rfl).2
  have HN : Hid (∀ (j : Nat) (u : Value), (scells l)[j]? = some u → (w.alloc (.cells #[] 64)).cell? ((⟨g, 0, none⟩ : Addr).add j) = some u) := fun j u hj => by
    have hlt : j < (scells l).length := by
      rcases Nat.lt_or_ge j (scells l).length with e | e
      · exact e
      · rw [List.getElem?_eq_none e] at hj; cases hj
    have e1 := World.ownsRow.cellAt h j (by have := h.1; omega)
    rw [show (⟨g, 0, none⟩ : Addr).add j = ⟨g, j, none⟩ by unfold Addr.add; split <;> simp_all]
    exact (World.cell?_alloc_lt _ _ _ lg).trans (e1.trans hj)
  have hl : (scells l).length = l.length * 257 := by have := h.1; omega
  have HL : Hid ((scells l).length = l.length * 257) := hl
  have ho : (w.alloc (.cells #[] 64)).ownsRow w.heap.size 64 257 (.slice (some ⟨w.heap.size, 0, none⟩) 0 0) 0 [] := World.ownsRow_made w #[] 0 (Nat.le_refl _) (by simp [maxLen]) rfl
  have hq := nil_sliceW w (some ⟨g, 0, none⟩) l.length c
  clear h hl
  go_enter Try.func49, Try.ntmps49
  go_wp2_with (at_builtin; refine wpList_append_own _ rfl _ _ 70 rfl w.heap.size 64 i0 zz 257 264 Try.underlying70 hi0 hz0 hz1 hz2 hz3 (by decide) _ _ _ rfl ho ⟨g, 0, none⟩ l.length c (scells l) rfl (by rw [HL.out]) HN.out (scells_one l) (by unfold maxLen; omega) (by omega) (by simp) ?_)
  intro v' w1 hown' hgrow hnil
  have hb : Below w.heap.size w w1 := ((Below.refl w.heap.size w).alloc (Nat.le_refl _) _).grown hgrow (by simp) (fun k hk => by simp [Value.ownBlock] at hk; omega)
  have hv : ∃ g' c', v' = .slice (some ⟨g', 0, none⟩) l.length c' := by
    rcases hown'.2 with ⟨e, _⟩ | ⟨g', c', cur, e, _⟩
    · exact (hnil e).elim
    · exact ⟨g', c', e⟩
  obtain ⟨g', c', hv⟩ := hv
  have HO : Hid (w1.ownsRow w.heap.size 64 257 (.slice (some ⟨g', 0, none⟩) l.length c') l.length (scells l)) := by
    rw [← hv]
    exact hown'
  clear hown' hgrow hnil HN ho
  rw [hv]
  go_wp2
  go_ret
  exact ⟨g', c', rfl, HO.out, hb⟩

end Go.Proofs.Ytfbjjdjgijdlaaa.Oct
