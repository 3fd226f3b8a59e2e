/-
  The pages that are wanted: a row of rows, in memory.
-/
import Derived.Test.YtojckbhbnalkeaaIw
namespace Go.Proofs.Ytojckbhbnalkeaa.Oct
open Go.RowKit

theorem infoB : (Try.prog.info? 31).map (fun i => (i.zero, i.size, i.bytes)) = some (some (.slice none 0 0), 1, 24) := by kernel_rfl

/-- Twenty rows of 256 bytes, the first k of them laid. -/
structure WantAt (w : World) (F : Nat → Prop) (B gW k : Nat) (ws : List (List Int)) : Prop where
  len : ws.length = 20
  base : B ≤ gW
  far : ¬ F gW
  blk : ∃ cs : Array Value, w.heap[gW]? = some (.cells cs 31 (0, 0)) ∧ cs.size = 20 ∧ ∀ i, i < k → ∃ g, cs[i]? = some (.slice (some ⟨g, 0, none⟩) 256 256) ∧ B ≤ g ∧ g ≠ gW ∧ ¬ F g ∧ g < w.heap.size ∧ Row w (some ⟨g, 0, none⟩) 256 (ws.getD i []) ∧ (ws.getD i []).length = 256

section
variable {w w' : World} {F F' : Nat → Prop} {B gW k : Nat} {ws : List (List Int)}

theorem WantAt.lt (h : WantAt w F B gW k ws) : gW < w.heap.size := by
  obtain ⟨cs, h1, _⟩ := h.blk
  exact (Array.getElem?_eq_some_iff.1 h1).1

theorem WantAt.step (h : WantAt w F B gW k ws) (st : Step F F' w w') : WantAt w' F' B gW k ws := by
  have hlt := h.lt
  obtain ⟨cs, h1, h2, h3⟩ := h.blk
  refine ⟨h.len, h.base, fun e => ?_, cs, (st.1.block gW hlt h.far).trans h1, h2, fun i hi => ?_⟩
  · rcases st.2 gW e with e | e
    · exact h.far e
    · omega
  · obtain ⟨g, e1, e2, e3, e4, e5, e6, e7⟩ := h3 i hi
    have r := e6.step e4 e5 st
    exact ⟨g, e1, e2, e3, r.2.1, r.2.2, r.1, e7⟩

theorem WantAt.below (h : WantAt w F B gW k ws) (st : Below w.heap.size w w') : WantAt w' F B gW k ws := h.step (Step.ofB st)

theorem WantAt.thaw (h : WantAt w F B gW k ws) (i : Nat) : w.frozen? ⟨gW, i, none⟩ = false := by
  obtain ⟨cs, h1, _⟩ := h.blk
  unfold World.frozen?
  rw [h1]
  simp

theorem WantAt.cell (h : WantAt w F B gW k ws) (i : Nat) (hi : i < 20) : ∃ v, w.cell? ⟨gW, i, none⟩ = some v := by
  obtain ⟨cs, h1, h2, _⟩ := h.blk
  rw [cell_of_row w gW _ _ _ (0, 0) h1]
  exact ⟨cs[i]'(by omega), Array.getElem?_eq_getElem (by omega)⟩

theorem WantAt.at (h : WantAt w F B gW k ws) (i : Nat) (hi : i < k) : ∃ g, w.cell? ⟨gW, i, none⟩ = some (.slice (some ⟨g, 0, none⟩) 256 256) ∧ B ≤ g ∧ g ≠ gW ∧ ¬ F g ∧ g < w.heap.size ∧ Row w (some ⟨g, 0, none⟩) 256 (ws.getD i []) ∧ (ws.getD i []).length = 256 := by
  obtain ⟨cs, h1, h2, h3⟩ := h.blk
  obtain ⟨g, e1, e⟩ := h3 i hi
  refine ⟨g, ?_, e⟩
  rw [cell_of_row w gW _ _ _ (0, 0) h1]
  exact e1

/-- One page is wanted anew. -/
theorem WantAt.set (h : WantAt w F B gW k ws) {i g : Nat} {b : List Int} (hi : i ≤ k) (h20 : i < 20) (hg : B ≤ g) (hgw : g ≠ gW) (hF : ¬ F g) (hgl : g < w.heap.size) (hr : Row w (some ⟨g, 0, none⟩) 256 b) (hb : b.length = 256) :
    WantAt (w.setCell ⟨gW, i, none⟩ (.slice (some ⟨g, 0, none⟩) 256 256)) F B gW (if i = k then k + 1 else k) (ws.set i b) := by
  obtain ⟨cs, h1, h2, h3⟩ := h.blk
  have hlen := h.len
  have hget : ∀ y : Nat, (ws.set i b).getD y [] = if y = i then b else ws.getD y [] := fun y => by
    simp only [List.getD_eq_getElem?_getD, List.getElem?_set]
    by_cases hyx : y = i
    · rw [if_pos hyx.symm, if_pos (by omega), if_pos hyx]; rfl
    · rw [if_neg (fun e => hyx e.symm), if_neg hyx]
  have hrow : ∀ (g' : Nat) (z : List Int), g' ≠ gW → g' < w.heap.size → Row w (some ⟨g', 0, none⟩) 256 z → Row (w.setCell ⟨gW, i, none⟩ (.slice (some ⟨g, 0, none⟩) 256 256)) (some ⟨g', 0, none⟩) 256 z := fun g' z hne hl hz =>
    Row.chF (F := fun x => x = gW) hz hne ((Ch.refl w.heap.size (fun x => x = gW) w).setCell (p := ⟨gW, i, none⟩) (.inr rfl) _)
  refine ⟨by rw [List.length_set]; exact h.len, h.base, h.far, _, setCell_heap w gW i _ cs _ _ h1, by simpa using h2, fun j hj => ?_⟩
  by_cases hji : j = i
  · subst hji
    refine ⟨g, ?_, hg, hgw, hF, by rw [size_setCell]; exact hgl, ?_, ?_⟩
    · rw [Array.getElem?_setIfInBounds_self_of_lt (by omega)]
    · rw [hget, if_pos rfl]; exact hrow g b hgw hgl hr
    · rw [hget, if_pos rfl]; exact hb
  · have hjk : j < k := by split at hj <;> omega
    obtain ⟨g', e1, e2, e3, e4, e5, e6, e7⟩ := h3 j hjk
    refine ⟨g', ?_, e2, e3, e4, by rw [size_setCell]; exact e5, ?_, ?_⟩
    · rw [Array.getElem?_setIfInBounds_ne (by omega)]; exact e1
    · rw [hget, if_neg hji]; exact hrow g' _ e3 e5 e6
    · rw [hget, if_neg hji]; exact e7
end

/-- The row of rows, made. -/
theorem WantAt.made {w w1 : World} {F : Nat → Prop} {B : Nat} (hB : B ≤ w.heap.size) (hF : ∀ k, F k → k < w.heap.size) (h : w1.ownsRow w.heap.size 31 1 (.slice (some ⟨w.heap.size, 0, none⟩) 20 20) 20 (madeCells (Value.slice none 0 0).cells (20 * 1)).toList) (z : List (List Int)) (hz : z.length = 20) : WantAt w1 F B w.heap.size 0 z := by
  rcases h.2 with hn | ⟨g, cap, cur, e, h1, h2, h3, h4, h5, h6⟩
  · exact absurd hn (by simp)
  · simp only [Value.slice.injEq, Option.some.injEq, Addr.mk.injEq] at e
    obtain ⟨⟨rfl, _⟩, _, rfl⟩ := e
    exact ⟨hz, hB, fun e => by have := hF _ e; omega, cur, h2, by omega, fun i hi => by omega⟩

theorem page_noughts (x : Nat) (hx : x < 20) : pageOf (List.replicate (20 * 256) 0) x = List.replicate 256 0 := by
  unfold pageOf
  rw [List.drop_replicate, List.take_replicate]
  congr 1
  omega

theorem noughts_at (x : Nat) (hx : x < 20) : (List.replicate 20 (List.replicate 256 (0 : Int))).getD x [] = List.replicate 256 0 := by
  rw [List.getD_eq_getElem?_getD, List.getElem?_replicate, if_pos hx]
  rfl

/-- At the start: all noughts. -/
theorem TellI.start : TellI (newD (List.replicate (20 * 256) 0)) [] (List.replicate 20 (List.replicate 256 0)) 0 where
  well := Well.new _
  ok := newD_ok (bys_rep _) 20 List.length_replicate (by omega) (by omega)
  n := by simp only [newD, List.length_replicate]
  ops := Nat.le_refl _
  since := Nat.le_refl _
  len := Nat.zero_le _
  pins := fun f hf => by cases hf
  pg := fun f hf => by cases hf
  nd := List.nodup_nil
  here := fun f hf => by cases hf
  there := fun x hx _ => (page_noughts x hx).trans (noughts_at x hx).symm
end Go.Proofs.Ytojckbhbnalkeaa.Oct
