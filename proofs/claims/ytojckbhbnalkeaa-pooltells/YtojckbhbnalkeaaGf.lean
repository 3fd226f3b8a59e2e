/-
  device.settle.
-/
import Derived.Test.YtojckbhbnalkeaaGe
namespace Go.Proofs.Ytojckbhbnalkeaa.Oct
open Go.RowKit

theorem cell_setRow_far (w : World) (g : Nat) (cs : Array Value) (a : Addr) (h : a.block ≠ g) : (w.setRow g cs).cell? a = w.cell? a := World.cell?_of_block (w := w) (setRow_other w g a.block cs h)
theorem frozen_setRow_far (w : World) (g : Nat) (cs : Array Value) (a : Addr) (h : a.block ≠ g) : (w.setRow g cs).frozen? a = w.frozen? a := World.frozen?_of_block (w := w) (setRow_other w g a.block cs h)

theorem lay'_all (zs cs : List Int) (h : zs.length = cs.length) : lay' zs 0 cs = cs := by
  simp [lay', h]

theorem DevC.settled {w w1 : World} {p gN gL cN cL : Nat} {vS vO : Value} {f : Int} {D : Dv} (h : DevC w p gN gL cN cL vS vO f D) (hl : D.sure.length = D.now.length) (hw : w1.heap[p]? = w.heap[p]?) (hr : ∀ g, g ≠ p → g ≠ gL → w1.heap[g]? = w.heap[g]?)
    (ho : Own 0 w1 (.slice (some ⟨gL, 0, none⟩) D.now.length cL) D.now) : DevC (w1.setCell ⟨p, 2, none⟩ (.slice none 0 0)) p gN gL cN cL (.slice none 0 0) vO f (setD D) := by
  have k : ∀ g, g ≠ p → (w1.setCell ⟨p, 2, none⟩ (.slice none 0 0)).heap[g]? = w1.heap[g]? := fun g hg => Below.heap_setCell w1 ⟨p, 2, none⟩ (.slice none 0 0) g hg
  have hc := setCell_heap w1 p 2 (.slice none 0 0) _ _ _ (hw.trans h.cells)
  refine { h with cells := ?_, now := ?_, sure := ?_, since := World.ownsRow_nil _ _ _ _, out := ?_, fuse := h.fuse, pS := by simp [Value.ownBlock], NS := by simp [Value.ownBlock], LS := by simp [Value.ownBlock], SO := fun g hg => by simp [Value.ownBlock] at hg }
  · rw [hc, hl]; rfl
  · exact h.now.kept ((k gN h.pN.symm).trans (hr gN h.pN.symm h.NL))
  · exact ho.kept (k gL h.pL.symm)
  · exact h.out.keep (fun g hg => (k g (fun e => h.pO (e ▸ hg))).trans (hr g (fun e => h.pO (e ▸ hg)) (fun e => h.LO (e ▸ hg))))

end Go.Proofs.Ytojckbhbnalkeaa.Oct
