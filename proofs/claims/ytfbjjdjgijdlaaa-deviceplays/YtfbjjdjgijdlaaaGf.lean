/-
  device.settle.
-/
import Derived.Test.YtfbjjdjgijdlaaaGe
namespace Go.Proofs.Ytfbjjdjgijdlaaa.Oct
open Go.RowKit

theorem cell_setRow_far (w : World) (g : Nat) (cs : Array Value) (a : Addr) (h : a.block ≠ g) : (w.setRow g cs).cell? a = w.cell? a := World.cell?_of_block (w := w) (setRow_other w g a.block cs h)
theorem frozen_setRow_far (w : World) (g : Nat) (cs : Array Value) (a : Addr) (h : a.block ≠ g) : (w.setRow g cs).frozen? a = w.frozen? a := World.frozen?_of_block (w := w) (setRow_other w g a.block cs h)

theorem lay'_all (zs cs : List Int) (h : zs.length = cs.length) : lay' zs 0 cs = cs := by
  simp [lay', h]

theorem DevC.settled {w w1 : World} {p gN gL cN cL : Nat} {vS vO : Value} {f : Int} {D : Dv} (h : DevC w p gN gL cN cL vS vO f D) (hl : D.sure.length = D.now.length) (hw : w1.heap[p]? = w.heap[p]?) (hr : ∀ g, g ≠ p → g ≠ gL → w1.heap[g]? = w.heap[g]?)
    (ho : Own 0 w1 (.slice (some ⟨gL, 0, none⟩) D.now.length cL) D.now) : DevC (w1.setCell ⟨p, 2, none⟩ (.slice none 0 0)) p gN gL cN cL (.slice none 0 0) vO f (setD D) := by
  have k : ∀ g, g ≠ p → (w1.setCell ⟨p, 2, none⟩ (.slice none 0 0)).heap[g]? = w1.heap[g]? := fun g hg => Below.heap_setCell w1 ⟨p, 2, none⟩ (.slice none 0 0) g hg
  have hc := setCell_heap w1 p 2 (.slice none 0 0) _ _ _ (hw.trans h.cells)
  refine { h with cells := ?_, now := ?_, sure := ?_, since := World.ownsRow_nil _ _ _ _, out := ?_, fuse := h.fuse, pS := by simp [Value.ownBlock], NS := by simp [Value.ownBlock], LS := by simp [Value.ownBlock], SO := fun g hg => by simp [Value.ownBlock] at hg }
  · rw [hc, hl]; rfl
  · exact h.now.kept ((k gN h.pN.symm).trans (hr gN h.pN.symm h.NL))
  · exact ho.kept (k gL h.pL.symm)
  · exact h.out.keep (fun g hg => (k g (fun e => h.pO (e ▸ hg))).trans (hr g (fun e => h.pO (e ▸ hg)) (fun e => h.LO (e ▸ hg))))

set_option maxHeartbeats 1000000 in
theorem settle_any {w : World} {p : Nat} {F : Nat → Prop} {D : Dv} (h : Dev w p F D) :
    Calls Try.prog 45 #[.pointer (some ⟨p, 0, none⟩)] w fun e w' => e = .returned (.tuple #[]) ∧ Dev w' p F (setD D) ∧ Ch w.heap.size F w w' := by
  have ok' := setD_ok h.1
  obtain ⟨ok, hF, gN, gL, cN, cL, vS, vO, f, hc, hfo⟩ := h
  obtain ⟨c0, c1, c2, _, _, _, _, z⟩ := hc.at
  have z2 := z 2
  have hp : F p := hfo p (.inl rfl)
  have hL : F gL := hfo gL (.inr (.inr (.inl rfl)))
  obtain ⟨cur, q1, q2, q3, q4, q5, q6⟩ := hc.sure.cur
  have hl : D.sure.length = D.now.length := by rw [ok.sure, ok.now]
  have hrow := row_news (hc.now.row' ok.bnow).2
  have ho := own_lay (off := 0) (cs := D.now) q1 q2 q3 q4 q5 q6 (by omega)
  rw [lay'_all _ _ hl, hl] at ho
  obtain ⟨X, hX⟩ : ∃ X, X = (cur.toList.take 0 ++ D.now.map (Value.int .u8) ++ cur.toList.drop (0 + (D.now.map (Value.int .u8)).length)).toArray := ⟨_, rfl⟩
  rw [← hX] at ho
  rw [hl] at c1 q2
  have k0 : ∀ cs, (w.drew.setRow gL cs).cell? ⟨p, 0, none⟩ = some (.slice (some ⟨gN, 0, none⟩) D.now.length cN) := fun cs => (cell_setRow_far _ _ _ _ hc.pL).trans c0
  have k1 : ∀ cs, (w.drew.setRow gL cs).cell? ⟨p, 1, none⟩ = some (.slice (some ⟨gL, 0, none⟩) D.now.length cL) := fun cs => (cell_setRow_far _ _ _ _ hc.pL).trans c1
  have k2 : ∀ cs, (w.drew.setRow gL cs).cell? ⟨p, 2, none⟩ = some vS := fun cs => (cell_setRow_far _ _ _ _ hc.pL).trans c2
  have k3 : ∀ cs, (w.drew.setRow gL cs).frozen? ⟨p, 2, none⟩ = false := fun cs => (frozen_setRow_far _ _ _ _ hc.pL).trans z2
  have hd : Hid (Dev ((w.setRow gL X).setCell ⟨p, 2, none⟩ (.slice none 0 0)) p F (setD D)) := by
    refine ⟨ok', fun k hk => by rw [size_setCell]; simp [World.setRow]; exact hF k hk, gN, gL, cN, cL, _, vO, f, hc.settled hl (setRow_other _ _ _ _ hc.pL) (fun g _ hg => setRow_other _ _ _ _ hg) ho, fun k hk => ?_⟩
    rcases hk with hk | hk | hk | hk | hk
    · exact hfo k (.inl hk)
    · exact hfo k (.inr (.inl hk))
    · exact hfo k (.inr (.inr (.inl hk)))
    · simp [Value.ownBlock] at hk
    · exact hfo k (.inr (.inr (.inr (.inr hk))))
  have HC : Hid (Ch w.heap.size F w ((w.setRow gL X).setCell ⟨p, 2, none⟩ (.slice none 0 0))) :=
    ((Ch.refl _ F w).setRow (.inr hL) _).setCell (p := ⟨p, 2, none⟩) (.inr hp) _
  have HR : Hid (∀ (j : Nat) (u : Value), (D.now.map (Value.int .u8))[j]? = some u → w.cell? ((⟨gN, 0, none⟩ : Addr).add j) = some u) := hrow
  have hfit : Hid (0 + (D.now.map (Value.int .u8)).length ≤ cur.size) := by show _ ≤ _; rw [q4]; simp; exact q2
  have Q1 : Hid (w.heap[gL]? = some (.cells cur 5 (0, 0))) := q1
  have HX : Hid (X = (cur.toList.take 0 ++ D.now.map (Value.int .u8) ++ cur.toList.drop (0 + (D.now.map (Value.int .u8)).length)).toArray) := hX
  clear hX hl ho hrow q1 q2 q3 q4 q5 q6 hc ok ok' z
  go_enter Try.func45, Try.ntmps45
  go_wp2_with fail
  go_region_held3 (fun w' => w'.cell? ⟨p, 0, none⟩ = some (.slice (some ⟨gN, 0, none⟩) D.now.length cN) ∧ w'.cell? ⟨p, 1, none⟩ = some (.slice (some ⟨gL, 0, none⟩) D.now.length cL)) (first | exact ⟨k0 _, k1 _⟩ | go_keep)
    ((refine step_copy_at (by rfl) (.tmp 5) (.tmp 9) 28 28 (by rfl) 5 Try.underlying28 size5 gL 0 D.now.length cL ⟨gN, 0, none⟩ D.now.length cN (by rfl) (by rfl) cur 5 Q1.out (D.now.map (Value.int .u8)) (by simp) HR.out hfit.out (one_cells _) X HX.out ?_))
  go_wp2
  go_end0
  exact ⟨rfl, hd.out.keep (Nat.le_refl _) (fun _ _ => rfl), HC.out.drew⟩
end Go.Proofs.Ytfbjjdjgijdlaaa.Oct
