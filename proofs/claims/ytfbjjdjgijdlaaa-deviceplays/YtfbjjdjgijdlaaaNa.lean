/-
  The document's device in memory: arrays of pages.
-/
import Derived.Test.YtfbjjdjgijdlaaaGs
import Derived.Test.YtfbjjdjgijdlaaaCp
namespace Go.Proofs.Ytfbjjdjgijdlaaa.Oct
open Go.RowKit

/-- Pages: each a row of its own, none of them in a block of M. -/
def Pgs (w : World) (M : Nat → Prop) (B : Nat) (vs : List Value) (k : Nat) (pz : Nat → List Int) : Prop :=
  ∀ i, i < k → ∃ g c, vs[i]? = some (.slice (some ⟨g, 0, none⟩) 256 c) ∧ Own 0 w (.slice (some ⟨g, 0, none⟩) 256 c) (pz i) ∧ ¬ M g ∧ B ≤ g

theorem Pgs.keep {w w' : World} {M : Nat → Prop} {B : Nat} {vs : List Value} {k : Nat} {pz : Nat → List Int} (h : Pgs w M B vs k pz) (hk : ∀ g, g < w.heap.size → ¬ M g → w'.heap[g]? = w.heap[g]?) : Pgs w' M B vs k pz := fun i hi => by
  obtain ⟨g, c, h1, h2, h3, h4⟩ := h i hi
  exact ⟨g, c, h1, h2.kept (hk g h2.lt2.2 h3), h3, h4⟩

theorem Pgs.mono {w : World} {M M' : Nat → Prop} {B : Nat} {vs : List Value} {k : Nat} {pz : Nat → List Int} (h : Pgs w M B vs k pz) (hM : ∀ g, g < w.heap.size → M' g → M g) : Pgs w M' B vs k pz := fun i hi => by
  obtain ⟨g, c, h1, h2, h3, h4⟩ := h i hi
  exact ⟨g, c, h1, h2, fun e => h3 (hM g h2.lt2.2 e), h4⟩

theorem Pgs.snoc {w : World} {M : Nat → Prop} {B : Nat} {vs : List Value} {k : Nat} {pz : Nat → List Int} (h : Pgs w M B vs k pz) (hl : vs.length = k) {g c : Nat} {zs : List Int} (ho : Own 0 w (.slice (some ⟨g, 0, none⟩) 256 c) zs) (hm : ¬ M g) (hB : B ≤ g) (hz : pz k = zs) : Pgs w M B (vs ++ [.slice (some ⟨g, 0, none⟩) 256 c]) (k + 1) pz := fun i hi => by
  by_cases e : i < k
  · obtain ⟨g', c', h1, h2⟩ := h i e
    exact ⟨g', c', by rw [List.getElem?_append_left (by omega)]; exact h1, h2⟩
  · have : i = k := by omega
    subst this
    exact ⟨g, c, by rw [← hl]; simp, by rw [hz]; exact ho, hm, hB⟩

/-- One page of an array is another one. -/
theorem Pgs.set {w : World} {M : Nat → Prop} {B : Nat} {vs : List Value} {k : Nat} {pz pz' : Nat → List Int} (h : Pgs w M B vs k pz) (hl : vs.length = k) {j : Nat} (hj : j < k) {g c : Nat} (ho : Own 0 w (.slice (some ⟨g, 0, none⟩) 256 c) (pz' j)) (hm : ¬ M g) (hB : B ≤ g) (hz : ∀ i, i < k → i ≠ j → pz' i = pz i) : Pgs w M B (vs.set j (.slice (some ⟨g, 0, none⟩) 256 c)) k pz' := fun i hi => by
  by_cases e : i = j
  · subst e
    exact ⟨g, c, by rw [List.getElem?_set_self (by omega)], ho, hm, hB⟩
  · obtain ⟨g', c', h1, h2, h3⟩ := h i hi
    exact ⟨g', c', by rw [List.getElem?_set_ne (by omega)]; exact h1, by rw [hz i hi e]; exact h2, h3⟩

theorem info28 : (Try.prog.info? 28).map (fun i => (i.zero, i.size, i.bytes)) = some (some (.slice none 0 0), 1, 24) := by kernel_rfl

def MakeP (l c : Value) : Sem Value := Instr.makeSlice 28 l c
theorem makeP_eq (l c : Value) : Instr.makeSlice 28 l c = MakeP l c := rfl

/-- make([]byte, 256). -/
theorem make_p : ∃ Z : Array Value, (∀ w : World, (MakeP (.int .i64 256) (.int .i64 256)).run Try.prog w = .ok (.slice (some ⟨w.heap.size, 0, none⟩) 256 256) (w.alloc (.cells Z 5))) ∧
    ∀ (w : World), Own 0 (w.alloc (.cells Z 5)) (.slice (some ⟨w.heap.size, 0, none⟩) 256 256) (List.replicate 256 0) := by
  obtain ⟨i0, hi0, hz0, hz1, hz2⟩ := info_parts info5
  refine ⟨madeCells (Value.int .u8 0).cells 256, fun w => ?_, fun w => ?_⟩
  · have hr := run_make (P := Try.prog) w 28 5 i0 (.int .u8 0) Try.underlying28 hi0 hz0 .i64 .i64 256 256 (by omega) (by omega) (by rw [hz2]; omega) (by omega)
    rw [hz1] at hr
    exact hr
  · have h := World.ownsRow_lit (base := 0) (e := 5) (size := 1) w (madeCells (Value.int .u8 0).cells 256) 256 (Nat.zero_le _) (by simp [maxLen]) (by rw [size_madeCells])
    exact made_own h
end Go.Proofs.Ytfbjjdjgijdlaaa.Oct
