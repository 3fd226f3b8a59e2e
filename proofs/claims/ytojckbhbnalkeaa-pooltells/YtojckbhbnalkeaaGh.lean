/-
  device: what a Write does (writing.do).
-/
import Derived.Test.YtojckbhbnalkeaaGg
import Derived.Deep.RegionLaw
import Derived.Deep.DrawnRows
namespace Go.Proofs.Ytojckbhbnalkeaa.Oct
open Go.RowKit

theorem size64 : (Try.prog.info? 81).map (·.size) = some 257 := by kernel_rfl
theorem info64 : (Try.prog.info? 81).map (fun i => (i.zero.map (·.cells.size), i.size, i.bytes)) = some (some 257, 257, 264) := by kernel_rfl
theorem parts64 : ∃ i z, Try.prog.info? 81 = some i ∧ i.zero = some z ∧ i.size = 257 ∧ i.bytes = 264 ∧ z.cells.size = 257 := by
  have h := info64
  cases hi : Try.prog.info? 81 with
  | none => rw [hi] at h; simp at h
  | some i =>
    rw [hi] at h
    simp only [Option.map_some, Option.some.injEq, Prod.mk.injEq] at h
    cases hz : i.zero with
    | none => rw [hz] at h; simp at h
    | some z =>
      rw [hz] at h
      simp only [Option.map_some, Option.some.injEq] at h
      exact ⟨i, z, rfl, hz, h.2.1, h.2.2, h.1⟩
theorem row64 : ∃ d, Try.prog.underlying 81 = some d ∧ d.isRow = true := ⟨_, Try.underlying81, rfl⟩

theorem wcells_len {x : Nat × List Int} (h : x.2.length = 256) : (wcells x).length = 257 := by simp [wcells, h]
theorem wcells_one (x : Nat × List Int) : ∀ v ∈ wcells x, v.oneCell' = true := by
  intro v hv
  rcases List.mem_cons.1 hv with rfl | hv
  · rfl
  · exact one_cells _ v hv

theorem WriteAt.range {w : World} {q o pg : Nat} {b : List Int} (h : WriteAt w q o pg b) (hb : b.length = 256) : w.rangeAt q o (wcells (pg, b)) := by
  intro j v hj
  cases j with
  | zero => simp [wcells] at hj; subst hj; exact h.1
  | succ j =>
    simp only [wcells, List.getElem?_cons_succ, List.getElem?_map] at hj
    have hlt : j < b.length := by
      by_cases hlt : j < b.length
      · exact hlt
      · rw [List.getElem?_eq_none (by omega)] at hj; exact absurd hj (by simp)
    rw [show o + (j + 1) = o + 1 + j by omega, h.2 j (by omega), ← hj, List.getD_eq_getElem?_getD, List.getElem?_eq_getElem hlt]
    rfl

theorem WriteAt.of_range {w : World} {q o pg : Nat} {b : List Int} (hb : b.length = 256) (h : w.rangeAt q o (wcells (pg, b))) : WriteAt w q o pg b := by
  refine ⟨h 0 _ rfl, fun i hi => ?_⟩
  have := h (i + 1) (.int .u8 (b.getD i 0)) (by simp only [wcells, List.getElem?_cons_succ, List.getElem?_map, List.getD_eq_getElem?_getD]; rw [List.getElem?_eq_getElem (by omega)]; rfl)
  rw [show o + 1 + i = o + (i + 1) by omega]
  exact this

/-- A whole write is loaded. -/
theorem load_write (w : World) (q o : Nat) (cs : List Value) (hl : cs.length = 257) (hr : w.rangeAt q o cs) : (Instr.loadAt 81 (.pointer (some ⟨q, o, none⟩))).run Try.prog w = .ok (.agg cs.toArray) w := by
  obtain ⟨d, h1, h2⟩ := row64
  exact run_loadAt_mid w q o 81 cs d hr h1 h2 (by rw [hl]; exact size64)

theorem fill_list : ∀ (l : List Value) (k : Nat) (Z : Array Value), k + l.length ≤ Z.size → ((l.zipIdx k).foldl (fun (a : Array Value) (x : Value × Nat) => a.setIfInBounds (0 * 257 + x.2) x.1) Z).toList = Z.toList.take k ++ l ++ Z.toList.drop (k + l.length)
  | [], k, Z, _ => by simp
  | v :: r, k, Z, h => by
    simp only [List.length_cons] at h
    rw [List.zipIdx_cons, List.foldl_cons]
    rw [fill_list r (k + 1) _ (by simp; omega)]
    have hl : Z.toList.length = Z.size := by simp
    simp only [Array.toList_setIfInBounds, Nat.zero_mul, Nat.zero_add, List.length_cons]
    rw [List.take_add_one, List.take_set_of_le (by omega), List.getElem?_set_self (by omega), List.drop_set_of_lt (by omega)]
    simp [Nat.add_assoc, Nat.add_comm 1]

theorem fill_one (Z cs : Array Value) (hz : Z.size = 257) (hc : cs.size = 257) : Instr.fill (fun i => some (i * 257, 257)) Z [(0, .agg cs)] = some cs := by
  have e : (Value.agg cs).cells = cs := rfl
  unfold Instr.fill
  show (if ((Value.agg cs).cells.size ≠ 257 || 0 * 257 + (Value.agg cs).cells.size > Z.size) = true then none else Instr.fill _ _ []) = some cs
  rw [if_neg (by rw [e]; simp [hz, hc])]
  unfold Instr.fill
  rw [e]
  congr 1
  apply Array.ext'
  rw [← Array.foldl_toList, Array.toList_zipIdx]
  have := fill_list cs.toList 0 Z (by simp [hz, hc])
  rw [show (fun (a : Array Value) (x : Value × Nat) => match x with | (c, j) => a.setIfInBounds (0 * 257 + j) c) = (fun (a : Array Value) (x : Value × Nat) => a.setIfInBounds (0 * 257 + x.2) x.1) from rfl, this]
  simp [hz, hc]

theorem build_write (w : World) (cs : Array Value) (hl : cs.size = 257) : (Instr.buildSlice 70 1 #[(0, .agg cs)]).run Try.prog w = .ok (.slice (some ⟨w.heap.size, 0, none⟩) 1 1) (w.alloc (.cells cs 81)) := by
  obtain ⟨i0, z, hi0, hz0, hz1, hz2, hz3⟩ := parts64
  have hz : ∀ w, (zeroValue 81).run Try.prog w = .ok z w := fun w => by simp [zeroValue, typeInfo, hi0, hz0]
  have hs : ∀ w, (sizeOf 81).run Try.prog w = .ok 257 w := fun w => by simp [sizeOf, typeInfo, hi0, hz1]
  unfold Instr.buildSlice
  simp only [run_underlying Try.underlying70, hs, Sem.run_bind, Result.andThen_ok]
  rw [if_neg (by decide), if_neg (by decide)]
  simp only [Sem.run_bind, hz, Result.andThen_ok, Sem.run_pure]
  rw [fill_one _ cs (by simp) hl]
  simp [newRow]

/-- A load of a whole write, a slice built of one: names behind which the walk does not look. -/
def LoadW (x : Value) : Sem Value := Instr.loadAt 81 x
theorem loadW_eq (x : Value) : Instr.loadAt 81 x = LoadW x := rfl
def BuildW (ps : Array (Nat × Value)) : Sem Value := Instr.buildSlice 70 1 ps
theorem buildW_eq (ps : Array (Nat × Value)) : Instr.buildSlice 70 1 ps = BuildW ps := rfl
end Go.Proofs.Ytojckbhbnalkeaa.Oct
