/-
  pool: whole frames and whole pages, made and stored.
-/
import Derived.Test.YtojckbhbnalkeaaIc
import Derived.Laws.Rows
namespace Go.Proofs.Ytojckbhbnalkeaa.Oct
open Go.RowKit

/-- The cells of a frame, whatever its links. -/
def frV (f : Fr) (vo vn : Value) : List Value := .int .i64 f.page :: (f.b.map (Value.int .u8) ++ [.bool f.dirty, .int .i64 f.pins, vo, vn])

theorem frV_frC (f : Fr) (o n : Nat) : frV f (.pointer (some ⟨o, 0, none⟩)) (.pointer (some ⟨n, 0, none⟩)) = frC f o n := rfl

theorem frV_set {f : Fr} (h : f.ok) (vo vn x y : Value) : ((frV f vo vn).set 259 x).set 260 y = frV f x y := by
  unfold frV
  rw [List.set_cons_succ, List.set_cons_succ, List.set_append_right _ _ (by simp [h.1]), List.set_append_right _ _ (by simp [h.1])]
  simp [h.1]

theorem frV_at {f : Fr} (h : f.ok) (vo vn : Value) : (frV f vo vn)[259]? = some vo ∧ (frV f vo vn)[260]? = some vn := by
  have hl := h.1
  refine ⟨?_, ?_⟩
  iterate 2 (unfold frV; rw [List.getElem?_cons_succ, List.getElem?_append_right (by simp [hl])]; simp [hl])

def AllocA : Sem Value := Instr.alloc 51 true undef
theorem allocA_eq (old : Value) : Instr.alloc 51 true old = AllocA := by simp [AllocA, Instr.alloc]
def StoreA (a v : Value) : Sem Unit := Instr.storeAt 51 a v
theorem storeA_eq (a v : Value) : Instr.storeAt 51 a v = StoreA a v := rfl
def BuildA (ps : Array (Nat × Value)) : Sem Value := Instr.build 51 ps
theorem buildA_eq (ps : Array (Nat × Value)) : Instr.build 51 ps = BuildA ps := rfl
def BuildF (ps : Array (Nat × Value)) : Sem Value := Instr.build 53 ps
theorem buildF_eq (ps : Array (Nat × Value)) : Instr.build 53 ps = BuildF ps := rfl
def BoxF (v : Value) : Sem Value := Instr.box 53 v
theorem boxF_eq (v : Value) : Instr.box 53 v = BoxF v := rfl

def zeA : Array Value := (List.replicate 256 (Value.int .u8 0)).toArray
theorem zeA_size : zeA.size = 256 := by unfold zeA; rw [List.size_toArray, List.length_replicate]
def zeF : Array Value := (frV fr0 (.pointer none) (.pointer none)).toArray

theorem build_a (w : World) : (BuildA #[]).run Try.prog w = .ok (.agg zeA) w := by kernel_rfl
theorem build_f0 (w : World) : (BuildF #[]).run Try.prog w = .ok (.agg zeF) w := by kernel_rfl
theorem alloc_a (w : World) : AllocA.run Try.prog w = .ok (.pointer (some ⟨w.heap.size, 0, none⟩)) (w.alloc (.cells zeA 51)) := by kernel_rfl
theorem box_f (w : World) (cs : Array Value) : (BoxF (.agg cs)).run Try.prog w = .ok (.pointer (some ⟨w.heap.size, 0, none⟩)) (w.alloc (.cells cs 53)) := by
  simp [BoxF, Instr.box, newVar, newRow, Value.cells]

theorem zero_f (w : World) : (zeroValue 53).run Try.prog w = .ok (.agg zeF) w := by kernel_rfl
theorem infB : (Try.prog.info? 4).map (fun i => (i.zero.map (·.cells.size), i.size, i.bytes)) = some (some 1, 1, 1) := by kernel_rfl
theorem infP : (Try.prog.info? 50).map (fun i => (i.zero.map (·.cells.size), i.size, i.bytes)) = some (some 1, 1, 8) := by kernel_rfl

theorem build_f (w : World) (pg : Nat) (zs : List Int) (hl : zs.length = 256) : (BuildF #[(0, .int .i64 pg), (1, .agg (zs.map (Value.int .u8)).toArray)]).run Try.prog w = .ok (.agg (frV ⟨pg, zs, false, 0⟩ (.pointer none) (.pointer none)).toArray) w := by
  have hz : zeF.size = 261 := by
    unfold zeF frV
    rw [List.size_toArray, List.length_cons, List.length_append, List.length_map, fr0_ok.1]
    rfl
  obtain ⟨_, _, h3, _⟩ := parts_of inf3
  obtain ⟨_, _, h62, _⟩ := parts_of inf62
  obtain ⟨_, _, h4, _⟩ := parts_of infB
  obtain ⟨_, _, h50, _⟩ := parts_of infP
  unfold BuildF Instr.build
  simp only [Sem.run_bind, zero_f, Result.andThen_ok, run_underlying Try.underlying53]
  simp [h3, h62, h4, h50]
  rw [show (Value.agg zeF).cells = zeF from rfl]
  rw [fill_step _ _ 0 0 1 _ _ rfl rfl (by omega)]
  rw [fill_step _ _ 1 1 256 _ _ rfl (by show (zs.map (Value.int .u8)).toArray.size = 256; simp [hl]) (by simp [Value.cells, hz])]
  unfold Instr.fill
  simp only [Sem.run_pure, Result.ok.injEq, Value.agg.injEq, and_true]
  congr 1

theorem store_a (w : World) (z : Array Value) (cs : List Value) (hz : z.size = 256) (hl : cs.length = 256) (h1 : ∀ v ∈ cs, v.oneCell' = true) : (StoreA (.pointer (some ⟨w.heap.size, 0, none⟩)) (.agg cs.toArray)).run Try.prog (w.alloc (.cells z 51)) = .ok () (w.alloc (.cells cs.toArray 51)) := by
  have := run_storeVar_new (P := Try.prog) w 51 z cs.toArray (by rw [size62]; simp [hl]) (by simp [hz, hl]) (all_oneCell_toArray h1)
  simp only [StoreA, Instr.storeAt, Instr.sureAddr, Sem.run_bind, Sem.run_pure, Result.andThen_ok, this]
end Go.Proofs.Ytojckbhbnalkeaa.Oct
