/-
  Great structs, made and stored whole: laws behind names at which the walk does not look.
-/
import Derived.Test.YtojckbhbnalkeaaGh
import Derived.Deep.WholeRow
namespace Go.Proofs.Ytojckbhbnalkeaa.Oct
open Go.RowKit

theorem fill_off (off : Nat) : ∀ (l : List Value) (k : Nat) (Z : Array Value), off + k + l.length ≤ Z.size → ((l.zipIdx k).foldl (fun (a : Array Value) (x : Value × Nat) => a.setIfInBounds (off + x.2) x.1) Z).toList = Z.toList.take (off + k) ++ l ++ Z.toList.drop (off + k + l.length)
  | [], k, Z, _ => by simp
  | v :: r, k, Z, h => by
    simp only [List.length_cons] at h
    rw [List.zipIdx_cons, List.foldl_cons]
    rw [fill_off off r (k + 1) _ (by simp; omega)]
    have hl : Z.toList.length = Z.size := by simp
    simp only [Array.toList_setIfInBounds, List.length_cons]
    rw [← Nat.add_assoc off k 1, List.take_add_one, List.take_set_of_le (by omega), List.getElem?_set_self (by omega), List.drop_set_of_lt (by omega)]
    simp [Nat.add_assoc, Nat.add_comm 1]

theorem fill_step (place : Nat → Option (Nat × Nat)) (Z : Array Value) (i off size : Nat) (v : Value) (rest : List (Nat × Value)) (hp : place i = some (off, size)) (hs : v.cells.size = size) (hz : off + size ≤ Z.size) :
    Instr.fill place Z ((i, v) :: rest) = Instr.fill place (Z.toList.take off ++ v.cells.toList ++ Z.toList.drop (off + size)).toArray rest := by
  conv => lhs; unfold Instr.fill
  rw [hp]
  show (if (v.cells.size ≠ size || off + v.cells.size > Z.size) = true then none else Instr.fill place _ rest) = _
  rw [if_neg (by rw [hs]; simp; omega)]
  congr 1
  apply Array.ext'
  rw [← Array.foldl_toList, Array.toList_zipIdx]
  have := fill_off off v.cells.toList 0 Z (by simp [hs]; omega)
  rw [show (fun (a : Array Value) (x : Value × Nat) => match x with | (c, j) => a.setIfInBounds (off + j) c) = (fun (a : Array Value) (x : Value × Nat) => a.setIfInBounds (off + x.2) x.1) from rfl, this]
  simp [hs]

theorem build_two {P : Program} (t : TypeId) (f0 f1 : Field) (z : Value) (s0 s1 : Nat) (hu : P.underlying t = some (.struct #[f0, f1])) (hz : ∀ w, (zeroValue t).run P w = .ok z w) (h0 : ∀ w, (sizeOf f0.type).run P w = .ok s0 w) (h1 : ∀ w, (sizeOf f1.type).run P w = .ok s1 w)
    (o0 : f0.offset = 0) (o1 : f1.offset = s0) (hzs : z.cells.size = s0 + s1) (v0 v1 : Value) (c0 : v0.cells.size = s0) (c1 : v1.cells.size = s1) (w : World) : (Instr.build t #[(0, v0), (1, v1)]).run P w = .ok (.agg (v0.cells ++ v1.cells)) w := by
  unfold Instr.build
  simp only [Sem.run_bind, hz, Result.andThen_ok, run_underlying hu]
  simp [h0, h1, o0, o1]
  rw [fill_step _ _ 0 0 s0 v0 _ (by simp) c0 (by omega), fill_step _ _ 1 s0 s1 v1 _ (by simp) c1 (by simp; omega)]
  unfold Instr.fill
  simp [c0]
  omega

theorem parts_of {t n b : Nat} (h : (Try.prog.info? t).map (fun i => (i.zero.map (·.cells.size), i.size, i.bytes)) = some (some n, n, b)) : ∃ z, (∀ w, (zeroValue t).run Try.prog w = .ok z w) ∧ (∀ w, (sizeOf t).run Try.prog w = .ok n w) ∧ z.cells.size = n ∧ (Try.prog.info? t).map (·.size) = some n := by
  cases hi : Try.prog.info? t with
  | none => rw [hi] at h; simp at h
  | some i =>
    rw [hi] at h
    simp only [Option.map_some, Option.some.injEq, Prod.mk.injEq] at h
    cases hz : i.zero with
    | none => rw [hz] at h; simp at h
    | some z =>
      rw [hz] at h
      simp only [Option.map_some, Option.some.injEq] at h
      exact ⟨z, fun w => by simp [zeroValue, typeInfo, hi, hz], fun w => by simp [sizeOf, typeInfo, hi, h.2.1], h.1, by simp [h.2.1]⟩

theorem size62 : (Try.prog.info? 51).map (·.size) = some 256 := by kernel_rfl
theorem inf62 : (Try.prog.info? 51).map (fun i => (i.zero.map (·.cells.size), i.size, i.bytes)) = some (some 256, 256, 256) := by kernel_rfl
theorem inf66 : (Try.prog.info? 83).map (fun i => (i.zero.map (·.cells.size), i.size, i.bytes)) = some (some 258, 258, 272) := by kernel_rfl
theorem inf23 : (Try.prog.info? 23).map (fun i => (i.zero.map (·.cells.size), i.size, i.bytes)) = some (some 1, 1, 8) := by kernel_rfl
theorem inf3 : (Try.prog.info? 3).map (fun i => (i.zero.map (·.cells.size), i.size, i.bytes)) = some (some 1, 1, 8) := by kernel_rfl

def LoadA (x : Value) : Sem Value := Instr.loadAt 51 x
theorem loadA_eq (x : Value) : Instr.loadAt 51 x = LoadA x := rfl
def BuildB (ps : Array (Nat × Value)) : Sem Value := Instr.build 81 ps
theorem buildB_eq (ps : Array (Nat × Value)) : Instr.build 81 ps = BuildB ps := rfl
def BuildC (ps : Array (Nat × Value)) : Sem Value := Instr.build 83 ps
theorem buildC_eq (ps : Array (Nat × Value)) : Instr.build 83 ps = BuildC ps := rfl
def AllocC : Sem Value := Instr.alloc 83 true undef
theorem allocC_eq (old : Value) : Instr.alloc 83 true old = AllocC := by simp [AllocC, Instr.alloc]
def StoreC (a v : Value) : Sem Unit := Instr.storeAt 83 a v
theorem storeC_eq (a v : Value) : Instr.storeAt 83 a v = StoreC a v := rfl
def AllocW : Sem Value := Instr.alloc 81 true undef
theorem allocW_eq (old : Value) : Instr.alloc 81 true old = AllocW := by simp [AllocW, Instr.alloc]
def StoreW (a v : Value) : Sem Unit := Instr.storeAt 81 a v
theorem storeW_eq (a v : Value) : Instr.storeAt 81 a v = StoreW a v := rfl

theorem load_a (w : World) (b o : Nat) (cs : List Value) (hl : cs.length = 256) (hr : w.rangeAt b o cs) : (LoadA (.pointer (some ⟨b, o, none⟩))).run Try.prog w = .ok (.agg cs.toArray) w :=
  run_loadAt_mid w b o 51 cs _ hr Try.underlying51 rfl (by rw [hl]; exact size62)

set_option maxRecDepth 20000 in
theorem build_b (w : World) (pg : Nat) (zs : List Int) (hl : zs.length = 256) : (BuildB #[(0, .int .i64 pg), (1, .agg (zs.map (Value.int .u8)).toArray)]).run Try.prog w = .ok (.agg (wcells (pg, zs)).toArray) w := by
  obtain ⟨z, hz, hs, hc, _⟩ := parts_of info64
  obtain ⟨_, _, h3, _⟩ := parts_of inf3
  obtain ⟨_, _, h62, _⟩ := parts_of inf62
  have := build_two 81 _ _ z 1 256 Try.underlying81 hz h3 h62 rfl rfl hc (.int .i64 pg) (.agg (zs.map (Value.int .u8)).toArray) rfl (by show (zs.map (Value.int .u8)).toArray.size = 256; simp [hl]) w
  rw [show BuildB #[(0, .int .i64 pg), (1, .agg (zs.map (Value.int .u8)).toArray)] = Instr.build 81 #[(0, .int .i64 pg), (1, .agg (zs.map (Value.int .u8)).toArray)] from rfl, this]
  congr 2
  simp [Value.cells, wcells]

set_option maxRecDepth 20000 in
theorem build_c (w : World) (p : Nat) (cs : List Value) (hl : cs.length = 257) : (BuildC #[(0, .pointer (some ⟨p, 0, none⟩)), (1, .agg cs.toArray)]).run Try.prog w = .ok (.agg (.pointer (some ⟨p, 0, none⟩) :: cs).toArray) w := by
  obtain ⟨z, hz, hs, hc, _⟩ := parts_of inf66
  obtain ⟨_, _, h3, _⟩ := parts_of inf23
  obtain ⟨_, _, h64, _⟩ := parts_of info64
  have := build_two 83 _ _ z 1 257 Try.underlying83 hz h3 h64 rfl rfl hc (.pointer (some ⟨p, 0, none⟩)) (.agg cs.toArray) rfl (by show cs.toArray.size = 257; simp [hl]) w
  rw [show BuildC #[(0, .pointer (some ⟨p, 0, none⟩)), (1, .agg cs.toArray)] = Instr.build 83 #[(0, .pointer (some ⟨p, 0, none⟩)), (1, .agg cs.toArray)] from rfl, this]
  congr 2
  simp [Value.cells]

theorem alloc_c : ∃ z : Array Value, z.size = 258 ∧ ∀ w, AllocC.run Try.prog w = .ok (.pointer (some ⟨w.heap.size, 0, none⟩)) (w.alloc (.cells z 83)) := by
  obtain ⟨z, hz, _, hc, _⟩ := parts_of inf66
  exact ⟨z.cells, hc, fun w => by simp [AllocC, Instr.alloc, hz, newVar, newRow]⟩
theorem alloc_w : ∃ z : Array Value, z.size = 257 ∧ ∀ w, AllocW.run Try.prog w = .ok (.pointer (some ⟨w.heap.size, 0, none⟩)) (w.alloc (.cells z 81)) := by
  obtain ⟨z, hz, _, hc, _⟩ := parts_of info64
  exact ⟨z.cells, hc, fun w => by simp [AllocW, Instr.alloc, hz, newVar, newRow]⟩

theorem store_c (w : World) (z : Array Value) (cs : List Value) (hz : z.size = 258) (hl : cs.length = 258) (h1 : ∀ v ∈ cs, v.oneCell' = true) : (StoreC (.pointer (some ⟨w.heap.size, 0, none⟩)) (.agg cs.toArray)).run Try.prog (w.alloc (.cells z 83)) = .ok () (w.alloc (.cells cs.toArray 83)) := by
  obtain ⟨_, _, _, _, hs⟩ := parts_of inf66
  have := run_storeVar_new (P := Try.prog) w 83 z cs.toArray (by rw [hs]; simp [hl]) (by simp [hz, hl]) (all_oneCell_toArray h1)
  simp only [StoreC, Instr.storeAt, Instr.sureAddr, Sem.run_bind, Sem.run_pure, Result.andThen_ok, this]
theorem store_w (w : World) (z : Array Value) (cs : List Value) (hz : z.size = 257) (hl : cs.length = 257) (h1 : ∀ v ∈ cs, v.oneCell' = true) : (StoreW (.pointer (some ⟨w.heap.size, 0, none⟩)) (.agg cs.toArray)).run Try.prog (w.alloc (.cells z 81)) = .ok () (w.alloc (.cells cs.toArray 81)) := by
  obtain ⟨_, _, _, _, hs⟩ := parts_of info64
  have := run_storeVar_new (P := Try.prog) w 81 z cs.toArray (by rw [hs]; simp [hl]) (by simp [hz, hl]) (all_oneCell_toArray h1)
  simp only [StoreW, Instr.storeAt, Instr.sureAddr, Sem.run_bind, Sem.run_pure, Result.andThen_ok, this]
end Go.Proofs.Ytojckbhbnalkeaa.Oct
