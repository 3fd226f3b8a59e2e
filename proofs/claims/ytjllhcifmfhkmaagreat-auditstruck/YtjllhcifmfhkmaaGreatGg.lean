/-
  device: a write's sectors, laid among all pages.
-/
import Derived.Test.YtjllhcifmfhkmaaGreatGd
import Derived.Deep.RegionLaw
import Derived.Deep.DrawnRows
namespace Go.Proofs.YtjllhcifmfhkmaaGreat.Oct
open Go.RowKit

/-- A write in memory: its page, its bytes. -/
def WriteAt (w : World) (q o pg : Nat) (b : List Int) : Prop :=
  w.cell? ⟨q, o, none⟩ = some (.int .i64 pg) ∧ ∀ i, i < 256 → w.cell? ⟨q, o + 1 + i, none⟩ = some (.int .u8 (b.getD i 0))

theorem WriteAt.ch {w w' : World} {q o pg : Nat} {b : List Int} {F : Nat → Prop} (h : WriteAt w q o pg b) (hc : Ch w.heap.size F w w') (hq : ¬ F q) : WriteAt w' q o pg b :=
  ⟨(hc.cell (p := ⟨q, o, none⟩) (block_lt_of_cell h.1) hq).trans h.1, fun i hi => (hc.cell (p := ⟨q, o + 1 + i, none⟩) (block_lt_of_cell (h.2 i hi)) hq).trans (h.2 i hi)⟩

theorem wrapn (n : Nat) (h : n ≤ 9223372036854775807) : IntKind.i64.wrap (n : Int) = n := by
  rw [IntKind.wrap_i64]
  omega

theorem u8_and1 (x : Int) (h0 : 0 ≤ x) (h1 : x ≤ 255) : bits .and .u8 x 1 = x % 2 := by
  have h : ∀ n : Fin 256, bits .and .u8 (n.val : Int) 1 = (n.val : Int) % 2 := by decide +kernel
  have := h ⟨x.toNat, by omega⟩
  simp only [Int.toNat_of_nonneg h0] at this
  exact this

theorem bit_test (c : Int) (s : Nat) (h0 : 0 ≤ c) (h1 : c ≤ 255) : (bits .and .u8 (c / 2 ^ s) 1 == 1) = bitAt c s := by
  have hp : (0 : Int) < 2 ^ s := by exact Int.pow_pos (by omega)
  have a : 0 ≤ c / 2 ^ s := Int.ediv_nonneg h0 (by omega)
  have b : c / 2 ^ s ≤ 255 := Int.le_trans (Int.ediv_le_self _ h0) h1
  rw [u8_and1 _ a b]
  unfold bitAt
  rw [Bool.eq_iff_iff]
  simp

theorem sect_cells {w : World} {q o pg : Nat} {b : List Int} (h : WriteAt w q o pg b) (hb : b.length = 256) (s : Nat) (hs : s < 4) (T : Nat) (hT : s * 64 = T) :
    ∀ j v, ((sect b s).map (Value.int .u8))[j]? = some v → w.cell? ((⟨q, o + 1 + T, none⟩ : Addr).add j) = some v := by
  intro j v hj
  have hlt : j < (sect b s).length := by
    have := (List.getElem?_eq_some_iff.1 hj).1
    simpa using this
  rw [sect_len hb hs] at hlt
  have e : (⟨q, o + 1 + T, none⟩ : Addr).add j = ⟨q, o + 1 + (T + j), none⟩ := by simp [Addr.add, Nat.add_assoc]
  rw [e, h.2 _ (by omega), ← hT, ← sect_at j s hlt, ← hj, List.getElem?_map, List.getD_eq_getElem?_getD, List.getElem?_eq_getElem (by rw [sect_len hb hs]; exact hlt)]
  rfl

end Go.Proofs.YtjllhcifmfhkmaaGreat.Oct

/-
  device: what a Write does (writing.do).
-/
namespace Go.Proofs.YtjllhcifmfhkmaaGreat.Oct
open Go.RowKit

theorem size64 : (Tryz.prog.info? 223).map (·.size) = some 257 := by kernel_rfl
theorem info64 : (Tryz.prog.info? 223).map (fun i => (i.zero.map (·.cells.size), i.size, i.bytes)) = some (some 257, 257, 264) := by kernel_rfl
theorem parts64 : ∃ i z, Tryz.prog.info? 223 = some i ∧ i.zero = some z ∧ i.size = 257 ∧ i.bytes = 264 ∧ z.cells.size = 257 := by
  have h := info64
  cases hi : Tryz.prog.info? 223 with
  | none => rw [hi] at h; simp at h
  | some i =>
    rw [hi] at h
    simp only [Option.map_some, Option.some.injEq, Prod.mk.injEq] at h
    cases hz : i.zero with
    | none => rw [hz] at h; simp at h
    | some z =>
      rw [hz] at h
      simp only [Option.map_some, Option.some.injEq] at h
      exact ⟨i, z, rfl, hz, h.2.1, h.2.2, h.1⟩
theorem row64 : ∃ d, Tryz.prog.underlying 223 = some d ∧ d.isRow = true := ⟨_, Tryz.underlying223, rfl⟩

theorem wcells_len {x : Nat × List Int} (h : x.2.length = 256) : (wcells x).length = 257 := by simp [wcells, h]
theorem wcells_one (x : Nat × List Int) : ∀ v ∈ wcells x, v.oneCell' = true := by
  intro v hv
  rcases List.mem_cons.1 hv with rfl | hv
  · rfl
  · exact one_cells _ v hv

theorem WriteAt.range {w : World} {q o pg : Nat} {b : List Int} (h : WriteAt w q o pg b) (hb : b.length = 256) : w.rangeAt q o (wcells (pg, b)) := by
  intro j v hj
  cases j with
  | zero => simp [wcells] at hj; subst hj; exact h.1
  | succ j =>
    simp only [wcells, List.getElem?_cons_succ, List.getElem?_map] at hj
    have hlt : j < b.length := by
      by_cases hlt : j < b.length
      · exact hlt
      · rw [List.getElem?_eq_none (by omega)] at hj; exact absurd hj (by simp)
    rw [show o + (j + 1) = o + 1 + j by omega, h.2 j (by omega), ← hj, List.getD_eq_getElem?_getD, List.getElem?_eq_getElem hlt]
    rfl

theorem WriteAt.of_range {w : World} {q o pg : Nat} {b : List Int} (hb : b.length = 256) (h : w.rangeAt q o (wcells (pg, b))) : WriteAt w q o pg b := by
  refine ⟨h 0 _ rfl, fun i hi => ?_⟩
  have := h (i + 1) (.int .u8 (b.getD i 0)) (by simp only [wcells, List.getElem?_cons_succ, List.getElem?_map, List.getD_eq_getElem?_getD]; rw [List.getElem?_eq_getElem (by omega)]; rfl)
  rw [show o + 1 + i = o + (i + 1) by omega]
  exact this

/-- A whole write is loaded. -/
theorem load_write (w : World) (q o : Nat) (cs : List Value) (hl : cs.length = 257) (hr : w.rangeAt q o cs) : (Instr.loadAt 223 (.pointer (some ⟨q, o, none⟩))).run Tryz.prog w = .ok (.agg cs.toArray) w := by
  obtain ⟨d, h1, h2⟩ := row64
  exact run_loadAt_mid w q o 223 cs d hr h1 h2 (by rw [hl]; exact size64)

theorem fill_list : ∀ (l : List Value) (k : Nat) (Z : Array Value), k + l.length ≤ Z.size → ((l.zipIdx k).foldl (fun (a : Array Value) (x : Value × Nat) => a.setIfInBounds (0 * 257 + x.2) x.1) Z).toList = Z.toList.take k ++ l ++ Z.toList.drop (k + l.length)
  | [], k, Z, _ => by simp
  | v :: r, k, Z, h => by
    simp only [List.length_cons] at h
    rw [List.zipIdx_cons, List.foldl_cons]
    rw [fill_list r (k + 1) _ (by simp; omega)]
    have hl : Z.toList.length = Z.size := by simp
    simp only [Array.toList_setIfInBounds, Nat.zero_mul, Nat.zero_add, List.length_cons]
    rw [List.take_add_one, List.take_set_of_le (by omega), List.getElem?_set_self (by omega), List.drop_set_of_lt (by omega)]
    simp [Nat.add_assoc, Nat.add_comm 1]

theorem fill_one (Z cs : Array Value) (hz : Z.size = 257) (hc : cs.size = 257) : Instr.fill (fun i => some (i * 257, 257)) Z [(0, .agg cs)] = some cs := by
  have e : (Value.agg cs).cells = cs := rfl
  unfold Instr.fill
  show (if ((Value.agg cs).cells.size ≠ 257 || 0 * 257 + (Value.agg cs).cells.size > Z.size) = true then none else Instr.fill _ _ []) = some cs
  rw [if_neg (by rw [e]; simp [hz, hc])]
  unfold Instr.fill
  rw [e]
  congr 1
  apply Array.ext'
  rw [← Array.foldl_toList, Array.toList_zipIdx]
  have := fill_list cs.toList 0 Z (by simp [hz, hc])
  rw [show (fun (a : Array Value) (x : Value × Nat) => match x with | (c, j) => a.setIfInBounds (0 * 257 + j) c) = (fun (a : Array Value) (x : Value × Nat) => a.setIfInBounds (0 * 257 + x.2) x.1) from rfl, this]
  simp [hz, hc]

theorem build_write (w : World) (cs : Array Value) (hl : cs.size = 257) : (Instr.buildSlice 90 1 #[(0, .agg cs)]).run Tryz.prog w = .ok (.slice (some ⟨w.heap.size, 0, none⟩) 1 1) (w.alloc (.cells cs 223)) := by
  obtain ⟨i0, z, hi0, hz0, hz1, hz2, hz3⟩ := parts64
  have hz : ∀ w, (zeroValue 223).run Tryz.prog w = .ok z w := fun w => by simp [zeroValue, typeInfo, hi0, hz0]
  have hs : ∀ w, (sizeOf 223).run Tryz.prog w = .ok 257 w := fun w => by simp [sizeOf, typeInfo, hi0, hz1]
  unfold Instr.buildSlice
  simp only [run_underlying Tryz.underlying90, hs, Sem.run_bind, Result.andThen_ok]
  rw [if_neg (by decide), if_neg (by decide)]
  simp only [Sem.run_bind, hz, Result.andThen_ok, Sem.run_pure]
  rw [fill_one _ cs (by simp) hl]
  simp [newRow]

/-- A load of a whole write, a slice built of one: names behind which the walk does not look. -/
def LoadW (x : Value) : Sem Value := Instr.loadAt 223 x
theorem loadW_eq (x : Value) : Instr.loadAt 223 x = LoadW x := rfl
def BuildW (ps : Array (Nat × Value)) : Sem Value := Instr.buildSlice 90 1 ps
theorem buildW_eq (ps : Array (Nat × Value)) : Instr.buildSlice 90 1 ps = BuildW ps := rfl
end Go.Proofs.YtjllhcifmfhkmaaGreat.Oct

/-
  device: what a Write does (writing.do), walked.
-/
namespace Go.Proofs.YtjllhcifmfhkmaaGreat.Oct
open Go.RowKit

attribute [local go_sem ↓] loadW_eq buildW_eq

theorem scells_snoc (l : List (Nat × List Int)) (x : Nat × List Int) : scells (l ++ [x]) = scells l ++ wcells x := by simp [scells]

/-- A device whose page was written and whose list of writes has grown. -/
theorem wrote {w w1 w2 : World} {p : Nat} {F : Nat → Prop} {D : Dv} {gN gL cN cL : Nat} {vS vO : Value} {f : Int} {pg g cap : Nat} {b : List Int} {o : Obj} (ok : (wrD D pg b).ok) (hF : ∀ k, F k → k < w.heap.size) (h : DevC w p gN gL cN cL vS vO f D) (hfo : ∀ k, foot p gN gL vS vO k → F k)
    (ho : Own 0 w1 (.slice (some ⟨gN, 0, none⟩) D.now.length cN) (onto D.now pg b 15)) (hc : Ch w.heap.size (fun k => k = gN) w w1)
    (hown : w2.ownsRow 0 223 257 (.slice (some ⟨g, 0, none⟩) (D.since.length + 1) cap) (D.since.length + 1) (scells D.since ++ wcells (pg, b)))
    (hgrow : (w1.alloc o).grownBy w2 vS.ownBlock) (hat : vS.ownBlock = some g ∨ g = w1.heap.size + 1) (hlt : g < w2.heap.size) :
    ∃ F', Dev (w2.setCell ⟨p, 2, none⟩ (.slice (some ⟨g, 0, none⟩) (D.since.length + 1) cap)) p F' (wrD D pg b) ∧ Step F F' w (w2.setCell ⟨p, 2, none⟩ (.slice (some ⟨g, 0, none⟩) (D.since.length + 1) cap)) := by
  have s1 := hc.size
  have s2 := hgrow.size
  simp at s2
  have hp : p < w.heap.size := hF p (hfo p (.inl rfl))
  have hN : gN < w.heap.size := hF gN (hfo gN (.inr (.inl rfl)))
  have hL : gL < w.heap.size := hF gL (hfo gL (.inr (.inr (.inl rfl))))
  -- a block that is old and no row of the writes
  have k2 : ∀ k, k < w1.heap.size → vS.ownBlock ≠ some k → w2.heap[k]? = w1.heap[k]? := fun k hk hne =>
    (hgrow.block k (by simp; omega) (fun e => hne e.symm)).trans (Below.heap_alloc _ _ _ hk)
  have k1 : ∀ k, k < w.heap.size → k ≠ gN → w1.heap[k]? = w.heap[k]? := fun k hk hne => hc.block k hk hne
  have k3 : ∀ k, k ≠ p → (w2.setCell ⟨p, 2, none⟩ (.slice (some ⟨g, 0, none⟩) (D.since.length + 1) cap)).heap[k]? = w2.heap[k]? := fun k hk => Below.heap_setCell w2 ⟨p, 2, none⟩ _ k hk
  have hgp : g ≠ p := by rcases hat with e | e; exact fun e2 => h.pS (e2 ▸ e); omega
  have hgN : g ≠ gN := by rcases hat with e | e; exact fun e2 => h.NS (e2 ▸ e); omega
  have hgL : g ≠ gL := by rcases hat with e | e; exact fun e2 => h.LS (e2 ▸ e); omega
  have hgO : vO.ownBlock ≠ some g := by
    rcases hat with e | e
    · exact h.SO g e
    · intro e2
      have := hF g (hfo g (.inr (.inr (.inr (.inr e2)))))
      omega
  have hcells : w2.heap[p]? = w.heap[p]? := (k2 p (by omega) h.pS).trans (k1 p hp h.pN)
  refine ⟨fun k => F k ∨ w.heap.size ≤ k ∧ k < w2.heap.size, ⟨ok, fun k hk => ?_, gN, gL, cN, cL, .slice (some ⟨g, 0, none⟩) (D.since.length + 1) cap, vO, f, ?_, fun k hk => ?_⟩, ?_, ?_⟩
  · rw [size_setCell]
    rcases hk with hk | hk
    · have := hF k hk; omega
    · exact hk.2
  · refine { h with cells := ?_, now := ?_, sure := ?_, since := ?_, out := ?_, fuse := h.fuse, pS := by simp [Value.ownBlock]; exact hgp, NS := by simp [Value.ownBlock]; exact hgN, LS := by simp [Value.ownBlock]; exact hgL, SO := fun k hk => by simp [Value.ownBlock] at hk; subst hk; exact hgO }
    · have e := setCell_heap w2 p 2 (.slice (some ⟨g, 0, none⟩) (D.since.length + 1) cap) _ _ _ (hcells.trans h.cells)
      rw [e]
      simp only [wrD, onto_len]
      rfl
    · simp only [wrD, onto_len]
      exact ho.kept ((k3 gN h.pN.symm).trans (k2 gN (by omega) h.NS))
    · exact h.sure.kept ((k3 gL h.pL.symm).trans ((k2 gL (by omega) h.LS).trans (k1 gL hL h.NL.symm)))
    · simp only [wrD, List.length_append, List.length_cons, List.length_nil]
      rw [scells_snoc]
      exact owns_keep hown (fun k hk => by simp [Value.ownBlock] at hk; subst hk; exact k3 g hgp)
    · refine h.out.keep (fun k hk => ?_)
      have hk1 := hF k (hfo k (.inr (.inr (.inr (.inr hk)))))
      exact (k3 k (fun e => h.pO (e ▸ hk))).trans ((k2 k (by omega) (fun e => h.SO k e hk)).trans (k1 k hk1 (fun e => h.NO (e ▸ hk))))
  · rcases hk with hk | hk | hk | hk | hk
    · exact .inl (hfo k (.inl hk))
    · exact .inl (hfo k (.inr (.inl hk)))
    · exact .inl (hfo k (.inr (.inr (.inl hk))))
    · simp [Value.ownBlock] at hk
      subst hk
      rcases hat with e | e
      · exact .inl (hfo g (.inr (.inr (.inr (.inl e)))))
      · exact .inr ⟨by omega, hlt⟩
    · exact .inl (hfo k (.inr (.inr (.inr (.inr hk)))))
  · have a1 : Ch w.heap.size F w w1 := hc.mono (Nat.le_refl _) (fun k _ e => by rw [e]; exact hfo gN (.inr (.inl rfl)))
    exact ((a1.alloc s1 o).grown hgrow (by simp; omega) (fun k hk => .inr (hfo k (.inr (.inr (.inr (.inl hk))))))).setCell (p := ⟨p, 2, none⟩) (.inr (hfo p (.inl rfl))) _
  · intro k hk
    rcases hk with hk | hk
    · exact .inl hk
    · exact .inr hk.1

end Go.Proofs.YtjllhcifmfhkmaaGreat.Oct
