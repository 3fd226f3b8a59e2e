/-
  device: a write's sectors, laid among all pages.
-/
import Derived.Test.YtojckbhbnalkeaaGreatGe
import Derived.Deep.RegionLaw
import Derived.Deep.DrawnRows
namespace Go.Proofs.YtojckbhbnalkeaaGreat.Oct
open Go.RowKit

/-- A write in memory: its page, its bytes. -/
def WriteAt (w : World) (q o pg : Nat) (b : List Int) : Prop :=
  w.cell? ⟨q, o, none⟩ = some (.int .i64 pg) ∧ ∀ i, i < 256 → w.cell? ⟨q, o + 1 + i, none⟩ = some (.int .u8 (b.getD i 0))

theorem WriteAt.ch {w w' : World} {q o pg : Nat} {b : List Int} {F : Nat → Prop} (h : WriteAt w q o pg b) (hc : Ch w.heap.size F w w') (hq : ¬ F q) : WriteAt w' q o pg b :=
  ⟨(hc.cell (p := ⟨q, o, none⟩) (block_lt_of_cell h.1) hq).trans h.1, fun i hi => (hc.cell (p := ⟨q, o + 1 + i, none⟩) (block_lt_of_cell (h.2 i hi)) hq).trans (h.2 i hi)⟩

theorem wrapn (n : Nat) (h : n ≤ 9223372036854775807) : IntKind.i64.wrap (n : Int) = n := by
  rw [IntKind.wrap_i64]
  omega

theorem u8_and1 (x : Int) (h0 : 0 ≤ x) (h1 : x ≤ 255) : bits .and .u8 x 1 = x % 2 := by
  have h : ∀ n : Fin 256, bits .and .u8 (n.val : Int) 1 = (n.val : Int) % 2 := by decide +kernel
  have := h ⟨x.toNat, by omega⟩
  simp only [Int.toNat_of_nonneg h0] at this
  exact this

theorem bit_test (c : Int) (s : Nat) (h0 : 0 ≤ c) (h1 : c ≤ 255) : (bits .and .u8 (c / 2 ^ s) 1 == 1) = bitAt c s := by
  have hp : (0 : Int) < 2 ^ s := by exact Int.pow_pos (by omega)
  have a : 0 ≤ c / 2 ^ s := Int.ediv_nonneg h0 (by omega)
  have b : c / 2 ^ s ≤ 255 := Int.le_trans (Int.ediv_le_self _ h0) h1
  rw [u8_and1 _ a b]
  unfold bitAt
  rw [Bool.eq_iff_iff]
  simp

theorem sect_cells {w : World} {q o pg : Nat} {b : List Int} (h : WriteAt w q o pg b) (hb : b.length = 256) (s : Nat) (hs : s < 4) (T : Nat) (hT : s * 64 = T) :
    ∀ j v, ((sect b s).map (Value.int .u8))[j]? = some v → w.cell? ((⟨q, o + 1 + T, none⟩ : Addr).add j) = some v := by
  intro j v hj
  have hlt : j < (sect b s).length := by
    have := (List.getElem?_eq_some_iff.1 hj).1
    simpa using this
  rw [sect_len hb hs] at hlt
  have e : (⟨q, o + 1 + T, none⟩ : Addr).add j = ⟨q, o + 1 + (T + j), none⟩ := by simp [Addr.add, Nat.add_assoc]
  rw [e, h.2 _ (by omega), ← hT, ← sect_at j s hlt, ← hj, List.getElem?_map, List.getD_eq_getElem?_getD, List.getElem?_eq_getElem (by rw [sect_len hb hs]; exact hlt)]
  rfl

set_option maxHeartbeats 1000000 in
theorem onto_any (w : World) (q o pg g N cap : Nat) (b L : List Int) (c : Int) (hw : WriteAt w q o pg b) (hb : b.length = 256) (hr : Own 0 w (.slice (some ⟨g, 0, none⟩) N cap) L) (hp : pg * 256 + 256 ≤ N) (h4 : N ≤ 1048576) (hg : g ≠ q) (hc0 : 0 ≤ c) (hc1 : c ≤ 255) :
    Calls Tryz.prog 90 #[.pointer (some ⟨q, o, none⟩), .slice (some ⟨g, 0, none⟩) N cap, .int .u8 c] w fun e w' => e = .returned (.tuple #[]) ∧ Own 0 w' (.slice (some ⟨g, 0, none⟩) N cap) (onto L pg b c) ∧ Ch w.heap.size (fun k => k = g) w w' := by
  go_enter Tryz.func90, Tryz.ntmps90
  go_wp2
  go_loopw [8] (fun i wr => ∃ s : Nat, s ≤ 4 ∧ i = .int .i64 s ∧ Own 0 wr (.slice (some ⟨g, 0, none⟩) N cap) (ontoS L pg b c s) ∧ Ch w.heap.size (fun k => k = g) w wr) (fun i _ => 4 - (intOf i).toNat)
  case atStart => exact ⟨0, by omega, rfl, by rw [ontoS_zero]; exact hr, Ch.refl _ _ _⟩
  case round =>
    obtain ⟨s, hs, rfl, hown, hch⟩ := hrel
    by_cases hlt : s < 4
    · cases hbit : bitAt c s
      · have ht := bit_test c s hc0 hc1
        rw [hbit] at ht
        have hown' : Hid (Own 0 wr (.slice (some ⟨g, 0, none⟩) N cap) (ontoS L pg b c (s + 1))) := by rw [ontoS_skip _ _ _ _ _ hbit]; exact hown
        clear hown hr hw hbit
        go_wp2
        go_roundw
        case rel => exact ⟨s + 1, by omega, by go_num, hown'.out, hch⟩
        case measure => simp [intOf]; omega
      · have ht := bit_test c s hc0 hc1
        rw [hbit] at ht
        obtain ⟨cur, q1, q2, q3, q4, q5, q6⟩ := hown.cur
        have hsl := sect_len hb hlt
        obtain ⟨T, hT⟩ : ∃ T, s * 64 = T := ⟨_, rfl⟩
        obtain ⟨A, hA⟩ : ∃ A, pg * 256 + T = A := ⟨_, rfl⟩
        have hwr := hw.ch hch (by intro e; exact hg e.symm)
        have hsrc := sect_cells hwr hb s hlt T hT
        have ho := own_lay (w := wr.drew) (off := A) (cs := sect b s) q1 q2 q3 q4 q5 q6 (by omega)
        have e1 : lay' (ontoS L pg b c s) A (sect b s) = ontoS L pg b c (s + 1) := by rw [ontoS_lay _ _ _ _ _ hb hlt (by rw [ontoS_len] at q6; omega) hbit, hT, hA]
        rw [e1] at ho
        have i1 : (s : Int) * 64 = T := by omega
        obtain ⟨P2, hP2⟩ : ∃ P2, pg * 256 = P2 := ⟨_, rfl⟩
        have i2 : (pg : Int) * 256 = P2 := by omega
        have i0 : (P2 : Int) + T = A := by omega
        have i3 : A + 64 ≤ N := by omega
        have i4 : T + 64 ≤ 256 := by omega
        obtain ⟨U, hU⟩ : ∃ U, T + 64 = U := ⟨_, rfl⟩
        have i5 : (T : Int) + 64 = U := by omega
        have i6 : (0 : Int) ≤ A := by omega
        have i7 : (A : Int) ≤ N := by omega
        have i8 : (0 : Int) ≤ U := by omega
        have i9 : (U : Int) ≤ 256 := by omega
        have j1 : (0 : Int) ≤ T := by omega
        have j2 : (T : Int) ≤ U := by omega
        have j3 : ¬ 256 = T := by omega
        have j5 : U - T = 64 := by omega
        have j4 : ¬ cap = A := by omega
        have k1 : IntKind.i64.wrap (P2 : Int) = P2 := wrapn _ (by omega)
        have k2 : IntKind.i64.wrap (A : Int) = A := wrapn _ (by omega)
        have k3 : IntKind.i64.wrap (U : Int) = U := wrapn _ (by omega)
        have hpb : pg ≤ 4096 := by omega
        have hcap : N ≤ cap := q2
        have hcm := q3
        unfold maxLen at hcm
        obtain ⟨X, hX⟩ : ∃ X, X = (cur.toList.take A ++ (sect b s).map (Value.int .u8) ++ cur.toList.drop (A + ((sect b s).map (Value.int .u8)).length)).toArray := ⟨_, rfl⟩
        rw [← hX] at ho
        have HO : Hid (Own 0 (wr.drew.setRow g X) (.slice (some ⟨g, 0, none⟩) N cap) (ontoS L pg b c (s + 1))) := ho
        have HC : Hid (Ch w.heap.size (fun k => k = g) w (wr.drew.setRow g X)) := hch.drew.setRow (.inr rfl) X
        have HX : Hid (X = (cur.toList.take A ++ (sect b s).map (Value.int .u8) ++ cur.toList.drop (A + ((sect b s).map (Value.int .u8)).length)).toArray) := hX
        have Q1 : Hid (wr.heap[g]? = some (.cells cur 5 (0, 0))) := q1
        have HS : Hid (∀ j v, ((sect b s).map (Value.int .u8))[j]? = some v → wr.cell? ((⟨q, o + 1 + T, none⟩ : Addr).add j) = some v) := hsrc
        have HF : Hid (A + ((sect b s).map (Value.int .u8)).length ≤ cur.size) := by show _ ≤ _; rw [List.length_map, hsl, q4]; omega
        have HL : Hid ((sect b s).length = 64) := hsl
        have hpc := hwr.1
        have kpc : (wr.drew.setRow g X).cell? ⟨q, o, none⟩ = some (.int .i64 pg) := (cell_setRow_far _ _ _ _ (fun e => hg e.symm)).trans hpc
        clear hX q1 q2 q3 q4 q5 q6 hsl hwr hsrc ho e1 hT hA hU hP2 hown hr hw hch hbit hb
        go_wp2_with fail
        go_region_held3 (fun w' => w'.cell? ⟨q, o, none⟩ = some (.int .i64 pg)) (first | exact kpc | go_keep)
          ((refine step_copy_at (by rfl) (.tmp 26) (.tmp 33) 38 38 (by rfl) 5 Tryz.underlying38 size5 g A (N - A) (cap - A) ⟨q, o + 1 + T, none⟩ 64 (256 - T) (by rfl) (by rfl) cur 5 Q1.out ((sect b s).map (Value.int .u8)) (by rw [List.length_map, HL.out]; exact (Nat.min_eq_left (by omega)).symm) HS.out HF.out (one_cells _) X HX.out ?_))
        go_wp2
        go_roundw
        case rel => exact ⟨s + 1, by omega, by go_num, HO.out, HC.out⟩
        case measure => simp [intOf]; omega
    · have e : s = 4 := by omega
      subst e
      go_wp2
      go_end0
      exact ⟨rfl, hown, hch⟩
end Go.Proofs.YtojckbhbnalkeaaGreat.Oct

/-
  device: what a Write does (writing.do).
-/
namespace Go.Proofs.YtojckbhbnalkeaaGreat.Oct
open Go.RowKit

theorem size64 : (Tryz.prog.info? 104).map (·.size) = some 257 := by kernel_rfl
theorem info64 : (Tryz.prog.info? 104).map (fun i => (i.zero.map (·.cells.size), i.size, i.bytes)) = some (some 257, 257, 264) := by kernel_rfl
theorem parts64 : ∃ i z, Tryz.prog.info? 104 = some i ∧ i.zero = some z ∧ i.size = 257 ∧ i.bytes = 264 ∧ z.cells.size = 257 := by
  have h := info64
  cases hi : Tryz.prog.info? 104 with
  | none => rw [hi] at h; simp at h
  | some i =>
    rw [hi] at h
    simp only [Option.map_some, Option.some.injEq, Prod.mk.injEq] at h
    cases hz : i.zero with
    | none => rw [hz] at h; simp at h
    | some z =>
      rw [hz] at h
      simp only [Option.map_some, Option.some.injEq] at h
      exact ⟨i, z, rfl, hz, h.2.1, h.2.2, h.1⟩
theorem row64 : ∃ d, Tryz.prog.underlying 104 = some d ∧ d.isRow = true := ⟨_, Tryz.underlying104, rfl⟩

theorem wcells_len {x : Nat × List Int} (h : x.2.length = 256) : (wcells x).length = 257 := by simp [wcells, h]
theorem wcells_one (x : Nat × List Int) : ∀ v ∈ wcells x, v.oneCell' = true := by
  intro v hv
  rcases List.mem_cons.1 hv with rfl | hv
  · rfl
  · exact one_cells _ v hv

theorem WriteAt.range {w : World} {q o pg : Nat} {b : List Int} (h : WriteAt w q o pg b) (hb : b.length = 256) : w.rangeAt q o (wcells (pg, b)) := by
  intro j v hj
  cases j with
  | zero => simp [wcells] at hj; subst hj; exact h.1
  | succ j =>
    simp only [wcells, List.getElem?_cons_succ, List.getElem?_map] at hj
    have hlt : j < b.length := by
      by_cases hlt : j < b.length
      · exact hlt
      · rw [List.getElem?_eq_none (by omega)] at hj; exact absurd hj (by simp)
    rw [show o + (j + 1) = o + 1 + j by omega, h.2 j (by omega), ← hj, List.getD_eq_getElem?_getD, List.getElem?_eq_getElem hlt]
    rfl

theorem WriteAt.of_range {w : World} {q o pg : Nat} {b : List Int} (hb : b.length = 256) (h : w.rangeAt q o (wcells (pg, b))) : WriteAt w q o pg b := by
  refine ⟨h 0 _ rfl, fun i hi => ?_⟩
  have := h (i + 1) (.int .u8 (b.getD i 0)) (by simp only [wcells, List.getElem?_cons_succ, List.getElem?_map, List.getD_eq_getElem?_getD]; rw [List.getElem?_eq_getElem (by omega)]; rfl)
  rw [show o + 1 + i = o + (i + 1) by omega]
  exact this

/-- A whole write is loaded. -/
theorem load_write (w : World) (q o : Nat) (cs : List Value) (hl : cs.length = 257) (hr : w.rangeAt q o cs) : (Instr.loadAt 104 (.pointer (some ⟨q, o, none⟩))).run Tryz.prog w = .ok (.agg cs.toArray) w := by
  obtain ⟨d, h1, h2⟩ := row64
  exact run_loadAt_mid w q o 104 cs d hr h1 h2 (by rw [hl]; exact size64)

theorem fill_list : ∀ (l : List Value) (k : Nat) (Z : Array Value), k + l.length ≤ Z.size → ((l.zipIdx k).foldl (fun (a : Array Value) (x : Value × Nat) => a.setIfInBounds (0 * 257 + x.2) x.1) Z).toList = Z.toList.take k ++ l ++ Z.toList.drop (k + l.length)
  | [], k, Z, _ => by simp
  | v :: r, k, Z, h => by
    simp only [List.length_cons] at h
    rw [List.zipIdx_cons, List.foldl_cons]
    rw [fill_list r (k + 1) _ (by simp; omega)]
    have hl : Z.toList.length = Z.size := by simp
    simp only [Array.toList_setIfInBounds, Nat.zero_mul, Nat.zero_add, List.length_cons]
    rw [List.take_add_one, List.take_set_of_le (by omega), List.getElem?_set_self (by omega), List.drop_set_of_lt (by omega)]
    simp [Nat.add_assoc, Nat.add_comm 1]

theorem fill_one (Z cs : Array Value) (hz : Z.size = 257) (hc : cs.size = 257) : Instr.fill (fun i => some (i * 257, 257)) Z [(0, .agg cs)] = some cs := by
  have e : (Value.agg cs).cells = cs := rfl
  unfold Instr.fill
  show (if ((Value.agg cs).cells.size ≠ 257 || 0 * 257 + (Value.agg cs).cells.size > Z.size) = true then none else Instr.fill _ _ []) = some cs
  rw [if_neg (by rw [e]; simp [hz, hc])]
  unfold Instr.fill
  rw [e]
  congr 1
  apply Array.ext'
  rw [← Array.foldl_toList, Array.toList_zipIdx]
  have := fill_list cs.toList 0 Z (by simp [hz, hc])
  rw [show (fun (a : Array Value) (x : Value × Nat) => match x with | (c, j) => a.setIfInBounds (0 * 257 + j) c) = (fun (a : Array Value) (x : Value × Nat) => a.setIfInBounds (0 * 257 + x.2) x.1) from rfl, this]
  simp [hz, hc]

theorem build_write (w : World) (cs : Array Value) (hl : cs.size = 257) : (Instr.buildSlice 87 1 #[(0, .agg cs)]).run Tryz.prog w = .ok (.slice (some ⟨w.heap.size, 0, none⟩) 1 1) (w.alloc (.cells cs 104)) := by
  obtain ⟨i0, z, hi0, hz0, hz1, hz2, hz3⟩ := parts64
  have hz : ∀ w, (zeroValue 104).run Tryz.prog w = .ok z w := fun w => by simp [zeroValue, typeInfo, hi0, hz0]
  have hs : ∀ w, (sizeOf 104).run Tryz.prog w = .ok 257 w := fun w => by simp [sizeOf, typeInfo, hi0, hz1]
  unfold Instr.buildSlice
  simp only [run_underlying Tryz.underlying87, hs, Sem.run_bind, Result.andThen_ok]
  rw [if_neg (by decide), if_neg (by decide)]
  simp only [Sem.run_bind, hz, Result.andThen_ok, Sem.run_pure]
  rw [fill_one _ cs (by simp) hl]
  simp [newRow]

/-- A load of a whole write, a slice built of one: names behind which the walk does not look. -/
def LoadW (x : Value) : Sem Value := Instr.loadAt 104 x
theorem loadW_eq (x : Value) : Instr.loadAt 104 x = LoadW x := rfl
def BuildW (ps : Array (Nat × Value)) : Sem Value := Instr.buildSlice 87 1 ps
theorem buildW_eq (ps : Array (Nat × Value)) : Instr.buildSlice 87 1 ps = BuildW ps := rfl
end Go.Proofs.YtojckbhbnalkeaaGreat.Oct
