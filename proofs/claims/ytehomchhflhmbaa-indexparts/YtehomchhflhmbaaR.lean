/-
  Rows of bytes: what a slice of bytes reads; one that came in; one of the call's own.
-/
import Derived.Test.YtehomchhflhmbaaChecked
import Derived.WalkKit
import Derived.WalkLawsBesides
import Derived.WalkSpells
import Derived.Below
import Derived.BigQuiet
import Derived.Deep.QuietTactic
namespace Go.Proofs.Ytehomchhflhmbaa.Oct
open Go.RowKit

/-- All are bytes. -/
def Bys (zs : List Int) : Prop := ∀ z ∈ zs, 0 ≤ z ∧ z ≤ 255

theorem Bys.at {zs : List Int} (h : Bys zs) (i : Nat) : 0 ≤ zs.getD i 0 ∧ zs.getD i 0 ≤ 255 := by
  by_cases hi : i < zs.length
  · rw [List.getD_eq_getElem?_getD, List.getElem?_eq_getElem hi]; exact h _ (List.getElem_mem hi)
  · rw [List.getD_eq_getElem?_getD, List.getElem?_eq_none (by omega)]; simp

/-- What a slice of bytes reads. -/
def Row (w : World) (a : Option Addr) (cap : Nat) (zs : List Int) : Prop :=
  Bys zs ∧ zs.length ≤ cap ∧ cap ≤ maxLen ∧ (zs = [] ∨ ∃ b off, a = some ⟨b, off, none⟩ ∧ ∀ i, i < zs.length → w.cell? ⟨b, off + i, none⟩ = some (.int .u8 (zs.getD i 0)))

theorem Row.below {w w' : World} {a : Option Addr} {cap : Nat} {zs : List Int} (h : Row w a cap zs) (k : Below w.heap.size w w') : Row w' a cap zs := by
  obtain ⟨h1, h2, h3, h4⟩ := h
  refine ⟨h1, h2, h3, ?_⟩
  rcases h4 with h4 | ⟨b, off, ha, hc⟩
  · exact .inl h4
  · exact .inr ⟨b, off, ha, fun i hi => (k.cell (p := ⟨b, off + i, none⟩) (block_lt_of_cell (hc i hi))).trans (hc i hi)⟩

/-- A row that lies in a block of its own, which was just laid. -/
theorem row_new (w : World) (zs : List Int) (t : TypeId) (hb : Bys zs) (hm : zs.length ≤ maxLen) :
    Row (w.alloc (.cells (zs.map (Value.int .u8)).toArray t)) (some ⟨w.heap.size, 0, none⟩) zs.length zs := by
  refine ⟨hb, Nat.le_refl _, hm, .inr ⟨_, _, rfl, fun i hi => ?_⟩⟩
  rw [World.cell?_alloc_at _ _ _ _ rfl]
  simp [hi]

/-- The same, whatever its mark. -/
theorem row_new' (w : World) (zs : List Int) (t : TypeId) (fr : Nat × Nat) (hb : Bys zs) (hm : zs.length ≤ maxLen) :
    Row (w.alloc (.cells (zs.map (Value.int .u8)).toArray t fr)) (some ⟨w.heap.size, 0, none⟩) zs.length zs := by
  refine ⟨hb, Nat.le_refl _, hm, .inr ⟨_, _, rfl, fun i hi => ?_⟩⟩
  have hh : (w.alloc (.cells (zs.map (Value.int .u8)).toArray t fr)).heap[w.heap.size]? = some (.cells (zs.map (Value.int .u8)).toArray t fr) := by
    show (w.heap.push (.cells (zs.map (Value.int .u8)).toArray t fr))[w.heap.size]? = _
    simp
  unfold World.cell?
  rw [hh]
  simp [hi]

/-- What the walk is told of a slice of integers that came in: nil, or a row of cap cells. -/
def IsRow (k : IntKind) (w : World) (a : Option Addr) (len cap : Nat) (zs : List Int) : Prop :=
  (a = none ∧ len = 0 ∧ cap = 0 ∧ zs = []) ∨
  ∃ x, a = some x ∧ len ≤ cap ∧ cap ≤ maxLen ∧ zs.length = cap ∧ (∀ i, i < zs.length → w.cell? (x.add i) = some (.int k (zs.getD i 0))) ∧ ∀ n ∈ zs, (Lit.int k n).wf = true

theorem u8_wf {z : Int} (h : (Lit.int .u8 z).wf = true) : 0 ≤ z ∧ z ≤ 255 := by
  simp [Lit.wf, IntKind.min, IntKind.max, IntKind.signed, IntKind.bits] at h
  omega

theorem IsRow.row {w : World} {a : Option Addr} {len cap : Nat} {zs : List Int} (h : IsRow .u8 w a len cap zs) :
    ∃ ys : List Int, len = ys.length ∧ Row w a cap ys := by
  rcases h with ⟨rfl, rfl, rfl, rfl⟩ | ⟨x, rfl, hl, hm, hz, hcell, hwz⟩
  · exact ⟨[], rfl, by intro z hz; simp at hz, Nat.le_refl _, by simp [maxLen], .inl rfl⟩
  · refine ⟨zs.take len, by simp; omega, fun z hmem => u8_wf (hwz z (List.mem_of_mem_take hmem)), by simp; omega, hm, ?_⟩
    by_cases h0 : len = 0
    · exact .inl (by simp [h0])
    · refine .inr ?_
      obtain ⟨b, off, spot⟩ := x
      have hc := hcell 0 (by omega)
      have hspot : spot = none := by simpa [Addr.add] using World.cell?_spot hc
      subst hspot
      refine ⟨b, off, rfl, fun i hi => ?_⟩
      simp at hi
      have := hcell i (by omega)
      have e : (⟨b, off, none⟩ : Addr).add i = ⟨b, off + i, none⟩ := by simp [Addr.add]
      rw [e] at this
      rw [this]
      simp [show i < len by omega]

theorem Bys.app {xs ys : List Int} (hx : Bys xs) (hy : Bys ys) : Bys (xs ++ ys) := by
  intro z hz
  rcases List.mem_append.1 hz with h | h
  · exact hx z h
  · exact hy z h

theorem Row.some' {w : World} {a : Option Addr} {cap : Nat} {zs : List Int} (h : Row w a cap zs) (hl : 0 < zs.length) : ∃ b off, a = some ⟨b, off, none⟩ := by
  rcases h.2.2.2 with h | ⟨b, off, rfl, _⟩
  · rw [h] at hl; exact absurd hl (by simp)
  · exact ⟨b, off, rfl⟩

theorem Row.cells {w : World} {b off cap : Nat} {zs : List Int} (h : Row w (some ⟨b, off, none⟩) cap zs) : ∀ i, i < zs.length → w.cell? ⟨b, off + i, none⟩ = some (.int .u8 (zs.getD i 0)) := by
  intro i hi
  rcases h.2.2.2 with h | ⟨b', off', e, hc⟩
  · rw [h] at hi; exact absurd hi (by simp)
  · simp only [Option.some.injEq, Addr.mk.injEq, and_true] at e
    obtain ⟨rfl, rfl⟩ := e
    exact hc i hi

theorem info5 : (Try.prog.info? 5).map (fun i => (i.zero, i.size, i.bytes)) = some (some (.int .u8 0), 1, 1) := by kernel_rfl

/-- The call's own row of bytes. -/
def Own (base : Nat) (w : World) (v : Value) (zs : List Int) : Prop := w.ownsRow base 5 1 v zs.length (zs.map (Value.int .u8))

theorem Own.lt' {base : Nat} {w : World} {v : Value} {zs : List Int} (h : Own base w v zs) (k : Nat) (hk : v.ownBlock = some k) : base ≤ k := (World.ownsRow.lt h k hk).1

theorem Own.row {base : Nat} {w : World} {v : Value} {zs : List Int} (h : Own base w v zs) (hb : Bys zs) : ∃ a cap, v = .slice a zs.length cap ∧ Row w a cap zs := by
  obtain ⟨_, ⟨rfl, h0⟩ | ⟨g, cap, cur, rfl, hg, hc, hn, hm, hs, ht⟩⟩ := id h
  · refine ⟨none, 0, by rw [h0], hb, by omega, by simp [maxLen], .inl (List.eq_nil_of_length_eq_zero h0)⟩
  · refine ⟨_, cap, rfl, hb, hn, hm, .inr ⟨g, 0, rfl, fun i hi => ?_⟩⟩
    have := World.ownsRow.cellAt h i (by omega)
    rw [Nat.zero_add, this]
    simp [hi]

theorem Own.row' {base : Nat} {w : World} {a : Option Addr} {n cap : Nat} {zs : List Int} (h : Own base w (.slice a n cap) zs) (hb : Bys zs) : n = zs.length ∧ Row w a cap zs := by
  obtain ⟨a', cap', e, hr⟩ := h.row hb
  simp only [Value.slice.injEq] at e
  obtain ⟨rfl, rfl, rfl⟩ := e
  exact ⟨rfl, hr⟩

theorem own_at {base : Nat} {w : World} {v : Value} {zs : List Int} (h : Own base w v zs) (j : Nat) (hj : j < zs.length) :
    ∃ g cap, v = .slice (some ⟨g, 0, none⟩) zs.length cap ∧ base ≤ g ∧ w.cell? ⟨g, j, none⟩ = some (.int .u8 (zs.getD j 0)) ∧ w.frozen? ⟨g, j, none⟩ = false ∧
      ∀ y : Int, Own base (w.setCell ⟨g, j, none⟩ (.int .u8 y)) (.slice (some ⟨g, 0, none⟩) zs.length cap) (zs.set j y) := by
  have h' := h
  obtain ⟨_, ⟨rfl, h0⟩ | ⟨g, cap, cur, rfl, hg, hc, hn, hm, hs, ht⟩⟩ := h
  · omega
  · refine ⟨g, cap, rfl, hg, ?_, World.ownsRow.frozenAt h' j, fun y => ?_⟩
    · rw [World.ownsRow.cellAt h' j (by omega)]; simp [hj]
    · have := World.ownsRow.stored h' j (.int .u8 y)
      unfold Own
      rw [List.length_set, List.map_set]
      exact this.1

theorem own_at' {base g n cap : Nat} {w : World} {zs : List Int} (h : Own base w (.slice (some ⟨g, 0, none⟩) n cap) zs) (j : Nat) (hj : j < zs.length) :
    n = zs.length ∧ w.cell? ⟨g, j, none⟩ = some (.int .u8 (zs.getD j 0)) ∧ w.frozen? ⟨g, j, none⟩ = false ∧
      ∀ y : Int, Own base (w.setCell ⟨g, j, none⟩ (.int .u8 y)) (.slice (some ⟨g, 0, none⟩) n cap) (zs.set j y) := by
  obtain ⟨g', cap', e, _, h1, h2, h3⟩ := own_at h j hj
  simp only [Value.slice.injEq, Option.some.injEq, Addr.mk.injEq, and_true] at e
  obtain ⟨rfl, rfl, rfl⟩ := e
  exact ⟨rfl, h1, h2, h3⟩

theorem take_snoc (zs : List Int) (k : Nat) (hk : k < zs.length) : zs.take (k + 1) = zs.take k ++ [zs.getD k 0] := by
  rw [List.take_add_one, List.getElem?_eq_getElem hk, List.getD_eq_getElem?_getD, List.getElem?_eq_getElem hk]; rfl

theorem bysOf {zs : List Int} (h : zs.all (fun z => decide (0 ≤ z ∧ z ≤ 255)) = true) : Bys zs := by
  intro z hz
  have := List.all_eq_true.1 h z hz
  simpa using this

theorem app_at (xs ys : List Int) (i : Nat) : (xs ++ ys).getD i 0 = if i < xs.length then xs.getD i 0 else ys.getD (i - xs.length) 0 := by
  simp only [List.getD_eq_getElem?_getD, List.getElem?_append]
  split <;> rfl

theorem eq_of_getD {xs ys : List Int} (hl : xs.length = ys.length) (h : ∀ i, i < xs.length → xs.getD i 0 = ys.getD i 0) : xs = ys := by
  refine List.ext_getElem hl fun i h1 h2 => ?_
  have := h i h1
  rw [List.getD_eq_getElem?_getD, List.getD_eq_getElem?_getD, List.getElem?_eq_getElem h1, List.getElem?_eq_getElem h2] at this
  exact this
end Go.Proofs.Ytehomchhflhmbaa.Oct
