/-
  A pool's frames, plainly; a frame in memory; a map from pages to frames.
-/
import Derived.Test.YtojckbhbnalkeaaGo
import Derived.Test.YtojckbhbnalkeaaGr
import Derived.Maps.Own
import Derived.Maps.OwnOps
import Derived.Maps.OwnSet
import Derived.Maps.RangeWalk
import Derived.StillTailTactics
namespace Go.Proofs.Ytojckbhbnalkeaa.Oct
open Go.RowKit
open Go.Maps (Keyed int_keyed keyOf_int_mk)

/-- A frame, plainly. -/
structure Fr where
  page : Nat
  b : List Int
  dirty : Bool
  pins : Nat

def fr0 : Fr := ⟨0, List.replicate 256 0, false, 0⟩
def Fr.ok (f : Fr) : Prop := f.b.length = 256 ∧ Bys f.b
theorem fr0_ok : fr0.ok := ⟨List.length_replicate, bys_rep 256⟩

/-- The cells of a frame between two others. -/
def frC (f : Fr) (o n : Nat) : List Value := .int .i64 f.page :: (f.b.map (Value.int .u8) ++ [.bool f.dirty, .int .i64 f.pins, .pointer (some ⟨o, 0, none⟩), .pointer (some ⟨n, 0, none⟩)])

theorem frC_len {f : Fr} (h : f.ok) (o n : Nat) : (frC f o n).length = 261 := by simp [frC, h.1]

theorem frC_at {f : Fr} (h : f.ok) (o n : Nat) :
    (frC f o n)[0]? = some (.int .i64 f.page) ∧ (frC f o n)[257]? = some (.bool f.dirty) ∧ (frC f o n)[258]? = some (.int .i64 f.pins) ∧ (frC f o n)[259]? = some (.pointer (some ⟨o, 0, none⟩)) ∧ (frC f o n)[260]? = some (.pointer (some ⟨n, 0, none⟩)) ∧
    ∀ i, i < 256 → (frC f o n)[1 + i]? = some (.int .u8 (f.b.getD i 0)) := by
  have hl := h.1
  refine ⟨rfl, ?_, ?_, ?_, ?_, fun i hi => ?_⟩
  iterate 4 (unfold frC; rw [List.getElem?_cons_succ, List.getElem?_append_right (by simp [hl])]; simp [hl])
  unfold frC
  rw [Nat.add_comm, List.getElem?_cons_succ, List.getElem?_append_left (by simp [hl]; omega), List.getElem?_map, List.getElem?_eq_getElem (by omega), List.getD_eq_getElem?_getD, List.getElem?_eq_getElem (by omega)]
  rfl

theorem frC_one (f : Fr) (o n : Nat) : ∀ v ∈ frC f o n, v.oneCell' = true := by
  intro v hv
  rcases List.mem_cons.1 hv with rfl | hv
  · rfl
  · rcases List.mem_append.1 hv with hv | hv
    · exact one_cells _ v hv
    · simp at hv
      rcases hv with rfl | rfl | rfl | rfl <;> rfl

theorem set_dirty {f : Fr} (h : f.ok) (o n : Nat) (d : Bool) : (frC f o n).set 257 (.bool d) = frC { f with dirty := d } o n := by
  unfold frC
  rw [List.set_cons_succ, List.set_append_right _ _ (by simp [h.1])]
  simp [h.1]
theorem set_pins {f : Fr} (h : f.ok) (o n : Nat) (d : Nat) : (frC f o n).set 258 (.int .i64 d) = frC { f with pins := d } o n := by
  unfold frC
  rw [List.set_cons_succ, List.set_append_right _ _ (by simp [h.1])]
  simp [h.1]
theorem set_older {f : Fr} (h : f.ok) (o n : Nat) (d : Nat) : (frC f o n).set 259 (.pointer (some ⟨d, 0, none⟩)) = frC f d n := by
  unfold frC
  rw [List.set_cons_succ, List.set_append_right _ _ (by simp [h.1])]
  simp [h.1]
theorem set_newer {f : Fr} (h : f.ok) (o n : Nat) (d : Nat) : (frC f o n).set 260 (.pointer (some ⟨d, 0, none⟩)) = frC f o d := by
  unfold frC
  rw [List.set_cons_succ, List.set_append_right _ _ (by simp [h.1])]
  simp [h.1]
theorem set_bytes {f : Fr} (h : f.ok) (o n : Nat) (b : List Int) : (frC f o n).take 1 ++ b.map (Value.int .u8) ++ (frC f o n).drop 257 = frC { f with b := b } o n := by
  have e : (frC f o n).drop 257 = [.bool f.dirty, .int .i64 f.pins, .pointer (some ⟨o, 0, none⟩), .pointer (some ⟨n, 0, none⟩)] := by
    unfold frC
    rw [List.drop_succ_cons, List.drop_append_of_le_length (by simp [h.1])]
    simp [h.1]
  rw [e]
  simp [frC]

/-- A frame in memory. -/
def Node (w : World) (g : Nat) (f : Fr) (o n : Nat) : Prop := w.heap[g]? = some (.cells (frC f o n).toArray 53 (0, 0))

theorem Node.at {w : World} {g : Nat} {f : Fr} {o n : Nat} (h : Node w g f o n) (k : f.ok) :
    w.cell? ⟨g, 0, none⟩ = some (.int .i64 f.page) ∧ w.cell? ⟨g, 257, none⟩ = some (.bool f.dirty) ∧ w.cell? ⟨g, 258, none⟩ = some (.int .i64 f.pins) ∧ w.cell? ⟨g, 259, none⟩ = some (.pointer (some ⟨o, 0, none⟩)) ∧ w.cell? ⟨g, 260, none⟩ = some (.pointer (some ⟨n, 0, none⟩)) ∧ ∀ i, w.frozen? ⟨g, i, none⟩ = false := by
  obtain ⟨a0, a1, a2, a3, a4, _⟩ := frC_at k o n
  unfold Node at h
  refine ⟨?_, ?_, ?_, ?_, ?_, fun i => ?_⟩
  iterate 5 (rw [cell_of_row w g _ _ _ (0, 0) h]; simpa)
  unfold World.frozen?
  rw [h]
  simp

theorem Node.row {w : World} {g : Nat} {f : Fr} {o n : Nat} (h : Node w g f o n) (k : f.ok) : Row w (some ⟨g, 1, none⟩) 256 f.b := by
  obtain ⟨_, _, _, _, _, a5⟩ := frC_at k o n
  refine ⟨k.2, by rw [k.1]; exact Nat.le_refl _, by simp [maxLen], .inr ⟨g, 1, rfl, fun i hi => ?_⟩⟩
  rw [k.1] at hi
  rw [cell_of_row w g _ _ _ (0, 0) h]
  simpa using a5 i hi

theorem Node.set {w : World} {g : Nat} {f : Fr} {o n : Nat} (h : Node w g f o n) (i : Nat) (v : Value) : (w.setCell ⟨g, i, none⟩ v).heap[g]? = some (.cells ((frC f o n).set i v).toArray 53 (0, 0)) := by
  rw [setCell_heap w g i v _ _ _ h]
  simp

theorem Node.keep {w w' : World} {g : Nat} {f : Fr} {o n : Nat} (h : Node w g f o n) (k : w'.heap[g]? = w.heap[g]?) : Node w' g f o n := k.trans h

/-- How an element of the map reads. -/
def ptrE : Value → Option (DataW Unit × List MemPlace)
  | .pointer none => some (.lit (.bool false), [])
  | .pointer (some a) => if a.off = 0 ∧ a.spot = none then some (.lit (.int .i64 a.block), []) else none
  | _ => none

def mkP : Option Nat → Value
  | none => .pointer none
  | some g => .pointer (some ⟨g, 0, none⟩)

theorem ptrE_inv {v : Value} {y : DataW Unit × List MemPlace} (h : ptrE v = some y) : ∃ c, v = mkP c ∧ y = ((match c with | none => .lit (.bool false) | some g => .lit (.int .i64 g)), []) := by
  unfold ptrE at h
  split at h
  · simp at h; exact ⟨none, rfl, h.symm⟩
  · split at h
    · rename_i a hc
      obtain ⟨b, o, s⟩ := a
      simp only at hc
      obtain ⟨rfl, rfl⟩ := hc
      simp at h; exact ⟨some b, rfl, h.symm⟩
    · cases h
  · cases h

def findP (ps : List (Nat × Nat)) (k : Int) : Option Nat := (ps.find? (fun x => decide ((x.1 : Int) = k))).map (·.2)

def lkD (c : Option Nat) : DataW Unit := match c with | none => .lit (.bool false) | some g => .lit (.int .i64 g)

theorem lkD_inj {a b : Option Nat} (h : lkD a = lkD b) : a = b := by
  cases a <;> cases b <;> simp [lkD] at h ⊢
  omega

/-- The map from pages to frames. -/
def Held (w : World) (m : Nat) (ps : List (Nat × Nat)) : Prop :=
  (ps.map (·.1)).Nodup ∧ (∀ x ∈ ps, x.1 ≤ 1000000) ∧ ∃ D : DataW Unit, w.ownsMap Try.prog 3 ptrE m ps.length D ∧ (∀ k : Int, D.atKey (.int .i64 k) (.lit (.bool false)) = lkD (findP ps k)) ∧ (∀ k : Int, Maps.has D (.int .i64 k) = (findP ps k).isSome) ∧ Maps.size D = ps.length

theorem lawK : Keyed Try.prog 3 := int_keyed Try.underlying3
theorem zeroP (w : World) : (zeroValue 50).run Try.prog w = .ok (.pointer none) w := by kernel_rfl

theorem owns_same {w w' : World} {m n : Nat} {D : DataW Unit} (h : w.ownsMap Try.prog 3 ptrE m n D) (k : w'.heap[m]? = w.heap[m]?) : w'.ownsMap Try.prog 3 ptrE m n D := by
  obtain ⟨es, clock, hb, rest⟩ := h
  exact ⟨es, clock, k.trans hb, rest⟩

theorem owns_low {w : World} {m n : Nat} {D : DataW Unit} (h : w.ownsMap Try.prog 3 ptrE m n D) (n' : Nat) (hn : Maps.size D ≤ n') : w.ownsMap Try.prog 3 ptrE m n' D := by
  obtain ⟨es, clock, hb, F, hs, rfl⟩ := h
  refine ⟨es, clock, hb, F, ?_, rfl⟩
  simpa [Maps.size, length_sorted] using hn

theorem Held.keep {w w' : World} {m : Nat} {ps : List (Nat × Nat)} (h : Held w m ps) (k : w'.heap[m]? = w.heap[m]?) : Held w' m ps := by
  obtain ⟨h1, h1', D, h2, rest⟩ := h
  exact ⟨h1, h1', D, owns_same h2 k, rest⟩

theorem Held.lt {w : World} {m : Nat} {ps : List (Nat × Nat)} (h : Held w m ps) : m < w.heap.size := by
  obtain ⟨_, _, D, h2, _⟩ := h
  exact h2.lt

theorem Held.look {w : World} {m : Nat} {ps : List (Nat × Nat)} (h : Held w m ps) (k : Int) (hk : (Lit.int .i64 k).wf = true) : (Instr.lookup 54 (.map (some m)) (.int .i64 k) false).run Try.prog w = .ok (mkP (findP ps k)) w := by
  obtain ⟨_, _, D, h2, h3, _⟩ := h
  obtain ⟨v, q, hrun, hv⟩ := h2.lookup lawK Try.underlying54 (zeroP w) (by rfl) (keyOf_int_mk Try.underlying3 hk)
  obtain ⟨c, rfl, hc⟩ := ptrE_inv hv
  simp only [Prod.mk.injEq] at hc
  rw [h3] at hc
  have : findP ps k = c := lkD_inj (hc.1.trans (by cases c <;> rfl))
  rw [this]; exact hrun

theorem Held.len {w : World} {m : Nat} {ps : List (Nat × Nat)} (h : Held w m ps) (ty : TypeId) : (Builtin.len_ #[54] ty #[.map (some m)]).run Try.prog w = .ok (.int .i64 ps.length) w := by
  obtain ⟨_, _, D, h2, _, _, h5⟩ := h
  rw [← h5]
  exact h2.len Try.underlying54 ty

theorem findP_app (ps : List (Nat × Nat)) (x : Nat × Nat) (hx : findP ps x.1 = none) (k : Int) : findP (ps ++ [x]) k = if k = x.1 then some x.2 else findP ps k := by
  unfold findP at *
  rw [List.find?_append]
  by_cases hk : k = x.1
  · subst hk
    simp at hx
    rw [List.find?_eq_none.2 (by simpa using hx)]
    simp
  · have hk' : ¬ (x.1 : Int) = k := fun e => hk e.symm
    simp only [if_neg hk]
    cases ps.find? (fun x => decide ((x.1 : Int) = k)) with
    | none => simp [hk']
    | some y => simp

theorem findP_filter (ps : List (Nat × Nat)) (x : Nat) (k : Int) : findP (ps.filter (fun y => decide (y.1 ≠ x))) k = if k = x then none else findP ps k := by
  unfold findP
  induction ps with
  | nil => simp
  | cons y r ih =>
    by_cases h : y.1 = x
    · simp only [List.filter_cons, h, ne_eq, not_true_eq_false, decide_false, Bool.false_eq_true, if_false, ih]
      by_cases hk : k = x
      · simp [hk]
      · simp only [if_neg hk, List.find?_cons, h]
        rw [decide_eq_false (fun e => hk e.symm)]
    · simp only [List.filter_cons, ne_eq, h, not_false_eq_true, decide_true, if_true, List.find?_cons]
      by_cases hy : (y.1 : Int) = k
      · have : ¬ k = x := by omega
        simp [hy, this]
      · simp only [hy, decide_false]
        exact ih

theorem findP_some {ps : List (Nat × Nat)} {k : Int} {g : Nat} (h : findP ps k = some g) : ∃ pg : Nat, k = pg ∧ (pg, g) ∈ ps := by
  unfold findP at h
  cases hf : ps.find? (fun x => decide ((x.1 : Int) = k)) with
  | none => rw [hf] at h; cases h
  | some y =>
    rw [hf] at h
    simp at h
    have := List.find?_some hf
    simp at this
    exact ⟨y.1, this.symm, by rw [← h]; exact List.mem_of_find?_eq_some hf⟩

theorem findP_none {ps : List (Nat × Nat)} {k : Int} (h : findP ps k = none) : ∀ x ∈ ps, (x.1 : Int) ≠ k := by
  unfold findP at h
  simpa using h

theorem findP_mem {ps : List (Nat × Nat)} (hn : (ps.map (·.1)).Nodup) {x : Nat × Nat} (hx : x ∈ ps) : findP ps x.1 = some x.2 := by
  induction ps with
  | nil => simp at hx
  | cons y r ih =>
    simp only [List.map_cons, List.nodup_cons] at hn
    unfold findP at *
    rcases List.mem_cons.1 hx with rfl | hx
    · simp
    · have hne : ¬ ((y.1 : Int) = (x.1 : Int)) := fun e => hn.1 (by rw [show y.1 = x.1 by omega]; exact List.mem_map_of_mem hx)
      rw [List.find?_cons, decide_eq_false hne]
      exact ih hn.2 hx

theorem wfN {n : Nat} (h : n ≤ 1000000) : (Lit.int .i64 (n : Int)).wf = true := by
  simp [Lit.wf, IntKind.min, IntKind.max, IntKind.signed, IntKind.bits]
  omega

theorem litNe {a b : Int} (h : a ≠ b) : (Lit.int .i64 a) ≠ Lit.int .i64 b := fun e => h (by simpa using e)

/-- A new entry. -/
theorem Held.put {w : World} {m : Nat} {ps : List (Nat × Nat)} (h : Held w m ps) (pg g : Nat) (hp : pg ≤ 1000000) (hl : ps.length ≤ 1000000) (hx : findP ps pg = none) :
    ∃ w', (Instr.mapUpdate 54 (.map (some m)) (.int .i64 pg) (.pointer (some ⟨g, 0, none⟩))).run Try.prog w = .ok () w' ∧ Held w' m (ps ++ [(pg, g)]) ∧ w.mapTurned w' m := by
  obtain ⟨h1, h1', D, h2, h3, h4, h5⟩ := h
  obtain ⟨w', hrun, ho, ht⟩ := h2.store lawK Try.underlying54 (by unfold maxLen; omega) (keyOf_int_mk Try.underlying3 (wfN hp)) (val := .pointer (some ⟨g, 0, none⟩)) (d := .lit (.int .i64 g)) (ps := []) (by simp [ptrE])
  have hs : Maps.size (D.put (.int .i64 pg) (.lit (.int .i64 g))) = ps.length + 1 := by
    rw [Maps.size_put (h2.tidy lawK), h4, hx, h5]
    simp
  refine ⟨w', hrun, ⟨?_, ?_, D.put (.int .i64 pg) (.lit (.int .i64 g)), ?_, fun k => ?_, fun k => ?_, ?_⟩, ht⟩
  · simp only [List.map_append, List.map_cons, List.map_nil]
    refine List.nodup_append.2 ⟨h1, by simp, fun a ha b hb => ?_⟩
    simp at hb
    subst hb
    obtain ⟨x, hx', rfl⟩ := List.mem_map.1 ha
    have := findP_none hx x hx'
    omega
  · intro x hx'
    rcases List.mem_append.1 hx' with hx' | hx'
    · exact h1' x hx'
    · simp at hx'; subst hx'; exact hp
  · simpa using ho
  · rw [findP_app _ (pg, g) hx]
    by_cases hk : k = pg
    · subst hk
      rw [Maps.atKey_put_same (k := .int .i64 (pg : Int)) h2.isMap trivial]
      simp [lkD]
    · rw [Maps.atKey_put_other (litNe hk), h3]
      simp [hk]
  · rw [findP_app _ (pg, g) hx]
    by_cases hk : k = pg
    · subst hk
      rw [Maps.has_put_same (k := .int .i64 (pg : Int)) h2.isMap trivial]
      simp
    · rw [Maps.has_put_other (litNe hk), h4]
      simp [hk]
  · simpa using hs

/-- An entry goes. -/
theorem Held.del {w : World} {m : Nat} {ps : List (Nat × Nat)} (h : Held w m ps) (pg : Nat) (hp : pg ≤ 1000000) (ty : TypeId) :
    ∃ w', (Builtin.delete_ #[54, 3] ty #[.map (some m), .int .i64 pg]).run Try.prog w = .ok (.tuple #[]) w' ∧ Held w' m (ps.filter (fun y => decide (y.1 ≠ pg))) ∧ w.mapTurned w' m := by
  obtain ⟨h1, h1', D, h2, h3, h4, h5⟩ := h
  obtain ⟨w', hrun, ho, ht⟩ := h2.drop lawK Try.underlying54 (keyOf_int_mk Try.underlying3 (wfN hp)) ty
  have hs : Maps.size (D.del (.int .i64 pg)) = (ps.filter (fun y => decide (y.1 ≠ pg))).length := by
    have e := Maps.size_del (k := .int .i64 pg) (h2.tidy lawK)
    rw [h4, h5] at e
    have e2 : (ps.filter (fun y => decide (y.1 ≠ pg))).length + (if (findP ps pg).isSome = true then 1 else 0) = ps.length := by
      clear h1' D h2 h3 h4 h5 hrun ho ht e
      induction ps with
      | nil => simp [findP]
      | cons y r ih =>
        simp only [List.map_cons, List.nodup_cons] at h1
        have ih := ih h1.2
        by_cases hy : y.1 = pg
        · have hn : findP r pg = none := by
            unfold findP
            simp only [Option.map_eq_none_iff, List.find?_eq_none, decide_eq_true_eq]
            intro x hx e
            exact h1.1 (by rw [hy, ← show x.1 = pg by omega]; exact List.mem_map_of_mem hx)
          rw [hn] at ih
          have hs : findP (y :: r) pg = some y.2 := by unfold findP; simp [hy]
          rw [hs]
          simp [hy] at ih ⊢
          exact ih
        · have hs : findP (y :: r) pg = findP r pg := by
            unfold findP
            rw [List.find?_cons, decide_eq_false (by omega)]
          rw [hs]
          simp [hy]
          simp at ih
          omega
    omega
  refine ⟨w', hrun, ⟨?_, ?_, D.del (.int .i64 pg), owns_low ho _ (by omega), fun k => ?_, fun k => ?_, hs⟩, ht⟩
  · exact h1.sublist (List.Sublist.map _ List.filter_sublist)
  · exact fun x hx => h1' x (List.mem_filter.1 hx).1
  · rw [findP_filter]
    by_cases hk : k = pg
    · subst hk
      rw [Maps.atKey_del_same]
      simp [lkD]
    · rw [Maps.atKey_del_other (litNe hk), h3, if_neg hk]
  · rw [findP_filter]
    by_cases hk : k = pg
    · subst hk
      rw [Maps.has_del_same]
      simp
    · rw [Maps.has_del_other (litNe hk), h4, if_neg hk]

theorem held_new (w : World) : Held (w.alloc (.map #[] 0)) w.heap.size [] :=
  ⟨by simp, by simp, .map [], World.ownsMap_made w Try.prog 3 ptrE, fun k => by simp [findP, lkD, DataW.atKey], fun k => by simp [Maps.has, findP], by simp [Maps.size]⟩

theorem turned_heap {w w' : World} {m k : Nat} (h : w.mapTurned w' m) (hk : k ≠ m) (hl : k < w.heap.size) : w'.heap[k]? = w.heap[k]? :=
  h.grown.block k hl (by simp [hk])
end Go.Proofs.Ytojckbhbnalkeaa.Oct
