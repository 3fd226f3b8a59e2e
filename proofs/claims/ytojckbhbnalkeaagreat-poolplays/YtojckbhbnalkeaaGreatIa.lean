/-
  A pool's frames, plainly; a frame in memory; a map from pages to frames.
-/
import Derived.Test.YtojckbhbnalkeaaGreatGn
import Derived.Test.YtojckbhbnalkeaaGreatGp
import Derived.Maps.Own
import Derived.Maps.OwnOps
import Derived.Maps.OwnSet
import Derived.Maps.RangeWalk
import Derived.StillTailTactics
namespace Go.Proofs.YtojckbhbnalkeaaGreat.Oct
open Go.RowKit
open Go.Maps (Keyed int_keyed keyOf_int_mk)

/-- A frame, plainly. -/
structure Fr where
  page : Nat
  b : List Int
  dirty : Bool
  pins : Nat

def fr0 : Fr := ⟨0, List.replicate 256 0, false, 0⟩
def Fr.ok (f : Fr) : Prop := f.b.length = 256 ∧ Bys f.b
theorem fr0_ok : fr0.ok := ⟨List.length_replicate, bys_rep 256⟩

/-- The cells of a frame between two others. -/
def frC (f : Fr) (o n : Nat) : List Value := .int .i64 f.page :: (f.b.map (Value.int .u8) ++ [.bool f.dirty, .int .i64 f.pins, .pointer (some ⟨o, 0, none⟩), .pointer (some ⟨n, 0, none⟩)])

theorem frC_len {f : Fr} (h : f.ok) (o n : Nat) : (frC f o n).length = 261 := by simp [frC, h.1]

theorem frC_at {f : Fr} (h : f.ok) (o n : Nat) :
    (frC f o n)[0]? = some (.int .i64 f.page) ∧ (frC f o n)[257]? = some (.bool f.dirty) ∧ (frC f o n)[258]? = some (.int .i64 f.pins) ∧ (frC f o n)[259]? = some (.pointer (some ⟨o, 0, none⟩)) ∧ (frC f o n)[260]? = some (.pointer (some ⟨n, 0, none⟩)) ∧
    ∀ i, i < 256 → (frC f o n)[1 + i]? = some (.int .u8 (f.b.getD i 0)) := by
  have hl := h.1
  refine ⟨rfl, ?_, ?_, ?_, ?_, fun i hi => ?_⟩
  iterate 4 (unfold frC; rw [List.getElem?_cons_succ, List.getElem?_append_right (by simp [hl])]; simp [hl])
  unfold frC
  rw [Nat.add_comm, List.getElem?_cons_succ, List.getElem?_append_left (by simp [hl]; omega), List.getElem?_map, List.getElem?_eq_getElem (by omega), List.getD_eq_getElem?_getD, List.getElem?_eq_getElem (by omega)]
  rfl

theorem frC_one (f : Fr) (o n : Nat) : ∀ v ∈ frC f o n, v.oneCell' = true := by
  intro v hv
  rcases List.mem_cons.1 hv with rfl | hv
  · rfl
  · rcases List.mem_append.1 hv with hv | hv
    · exact one_cells _ v hv
    · simp at hv
      rcases hv with rfl | rfl | rfl | rfl <;> rfl

theorem set_dirty {f : Fr} (h : f.ok) (o n : Nat) (d : Bool) : (frC f o n).set 257 (.bool d) = frC { f with dirty := d } o n := by
  unfold frC
  rw [List.set_cons_succ, List.set_append_right _ _ (by simp [h.1])]
  simp [h.1]
theorem set_pins {f : Fr} (h : f.ok) (o n : Nat) (d : Nat) : (frC f o n).set 258 (.int .i64 d) = frC { f with pins := d } o n := by
  unfold frC
  rw [List.set_cons_succ, List.set_append_right _ _ (by simp [h.1])]
  simp [h.1]
theorem set_older {f : Fr} (h : f.ok) (o n : Nat) (d : Nat) : (frC f o n).set 259 (.pointer (some ⟨d, 0, none⟩)) = frC f d n := by
  unfold frC
  rw [List.set_cons_succ, List.set_append_right _ _ (by simp [h.1])]
  simp [h.1]
theorem set_newer {f : Fr} (h : f.ok) (o n : Nat) (d : Nat) : (frC f o n).set 260 (.pointer (some ⟨d, 0, none⟩)) = frC f o d := by
  unfold frC
  rw [List.set_cons_succ, List.set_append_right _ _ (by simp [h.1])]
  simp [h.1]
theorem set_bytes {f : Fr} (h : f.ok) (o n : Nat) (b : List Int) : (frC f o n).take 1 ++ b.map (Value.int .u8) ++ (frC f o n).drop 257 = frC { f with b := b } o n := by
  have e : (frC f o n).drop 257 = [.bool f.dirty, .int .i64 f.pins, .pointer (some ⟨o, 0, none⟩), .pointer (some ⟨n, 0, none⟩)] := by
    unfold frC
    rw [List.drop_succ_cons, List.drop_append_of_le_length (by simp [h.1])]
    simp [h.1]
  rw [e]
  simp [frC]

/-- A frame in memory. -/
def Node (w : World) (g : Nat) (f : Fr) (o n : Nat) : Prop := w.heap[g]? = some (.cells (frC f o n).toArray 69 (0, 0))

theorem Node.at {w : World} {g : Nat} {f : Fr} {o n : Nat} (h : Node w g f o n) (k : f.ok) :
    w.cell? ⟨g, 0, none⟩ = some (.int .i64 f.page) ∧ w.cell? ⟨g, 257, none⟩ = some (.bool f.dirty) ∧ w.cell? ⟨g, 258, none⟩ = some (.int .i64 f.pins) ∧ w.cell? ⟨g, 259, none⟩ = some (.pointer (some ⟨o, 0, none⟩)) ∧ w.cell? ⟨g, 260, none⟩ = some (.pointer (some ⟨n, 0, none⟩)) ∧ ∀ i, w.frozen? ⟨g, i, none⟩ = false := by
  obtain ⟨a0, a1, a2, a3, a4, _⟩ := frC_at k o n
  unfold Node at h
  refine ⟨?_, ?_, ?_, ?_, ?_, fun i => ?_⟩
  iterate 5 (rw [cell_of_row w g _ _ _ (0, 0) h]; simpa)
  unfold World.frozen?
  rw [h]
  simp

theorem Node.row {w : World} {g : Nat} {f : Fr} {o n : Nat} (h : Node w g f o n) (k : f.ok) : Row w (some ⟨g, 1, none⟩) 256 f.b := by
  obtain ⟨_, _, _, _, _, a5⟩ := frC_at k o n
  refine ⟨k.2, by rw [k.1]; exact Nat.le_refl _, by simp [maxLen], .inr ⟨g, 1, rfl, fun i hi => ?_⟩⟩
  rw [k.1] at hi
  rw [cell_of_row w g _ _ _ (0, 0) h]
  simpa using a5 i hi

theorem Node.set {w : World} {g : Nat} {f : Fr} {o n : Nat} (h : Node w g f o n) (i : Nat) (v : Value) : (w.setCell ⟨g, i, none⟩ v).heap[g]? = some (.cells ((frC f o n).set i v).toArray 69 (0, 0)) := by
  rw [setCell_heap w g i v _ _ _ h]
  simp

theorem Node.keep {w w' : World} {g : Nat} {f : Fr} {o n : Nat} (h : Node w g f o n) (k : w'.heap[g]? = w.heap[g]?) : Node w' g f o n := k.trans h

/-- How an element of the map reads. -/
def ptrE : Value → Option (DataW Unit × List MemPlace)
  | .pointer none => some (.lit (.bool false), [])
  | .pointer (some a) => if a.off = 0 ∧ a.spot = none then some (.lit (.int .i64 a.block), []) else none
  | _ => none

def mkP : Option Nat → Value
  | none => .pointer none
  | some g => .pointer (some ⟨g, 0, none⟩)

theorem ptrE_inv {v : Value} {y : DataW Unit × List MemPlace} (h : ptrE v = some y) : ∃ c, v = mkP c ∧ y = ((match c with | none => .lit (.bool false) | some g => .lit (.int .i64 g)), []) := by
  unfold ptrE at h
  split at h
  · simp at h; exact ⟨none, rfl, h.symm⟩
  · split at h
    · rename_i a hc
      obtain ⟨b, o, s⟩ := a
      simp only at hc
      obtain ⟨rfl, rfl⟩ := hc
      simp at h; exact ⟨some b, rfl, h.symm⟩
    · cases h
  · cases h

def findP (ps : List (Nat × Nat)) (k : Int) : Option Nat := (ps.find? (fun x => decide ((x.1 : Int) = k))).map (·.2)

def lkD (c : Option Nat) : DataW Unit := match c with | none => .lit (.bool false) | some g => .lit (.int .i64 g)

theorem lkD_inj {a b : Option Nat} (h : lkD a = lkD b) : a = b := by
  cases a <;> cases b <;> simp [lkD] at h ⊢
  omega

/-- The map from pages to frames. -/
def Held (w : World) (m : Nat) (ps : List (Nat × Nat)) : Prop :=
  (ps.map (·.1)).Nodup ∧ (∀ x ∈ ps, x.1 ≤ 1000000) ∧ ∃ D : DataW Unit, w.ownsMap Tryz.prog 3 ptrE m ps.length D ∧ (∀ k : Int, D.atKey (.int .i64 k) (.lit (.bool false)) = lkD (findP ps k)) ∧ (∀ k : Int, Maps.has D (.int .i64 k) = (findP ps k).isSome) ∧ Maps.size D = ps.length

theorem lawK : Keyed Tryz.prog 3 := int_keyed Tryz.underlying3
theorem zeroP (w : World) : (zeroValue 66).run Tryz.prog w = .ok (.pointer none) w := by kernel_rfl

theorem owns_same {w w' : World} {m n : Nat} {D : DataW Unit} (h : w.ownsMap Tryz.prog 3 ptrE m n D) (k : w'.heap[m]? = w.heap[m]?) : w'.ownsMap Tryz.prog 3 ptrE m n D := by
  obtain ⟨es, clock, hb, rest⟩ := h
  exact ⟨es, clock, k.trans hb, rest⟩

theorem owns_low {w : World} {m n : Nat} {D : DataW Unit} (h : w.ownsMap Tryz.prog 3 ptrE m n D) (n' : Nat) (hn : Maps.size D ≤ n') : w.ownsMap Tryz.prog 3 ptrE m n' D := by
  obtain ⟨es, clock, hb, F, hs, rfl⟩ := h
  refine ⟨es, clock, hb, F, ?_, rfl⟩
  simpa [Maps.size, length_sorted] using hn

theorem Held.keep {w w' : World} {m : Nat} {ps : List (Nat × Nat)} (h : Held w m ps) (k : w'.heap[m]? = w.heap[m]?) : Held w' m ps := by
  obtain ⟨h1, h1', D, h2, rest⟩ := h
  exact ⟨h1, h1', D, owns_same h2 k, rest⟩

theorem Held.lt {w : World} {m : Nat} {ps : List (Nat × Nat)} (h : Held w m ps) : m < w.heap.size := by
  obtain ⟨_, _, D, h2, _⟩ := h
  exact h2.lt

theorem Held.look {w : World} {m : Nat} {ps : List (Nat × Nat)} (h : Held w m ps) (k : Int) (hk : (Lit.int .i64 k).wf = true) : (Instr.lookup 70 (.map (some m)) (.int .i64 k) false).run Tryz.prog w = .ok (mkP (findP ps k)) w := by
  obtain ⟨_, _, D, h2, h3, _⟩ := h
  obtain ⟨v, q, hrun, hv⟩ := h2.lookup lawK Tryz.underlying70 (zeroP w) (by rfl) (keyOf_int_mk Tryz.underlying3 hk)
  obtain ⟨c, rfl, hc⟩ := ptrE_inv hv
  simp only [Prod.mk.injEq] at hc
  rw [h3] at hc
  have : findP ps k = c := lkD_inj (hc.1.trans (by cases c <;> rfl))
  rw [this]; exact hrun

theorem Held.len {w : World} {m : Nat} {ps : List (Nat × Nat)} (h : Held w m ps) (ty : TypeId) : (Builtin.len_ #[70] ty #[.map (some m)]).run Tryz.prog w = .ok (.int .i64 ps.length) w := by
  obtain ⟨_, _, D, h2, _, _, h5⟩ := h
  rw [← h5]
  exact h2.len Tryz.underlying70 ty

theorem findP_app (ps : List (Nat × Nat)) (x : Nat × Nat) (hx : findP ps x.1 = none) (k : Int) : findP (ps ++ [x]) k = if k = x.1 then some x.2 else findP ps k := by
  unfold findP at *
  rw [List.find?_append]
  by_cases hk : k = x.1
  · subst hk
    simp at hx
    rw [List.find?_eq_none.2 (by simpa using hx)]
    simp
  · have hk' : ¬ (x.1 : Int) = k := fun e => hk e.symm
    simp only [if_neg hk]
    cases ps.find? (fun x => decide ((x.1 : Int) = k)) with
    | none => simp [hk']
    | some y => simp

theorem findP_filter (ps : List (Nat × Nat)) (x : Nat) (k : Int) : findP (ps.filter (fun y => decide (y.1 ≠ x))) k = if k = x then none else findP ps k := by
  unfold findP
  induction ps with
  | nil => simp
  | cons y r ih =>
    by_cases h : y.1 = x
    · simp only [List.filter_cons, h, ne_eq, not_true_eq_false, decide_false, Bool.false_eq_true, if_false, ih]
      by_cases hk : k = x
      · simp [hk]
      · simp only [if_neg hk, List.find?_cons, h]
        rw [decide_eq_false (fun e => hk e.symm)]
    · simp only [List.filter_cons, ne_eq, h, not_false_eq_true, decide_true, if_true, List.find?_cons]
      by_cases hy : (y.1 : Int) = k
      · have : ¬ k = x := by omega
        simp [hy, this]
      · simp only [hy, decide_false]
        exact ih

theorem findP_some {ps : List (Nat × Nat)} {k : Int} {g : Nat} (h : findP ps k = some g) : ∃ pg : Nat, k = pg ∧ (pg, g) ∈ ps := by
  unfold findP at h
  cases hf : ps.find? (fun x => decide ((x.1 : Int) = k)) with
  | none => rw [hf] at h; cases h
  | some y =>
    rw [hf] at h
    simp at h
    have := List.find?_some hf
    simp at this
    exact ⟨y.1, this.symm, by rw [← h]; exact List.mem_of_find?_eq_some hf⟩

theorem findP_none {ps : List (Nat × Nat)} {k : Int} (h : findP ps k = none) : ∀ x ∈ ps, (x.1 : Int) ≠ k := by
  unfold findP at h
  simpa using h

theorem findP_mem {ps : List (Nat × Nat)} (hn : (ps.map (·.1)).Nodup) {x : Nat × Nat} (hx : x ∈ ps) : findP ps x.1 = some x.2 := by
  induction ps with
  | nil => simp at hx
  | cons y r ih =>
    simp only [List.map_cons, List.nodup_cons] at hn
    unfold findP at *
    rcases List.mem_cons.1 hx with rfl | hx
    · simp
    · have hne : ¬ ((y.1 : Int) = (x.1 : Int)) := fun e => hn.1 (by rw [show y.1 = x.1 by omega]; exact List.mem_map_of_mem hx)
      rw [List.find?_cons, decide_eq_false hne]
      exact ih hn.2 hx

theorem wfN {n : Nat} (h : n ≤ 1000000) : (Lit.int .i64 (n : Int)).wf = true := by
  simp [Lit.wf, IntKind.min, IntKind.max, IntKind.signed, IntKind.bits]
  omega

theorem litNe {a b : Int} (h : a ≠ b) : (Lit.int .i64 a) ≠ Lit.int .i64 b := fun e => h (by simpa using e)

/-- A new entry. -/
theorem Held.put {w : World} {m : Nat} {ps : List (Nat × Nat)} (h : Held w m ps) (pg g : Nat) (hp : pg ≤ 1000000) (hl : ps.length ≤ 1000000) (hx : findP ps pg = none) :
    ∃ w', (Instr.mapUpdate 70 (.map (some m)) (.int .i64 pg) (.pointer (some ⟨g, 0, none⟩))).run Tryz.prog w = .ok () w' ∧ Held w' m (ps ++ [(pg, g)]) ∧ w.mapTurned w' m := by
  obtain ⟨h1, h1', D, h2, h3, h4, h5⟩ := h
  obtain ⟨w', hrun, ho, ht⟩ := h2.store lawK Tryz.underlying70 (by unfold maxLen; omega) (keyOf_int_mk Tryz.underlying3 (wfN hp)) (val := .pointer (some ⟨g, 0, none⟩)) (d := .lit (.int .i64 g)) (ps := []) (by simp [ptrE])
  have hs : Maps.size (D.put (.int .i64 pg) (.lit (.int .i64 g))) = ps.length + 1 := by
    rw [Maps.size_put (h2.tidy lawK), h4, hx, h5]
    simp
  refine ⟨w', hrun, ⟨?_, ?_, D.put (.int .i64 pg) (.lit (.int .i64 g)), ?_, fun k => ?_, fun k => ?_, ?_⟩, ht⟩
  · simp only [List.map_append, List.map_cons, List.map_nil]
    refine List.nodup_append.2 ⟨h1, by simp, fun a ha b hb => ?_⟩
    simp at hb
    subst hb
    obtain ⟨x, hx', rfl⟩ := List.mem_map.1 ha
    have := findP_none hx x hx'
    omega
  · intro x hx'
    rcases List.mem_append.1 hx' with hx' | hx'
    · exact h1' x hx'
    · simp at hx'; subst hx'; exact hp
  · simpa using ho
  · rw [findP_app _ (pg, g) hx]
    by_cases hk : k = pg
    · subst hk
      rw [Maps.atKey_put_same (k := .int .i64 (pg : Int)) h2.isMap trivial]
      simp [lkD]
    · rw [Maps.atKey_put_other (litNe hk), h3]
      simp [hk]
  · rw [findP_app _ (pg, g) hx]
    by_cases hk : k = pg
    · subst hk
      rw [Maps.has_put_same (k := .int .i64 (pg : Int)) h2.isMap trivial]
      simp
    · rw [Maps.has_put_other (litNe hk), h4]
      simp [hk]
  · simpa using hs

/-- An entry goes. -/
theorem Held.del {w : World} {m : Nat} {ps : List (Nat × Nat)} (h : Held w m ps) (pg : Nat) (hp : pg ≤ 1000000) (ty : TypeId) :
    ∃ w', (Builtin.delete_ #[70, 3] ty #[.map (some m), .int .i64 pg]).run Tryz.prog w = .ok (.tuple #[]) w' ∧ Held w' m (ps.filter (fun y => decide (y.1 ≠ pg))) ∧ w.mapTurned w' m := by
  obtain ⟨h1, h1', D, h2, h3, h4, h5⟩ := h
  obtain ⟨w', hrun, ho, ht⟩ := h2.drop lawK Tryz.underlying70 (keyOf_int_mk Tryz.underlying3 (wfN hp)) ty
  have hs : Maps.size (D.del (.int .i64 pg)) = (ps.filter (fun y => decide (y.1 ≠ pg))).length := by
    have e := Maps.size_del (k := .int .i64 pg) (h2.tidy lawK)
    rw [h4, h5] at e
    have e2 : (ps.filter (fun y => decide (y.1 ≠ pg))).length + (if (findP ps pg).isSome = true then 1 else 0) = ps.length := by
      clear h1' D h2 h3 h4 h5 hrun ho ht e
      induction ps with
      | nil => simp [findP]
      | cons y r ih =>
        simp only [List.map_cons, List.nodup_cons] at h1
        have ih := ih h1.2
        by_cases hy : y.1 = pg
        · have hn : findP r pg = none := by
            unfold findP
            simp only [Option.map_eq_none_iff, List.find?_eq_none, decide_eq_true_eq]
            intro x hx e
            exact h1.1 (by rw [hy, ← show x.1 = pg by omega]; exact List.mem_map_of_mem hx)
          rw [hn] at ih
          have hs : findP (y :: r) pg = some y.2 := by unfold findP; simp [hy]
          rw [hs]
          simp [hy] at ih ⊢
          exact ih
        · have hs : findP (y :: r) pg = findP r pg := by
            unfold findP
            rw [List.find?_cons, decide_eq_false (by omega)]
          rw [hs]
          simp [hy]
          simp at ih
          omega
    omega
  refine ⟨w', hrun, ⟨?_, ?_, D.del (.int .i64 pg), owns_low ho _ (by omega), fun k => ?_, fun k => ?_, hs⟩, ht⟩
  · exact h1.sublist (List.Sublist.map _ List.filter_sublist)
  · exact fun x hx => h1' x (List.mem_filter.1 hx).1
  · rw [findP_filter]
    by_cases hk : k = pg
    · subst hk
      rw [Maps.atKey_del_same]
      simp [lkD]
    · rw [Maps.atKey_del_other (litNe hk), h3, if_neg hk]
  · rw [findP_filter]
    by_cases hk : k = pg
    · subst hk
      rw [Maps.has_del_same]
      simp
    · rw [Maps.has_del_other (litNe hk), h4, if_neg hk]

theorem held_new (w : World) : Held (w.alloc (.map #[] 0)) w.heap.size [] :=
  ⟨by simp, by simp, .map [], World.ownsMap_made w Tryz.prog 3 ptrE, fun k => by simp [findP, lkD, DataW.atKey], fun k => by simp [Maps.has, findP], by simp [Maps.size]⟩

theorem turned_heap {w w' : World} {m k : Nat} (h : w.mapTurned w' m) (hk : k ≠ m) (hl : k < w.heap.size) : w'.heap[k]? = w.heap[k]? :=
  h.grown.block k hl (by simp [hk])
end Go.Proofs.YtojckbhbnalkeaaGreat.Oct

/-
  A pool in memory: its frames in a ring.
-/
namespace Go.Proofs.YtojckbhbnalkeaaGreat.Oct
open Go.RowKit

/-- The ring, from its end round to its end. -/
def cyc (e : Nat) (bs : List Nat) (i : Nat) : Nat := (e :: (bs ++ [e])).getD i e

theorem cyc_zero (e : Nat) (bs : List Nat) : cyc e bs 0 = e := rfl
theorem cyc_end (e : Nat) (bs : List Nat) : cyc e bs (bs.length + 1) = e := by simp [cyc, List.getD_eq_getElem?_getD]
theorem cyc_succ (e : Nat) (bs : List Nat) (i : Nat) (hi : i < bs.length) : cyc e bs (i + 1) = bs.getD i e := by
  simp [cyc, List.getD_eq_getElem?_getD, List.getElem?_append_left hi]
theorem cyc_mem (e : Nat) (bs : List Nat) (i : Nat) : cyc e bs i ∈ e :: bs := by
  rcases i with _ | i
  · simp [cyc_zero]
  · by_cases hi : i < bs.length
    · rw [cyc_succ _ _ _ hi, List.getD_eq_getElem?_getD, List.getElem?_eq_getElem hi]
      exact List.mem_cons_of_mem _ (List.getElem_mem hi)
    · simp only [cyc, List.getD_eq_getElem?_getD, List.getElem?_cons_succ, List.getElem?_append_right (by omega : bs.length ≤ i)]
      cases h : i - bs.length <;> simp

theorem cyc_inj {e : Nat} {bs : List Nat} (hn : (e :: bs).Nodup) {i j : Nat} (hi : i ≤ bs.length) (hj : j ≤ bs.length) (h : cyc e bs i = cyc e bs j) : i = j := by
  have key : ∀ k, k ≤ bs.length → cyc e bs k = (e :: bs).getD k e := by
    intro k hk
    rcases k with _ | k
    · rfl
    · rw [cyc_succ _ _ _ (by omega)]; rfl
  rw [key i hi, key j hj, List.getD_eq_getElem?_getD, List.getD_eq_getElem?_getD, List.getElem?_eq_getElem (by simp; omega), List.getElem?_eq_getElem (by simp; omega)] at h
  have hp := List.pairwise_iff_getElem.1 hn
  simp only [Option.getD_some] at h
  rcases Nat.lt_trichotomy i j with h1 | h1 | h1
  · exact absurd h (hp i j _ _ h1)
  · exact h1
  · exact absurd h.symm (hp j i _ _ h1)

theorem getD_erase (bs : List Nat) (e i j : Nat) : (bs.eraseIdx i).getD j e = if j < i then bs.getD j e else bs.getD (j + 1) e := by
  simp only [List.getD_eq_getElem?_getD, List.getElem?_eraseIdx]
  split <;> rfl

theorem cyc_erase (e : Nat) (bs : List Nat) (i j : Nat) (hi : i < bs.length) (hj : j ≤ bs.length) : cyc e (bs.eraseIdx i) j = if j ≤ i then cyc e bs j else cyc e bs (j + 1) := by
  have hl : (bs.eraseIdx i).length = bs.length - 1 := List.length_eraseIdx_of_lt hi
  rcases j with _ | j
  · simp [cyc_zero]
  · by_cases hj' : j < bs.length - 1
    · rw [cyc_succ _ _ _ (by omega), getD_erase]
      by_cases h : j < i
      · rw [if_pos h, if_pos (by omega), cyc_succ _ _ _ (by omega)]
      · rw [if_neg h, if_neg (by omega), cyc_succ _ _ _ (by omega)]
    · have e1 : j + 1 = (bs.eraseIdx i).length + 1 := by omega
      rw [e1, cyc_end, if_neg (by omega), show (bs.eraseIdx i).length + 1 + 1 = bs.length + 1 by omega, cyc_end]

theorem cyc_snoc (e : Nat) (bs : List Nat) (g j : Nat) (hj : j ≤ bs.length) : cyc e (bs ++ [g]) j = cyc e bs j := by
  rcases j with _ | j
  · rfl
  · rw [cyc_succ _ _ _ (by simp; omega), cyc_succ _ _ _ (by omega)]
    simp [List.getD_eq_getElem?_getD, List.getElem?_append_left (show j < bs.length by omega)]
theorem cyc_snoc1 (e : Nat) (bs : List Nat) (g : Nat) : cyc e (bs ++ [g]) (bs.length + 1) = g := by
  rw [cyc_succ _ _ _ (by simp)]
  simp [List.getD_eq_getElem?_getD]
theorem cyc_snoc2 (e : Nat) (bs : List Nat) (g : Nat) : cyc e (bs ++ [g]) (bs.length + 2) = e := by
  have := cyc_end e (bs ++ [g])
  simpa using this

/-- One value is another one. -/
def upF {α : Type} (f : Nat → α) (g : Nat) (v : α) : Nat → α := fun x => if x = g then v else f x
theorem upF_same {α : Type} (f : Nat → α) (g : Nat) (v : α) : upF f g v g = v := by simp [upF]
theorem upF_other {α : Type} (f : Nat → α) {g x : Nat} (v : α) (h : x ≠ g) : upF f g v x = f x := by simp [upF, h]

/-- Links that make a ring. -/
def Ring (e : Nat) (bs : List Nat) (ol nw : Nat → Nat) : Prop := ∀ i, i ≤ bs.length → nw (cyc e bs i) = cyc e bs (i + 1) ∧ ol (cyc e bs (i + 1)) = cyc e bs i

theorem Ring.out {e : Nat} {bs : List Nat} {ol nw : Nat → Nat} (h : Ring e bs ol nw) (hn : (e :: bs).Nodup) (i : Nat) (hi : i < bs.length) :
    Ring e (bs.eraseIdx i) (upF ol (cyc e bs (i + 2)) (cyc e bs i)) (upF nw (cyc e bs i) (cyc e bs (i + 2))) := by
  have hl : (bs.eraseIdx i).length = bs.length - 1 := List.length_eraseIdx_of_lt hi
  have hinj := fun {a b : Nat} (ha : a ≤ bs.length) (hb : b ≤ bs.length) (hab : cyc e bs a = cyc e bs b) => cyc_inj hn ha hb hab
  have hend : cyc e bs (bs.length + 1) = cyc e bs 0 := by rw [cyc_end, cyc_zero]
  have inj2 : ∀ {a b : Nat}, 1 ≤ a → 1 ≤ b → a ≤ bs.length + 1 → b ≤ bs.length + 1 → cyc e bs a = cyc e bs b → a = b := by
    intro a b h1 h2 h3 h4 hab
    by_cases ha : a = bs.length + 1
    · by_cases hb : b = bs.length + 1
      · omega
      · rw [ha, hend] at hab; have := hinj (by omega) (by omega) hab; omega
    · by_cases hb : b = bs.length + 1
      · rw [hb, hend] at hab; have := hinj (by omega) (by omega) hab; omega
      · exact hinj (by omega) (by omega) hab
  intro j hj
  rw [hl] at hj
  rw [cyc_erase _ _ _ _ hi (by omega), cyc_erase _ _ _ _ hi (by omega)]
  by_cases h1 : j < i
  · rw [if_pos (by omega), if_pos (by omega)]
    refine ⟨?_, ?_⟩
    · rw [upF_other _ _ (fun e1 => by have := hinj (by omega) (by omega) e1; omega)]; exact (h j (by omega)).1
    · rw [upF_other _ _ (fun e1 => by have := inj2 (by omega) (by omega) (by omega) (by omega) e1; omega)]; exact (h j (by omega)).2
  · by_cases h2 : j = i
    · subst h2
      rw [if_pos (by omega), if_neg (by omega)]
      exact ⟨upF_same _ _ _, upF_same _ _ _⟩
    · rw [if_neg (by omega), if_neg (by omega)]
      refine ⟨?_, ?_⟩
      · rw [upF_other _ _ (fun e1 => by have := hinj (by omega) (by omega) e1; omega)]; exact (h (j + 1) (by omega)).1
      · rw [upF_other _ _ (fun e1 => by have := inj2 (by omega) (by omega) (by omega) (by omega) e1; omega)]; exact (h (j + 1) (by omega)).2

theorem Ring.snoc {e : Nat} {bs : List Nat} {ol nw : Nat → Nat} (h : Ring e bs ol nw) (hn : (e :: bs).Nodup) (g : Nat) (hg : g ∉ e :: bs) :
    Ring e (bs ++ [g]) (upF (upF ol g (cyc e bs bs.length)) e g) (upF (upF nw g e) (cyc e bs bs.length) g) := by
  have hne : ∀ k, cyc e bs k ≠ g := fun k e1 => hg (e1 ▸ cyc_mem e bs k)
  intro j hj
  simp only [List.length_append, List.length_cons, List.length_nil, Nat.zero_add] at hj
  by_cases h1 : j < bs.length
  · rw [cyc_snoc _ _ _ _ (by omega), cyc_snoc _ _ _ _ (by omega)]
    have h0 : cyc e bs (j + 1) ≠ e := fun e1 => by have := cyc_inj hn (i := j + 1) (j := 0) (by omega) (by omega) e1; omega
    refine ⟨?_, ?_⟩
    · rw [upF_other _ _ (fun e1 => by have := cyc_inj hn (by omega) (by omega) e1; omega), upF_other _ _ (hne _)]; exact (h j (by omega)).1
    · rw [upF_other _ _ h0, upF_other _ _ (hne _)]; exact (h j (by omega)).2
  · by_cases h2 : j = bs.length
    · subst h2
      rw [cyc_snoc _ _ _ _ (by omega), cyc_snoc1]
      refine ⟨upF_same _ _ _, ?_⟩
      rw [upF_other _ _ (fun e1 => hg (by rw [e1]; simp)), upF_same]
    · have h3 : j = bs.length + 1 := by omega
      subst h3
      rw [cyc_snoc1, cyc_snoc2]
      refine ⟨?_, upF_same _ _ _⟩
      rw [upF_other _ _ (fun e1 => hne _ e1.symm), upF_same]

/-- The pages of a ring, and their frames. -/
def psOf (bs : List Nat) (fr : Nat → Fr) : List (Nat × Nat) := bs.map fun g => ((fr g).page, g)

/-- A pool in memory, block by block. -/
structure PoolC (w : World) (p d m e N np : Nat) (bs : List Nat) (fr : Nat → Fr) (ol nw : Nat → Nat) : Prop where
  cells : w.heap[p]? = some (.cells #[.pointer (some ⟨d, 0, none⟩), .int .i64 N, .map (some m), .pointer (some ⟨e, 0, none⟩)] 72 (0, 0))
  held : Held w m (psOf bs fr)
  node : ∀ g ∈ e :: bs, Node w g (fr g) (ol g) (nw g)
  ring : Ring e bs ol nw
  ok : ∀ g ∈ e :: bs, (fr g).ok
  pg : ∀ g ∈ bs, (fr g).page < np
  ap : (p :: m :: e :: bs).Nodup
  n8 : 8 ≤ N
  n4 : N ≤ 4096
  len : bs.length ≤ N
  np4 : np ≤ 4096

theorem PoolC.apart {w : World} {p d m e N np : Nat} {bs : List Nat} {fr : Nat → Fr} {ol nw : Nat → Nat} (h : PoolC w p d m e N np bs fr ol nw) :
    p ≠ m ∧ p ∉ e :: bs ∧ m ∉ e :: bs ∧ (e :: bs).Nodup ∧ e ∉ bs ∧ bs.Nodup := by
  have := h.ap
  simp only [List.nodup_cons, List.mem_cons, not_or] at this
  obtain ⟨⟨a1, a2, a3⟩, ⟨b1, b2⟩, c1, c2⟩ := this
  refine ⟨a1, by simp [a2, a3], by simp [b1, b2], by simp [c1, c2], c1, c2⟩

/-- The facts that a walk over a pool wants. -/
theorem PoolC.at {w : World} {p d m e N np : Nat} {bs : List Nat} {fr : Nat → Fr} {ol nw : Nat → Nat} (h : PoolC w p d m e N np bs fr ol nw) :
    w.cell? ⟨p, 0, none⟩ = some (.pointer (some ⟨d, 0, none⟩)) ∧ w.cell? ⟨p, 1, none⟩ = some (.int .i64 N) ∧ w.cell? ⟨p, 2, none⟩ = some (.map (some m)) ∧ w.cell? ⟨p, 3, none⟩ = some (.pointer (some ⟨e, 0, none⟩)) := by
  have hc := h.cells
  refine ⟨?_, ?_, ?_, ?_⟩
  all_goals (rw [cell_of_row w p _ _ _ (0, 0) hc]; rfl)

/-- Its blocks. -/
def footP (p m e : Nat) (bs : List Nat) (k : Nat) : Prop := k = p ∨ k = m ∨ k ∈ e :: bs

theorem PoolC.keep {w w' : World} {p d m e N np : Nat} {bs : List Nat} {fr : Nat → Fr} {ol nw : Nat → Nat} (h : PoolC w p d m e N np bs fr ol nw) (k : ∀ g, footP p m e bs g → w'.heap[g]? = w.heap[g]?) : PoolC w' p d m e N np bs fr ol nw :=
  { h with
    cells := (k p (.inl rfl)).trans h.cells
    held := h.held.keep (k m (.inr (.inl rfl)))
    node := fun g hg => (h.node g hg).keep (k g (.inr (.inr hg))) }

theorem PoolC.lt {w : World} {p d m e N np : Nat} {bs : List Nat} {fr : Nat → Fr} {ol nw : Nat → Nat} (h : PoolC w p d m e N np bs fr ol nw) : ∀ g, footP p m e bs g → g < w.heap.size := by
  intro g hg
  rcases hg with rfl | rfl | hg
  · exact heap_lt h.cells
  · exact h.held.lt
  · exact heap_lt (h.node g hg)

/-- Some of the frames, or of their links, have turned. -/
theorem PoolC.re {w w' : World} {p d m e N np : Nat} {bs : List Nat} {fr fr' : Nat → Fr} {ol nw : Nat → Nat} (h : PoolC w p d m e N np bs fr ol nw)
    (hp : w'.heap[p]? = w.heap[p]?) (hm : w'.heap[m]? = w.heap[m]?) (hn : ∀ g ∈ e :: bs, Node w' g (fr' g) (ol g) (nw g)) (hok : ∀ g ∈ e :: bs, (fr' g).ok) (hpg : ∀ g, (fr' g).page = (fr g).page) : PoolC w' p d m e N np bs fr' ol nw :=
  { h with
    cells := hp.trans h.cells
    held := by
      have e1 : psOf bs fr' = psOf bs fr := by simp only [psOf]; exact List.map_congr_left (fun g _ => by rw [hpg])
      rw [e1]; exact h.held.keep hm
    node := hn
    ok := hok
    pg := fun g hg => by rw [hpg]; exact h.pg g hg }

theorem psOf_find {bs : List Nat} {fr : Nat → Fr} {k : Int} {g : Nat} (h : findP (psOf bs fr) k = some g) : g ∈ bs ∧ k = (fr g).page := by
  obtain ⟨pg, hk, hm⟩ := findP_some h
  simp only [psOf, List.mem_map, Prod.mk.injEq] at hm
  obtain ⟨g', hg', h1, h2⟩ := hm
  subst h2
  exact ⟨hg', by rw [hk, h1]⟩

/-- A pool beside its device: the device's blocks are others. -/
structure PD (w : World) (p d m e N : Nat) (Fd F : Nat → Prop) (D : Dv) (bs : List Nat) (fr : Nat → Fr) (ol nw : Nat → Nat) : Prop where
  dev : Dev w d Fd D
  pool : PoolC w p d m e N D.n bs fr ol nw
  fd : ∀ k, Fd k → F k ∧ ¬ footP p m e bs k
  fp : ∀ k, footP p m e bs k → F k
  flt : ∀ k, F k → k < w.heap.size

theorem PD.keep {w w' : World} {p d m e N : Nat} {Fd F : Nat → Prop} {D : Dv} {bs : List Nat} {fr : Nat → Fr} {ol nw : Nat → Nat} (h : PD w p d m e N Fd F D bs fr ol nw) (hs : w.heap.size ≤ w'.heap.size) (k : ∀ g, F g → w'.heap[g]? = w.heap[g]?) : PD w' p d m e N Fd F D bs fr ol nw :=
  ⟨h.dev.keep hs (fun g hg => k g (h.fd g hg).1), h.pool.keep (fun g hg => k g (h.fp g hg)), h.fd, h.fp, fun g hg => Nat.lt_of_lt_of_le (h.flt g hg) hs⟩

theorem PD.ch {w w' : World} {p d m e N : Nat} {Fd F G : Nat → Prop} {D : Dv} {bs : List Nat} {fr : Nat → Fr} {ol nw : Nat → Nat} (h : PD w p d m e N Fd F D bs fr ol nw) (hc : Ch w.heap.size G w w') (hd : ∀ k, F k → ¬ G k) : PD w' p d m e N Fd F D bs fr ol nw :=
  h.keep hc.size (fun g hg => hc.block g (h.flt g hg) (hd g hg))

theorem PD.below {w w' : World} {p d m e N : Nat} {Fd F : Nat → Prop} {D : Dv} {bs : List Nat} {fr : Nat → Fr} {ol nw : Nat → Nat} (h : PD w p d m e N Fd F D bs fr ol nw) (hc : Below w.heap.size w w') : PD w' p d m e N Fd F D bs fr ol nw :=
  h.ch (Ch.of (fun _ => False) hc) (fun _ _ h => h)

/-- The device has turned, and nothing of the pool. -/
theorem PD.turn {w w' : World} {p d m e N : Nat} {Fd F Fd' : Nat → Prop} {D D' : Dv} {bs : List Nat} {fr : Nat → Fr} {ol nw : Nat → Nat} (h : PD w p d m e N Fd F D bs fr ol nw)
    (h' : Dev w' d Fd' D') (hn : D'.n = D.n) (hs : Step Fd Fd' w w') : PD w' p d m e N Fd' (fun k => F k ∨ w.heap.size ≤ k ∧ k < w'.heap.size) D' bs fr ol nw ∧ Step F (fun k => F k ∨ w.heap.size ≤ k ∧ k < w'.heap.size) w w' := by
  have hlt := h.pool.lt
  have hsz := hs.1.size
  refine ⟨⟨h', ?_, fun k hk => ?_, fun k hk => .inl (h.fp k hk), fun k hk => ?_⟩, hs.1.mono (Nat.le_refl _) (fun k _ hk => (h.fd k hk).1), fun k hk => ?_⟩
  · rw [hn]
    exact h.pool.keep (fun g hg => hs.1.block g (hlt g hg) (fun e1 => (h.fd g e1).2 hg))
  · rcases hs.2 k hk with h1 | h1
    · exact ⟨.inl (h.fd k h1).1, (h.fd k h1).2⟩
    · exact ⟨.inr ⟨h1, h'.2.1 k hk⟩, fun e1 => by have := hlt k e1; omega⟩
  · rcases hk with hk | hk
    · have := h.flt k hk; omega
    · exact hk.2
  · rcases hk with hk | hk
    · exact .inl hk
    · exact .inr hk.1

/-- A pool with its device, plainly L. -/
def Pool (w : World) (p d : Nat) (F : Nat → Prop) (D : Dv) (N : Nat) (L : List Fr) : Prop :=
  ∃ (Fd : Nat → Prop) (m e : Nat) (bs : List Nat) (fr : Nat → Fr) (ol nw : Nat → Nat), PD w p d m e N Fd F D bs fr ol nw ∧ L = bs.map fr

theorem Pool.lt {w : World} {p d : Nat} {F : Nat → Prop} {D : Dv} {N : Nat} {L : List Fr} (h : Pool w p d F D N L) : ∀ k, F k → k < w.heap.size := by
  obtain ⟨Fd, m, e, bs, fr, ol, nw, h1, _⟩ := h
  exact h1.flt

theorem Pool.keep {w w' : World} {p d : Nat} {F : Nat → Prop} {D : Dv} {N : Nat} {L : List Fr} (h : Pool w p d F D N L) (hs : w.heap.size ≤ w'.heap.size) (k : ∀ g, F g → w'.heap[g]? = w.heap[g]?) : Pool w' p d F D N L := by
  obtain ⟨Fd, m, e, bs, fr, ol, nw, h1, h2⟩ := h
  exact ⟨Fd, m, e, bs, fr, ol, nw, h1.keep hs k, h2⟩

theorem Pool.ch {w w' : World} {p d : Nat} {F G : Nat → Prop} {D : Dv} {N : Nat} {L : List Fr} (h : Pool w p d F D N L) (hc : Ch w.heap.size G w w') (hd : ∀ k, F k → ¬ G k) : Pool w' p d F D N L :=
  h.keep hc.size (fun g hg => hc.block g (h.lt g hg) (hd g hg))

theorem Pool.below {w w' : World} {p d : Nat} {F : Nat → Prop} {D : Dv} {N : Nat} {L : List Fr} (h : Pool w p d F D N L) (hc : Below w.heap.size w w') : Pool w' p d F D N L :=
  h.ch (Ch.of (fun _ => False) hc) (fun _ _ h => h)
end Go.Proofs.YtojckbhbnalkeaaGreat.Oct
