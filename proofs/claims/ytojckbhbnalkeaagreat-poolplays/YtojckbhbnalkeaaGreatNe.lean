/-
  The document's device in memory, with writes, outcomes, fuse, ops; page, op.
-/
import Derived.Test.YtojckbhbnalkeaaGreatNc
namespace Go.Proofs.YtojckbhbnalkeaaGreat.Oct
open Go.RowKit

/-- Pages, each a row of its own in a block of P. -/
def Pg (w : World) (P : Nat → Prop) (vs : List Value) (k : Nat) (f : Nat → List Int) : Prop :=
  ∀ i, i < k → ∃ g c, vs[i]? = some (.slice (some ⟨g, 0, none⟩) 256 c) ∧ Own 0 w (.slice (some ⟨g, 0, none⟩) 256 c) (f i) ∧ P g
theorem Pg.keep {w w' : World} {P : Nat → Prop} {vs : List Value} {k : Nat} {f : Nat → List Int} (h : Pg w P vs k f) (hk : ∀ g, P g → w'.heap[g]? = w.heap[g]?) : Pg w' P vs k f := fun i hi => by
  obtain ⟨g, c, h1, h2, h3⟩ := h i hi
  exact ⟨g, c, h1, h2.kept (hk g h3), h3⟩
theorem Pg.mono {w : World} {P P' : Nat → Prop} {vs : List Value} {k : Nat} {f : Nat → List Int} (h : Pg w P vs k f) (hP : ∀ g, P g → P' g) : Pg w P' vs k f := fun i hi => by
  obtain ⟨g, c, h1, h2, h3⟩ := h i hi
  exact ⟨g, c, h1, h2, hP g h3⟩
theorem Pg.set {w : World} {P : Nat → Prop} {vs : List Value} {k : Nat} {f f' : Nat → List Int} (h : Pg w P vs k f) (hl : vs.length = k) {j : Nat} (hj : j < k) {g c : Nat} (ho : Own 0 w (.slice (some ⟨g, 0, none⟩) 256 c) (f' j)) (hg : P g) (hz : ∀ i, i < k → i ≠ j → f' i = f i) : Pg w P (vs.set j (.slice (some ⟨g, 0, none⟩) 256 c)) k f' := fun i hi => by
  by_cases e : i = j
  · subst e
    exact ⟨g, c, by rw [List.getElem?_set_self (by omega)], ho, hg⟩
  · obtain ⟨g', c', h1, h2, h3⟩ := h i hi
    exact ⟨g', c', by rw [List.getElem?_set_ne (by omega)]; exact h1, by rw [hz i hi e]; exact h2, h3⟩

/-- Writes that were done, two cells each. -/
def Ws (w : World) (P : Nat → Prop) (vs : List Value) (l : List (Nat × List Int)) : Prop :=
  ∀ i, i < l.length → ∃ g c, vs[2 * i]? = some (.int .i64 (l.getD i (0, [])).1) ∧ vs[2 * i + 1]? = some (.slice (some ⟨g, 0, none⟩) 256 c) ∧ Own 0 w (.slice (some ⟨g, 0, none⟩) 256 c) (l.getD i (0, [])).2 ∧ P g
theorem Ws.keep {w w' : World} {P : Nat → Prop} {vs : List Value} {l : List (Nat × List Int)} (h : Ws w P vs l) (hk : ∀ g, P g → w'.heap[g]? = w.heap[g]?) : Ws w' P vs l := fun i hi => by
  obtain ⟨g, c, h1, h2, h3, h4⟩ := h i hi
  exact ⟨g, c, h1, h2, h3.kept (hk g h4), h4⟩
theorem Ws.mono {w : World} {P P' : Nat → Prop} {vs : List Value} {l : List (Nat × List Int)} (h : Ws w P vs l) (hP : ∀ g, P g → P' g) : Ws w P' vs l := fun i hi => by
  obtain ⟨g, c, h1, h2, h3, h4⟩ := h i hi
  exact ⟨g, c, h1, h2, h3, hP g h4⟩
theorem Ws.snoc {w : World} {P : Nat → Prop} {vs : List Value} {l : List (Nat × List Int)} (h : Ws w P vs l) (hl : vs.length = 2 * l.length) {g c pg : Nat} {b : List Int} (ho : Own 0 w (.slice (some ⟨g, 0, none⟩) 256 c) b) (hg : P g) : Ws w P (vs ++ [.int .i64 pg, .slice (some ⟨g, 0, none⟩) 256 c]) (l ++ [(pg, b)]) := fun i hi => by
  simp at hi
  by_cases e : i < l.length
  · obtain ⟨g', c', h1, h2, h3, h4⟩ := h i e
    have ee : (l ++ [(pg, b)]).getD i (0, []) = l.getD i (0, []) := by simp [List.getD_eq_getElem?_getD, List.getElem?_append_left e]
    exact ⟨g', c', by rw [List.getElem?_append_left (by omega), ee]; exact h1, by rw [List.getElem?_append_left (by omega)]; exact h2, by rw [ee]; exact h3, h4⟩
  · have : i = l.length := by omega
    subst this
    have ee : (l ++ [(pg, b)]).getD l.length (0, []) = (pg, b) := by simp [List.getD_eq_getElem?_getD]
    exact ⟨g, c, by rw [← hl, ee]; simp, by rw [← hl, List.getElem?_append_right (by omega)]; simp, by rw [ee]; exact ho, hg⟩

/-- The document's device, block by block. -/
structure RefC (w : World) (q : Nat) (P : Nat → Prop) (v1 v2 vS vO : Value) (s1 s2 sS : List Value) (D : Dv) : Prop where
  cells : w.heap[q]? = some (.cells #[v1, v2, vS, vO, .int .i64 D.fuse, .int .i64 D.ops, .bool D.dead] 58 (0, 0))
  o1 : w.ownsRow 0 38 1 v1 D.n s1
  o2 : w.ownsRow 0 38 1 v2 D.n s2
  oS : w.ownsRow 0 99 2 vS D.since.length sS
  oO : OutAt w vO D.out
  p1 : Pg w P s1 D.n (pageOf D.sure)
  p2 : Pg w P s2 D.n (pageOf D.now)
  pS : Ws w P sS D.since
  f2 : D.fuse ≤ 9223372036854775807
  dq : ¬ P q
  d1 : ∀ g, v1.ownBlock = some g → ¬ P g ∧ g ≠ q ∧ v2.ownBlock ≠ some g ∧ vS.ownBlock ≠ some g ∧ vO.ownBlock ≠ some g
  d2 : ∀ g, v2.ownBlock = some g → ¬ P g ∧ g ≠ q ∧ vS.ownBlock ≠ some g ∧ vO.ownBlock ≠ some g
  dS : ∀ g, vS.ownBlock = some g → ¬ P g ∧ g ≠ q ∧ vO.ownBlock ≠ some g
  dO : ∀ g, vO.ownBlock = some g → ¬ P g ∧ g ≠ q

def footR (q : Nat) (P : Nat → Prop) (v1 v2 vS vO : Value) (k : Nat) : Prop := k = q ∨ P k ∨ v1.ownBlock = some k ∨ v2.ownBlock = some k ∨ vS.ownBlock = some k ∨ vO.ownBlock = some k

/-- The document's device in memory: its blocks are among F. -/
def RD (w : World) (q : Nat) (F : Nat → Prop) (D : Dv) : Prop :=
  D.ok ∧ (∀ k, F k → k < w.heap.size) ∧ ∃ P v1 v2 vS vO s1 s2 sS, RefC w q P v1 v2 vS vO s1 s2 sS D ∧ ∀ k, footR q P v1 v2 vS vO k → F k

theorem RefC.keep {w w' : World} {q : Nat} {P : Nat → Prop} {v1 v2 vS vO : Value} {s1 s2 sS : List Value} {D : Dv} (h : RefC w q P v1 v2 vS vO s1 s2 sS D) (k : ∀ g, footR q P v1 v2 vS vO g → w'.heap[g]? = w.heap[g]?) : RefC w' q P v1 v2 vS vO s1 s2 sS D :=
  { h with
    cells := (k q (.inl rfl)).trans h.cells
    o1 := owns_keep h.o1 (fun g hg => k g (.inr (.inr (.inl hg))))
    o2 := owns_keep h.o2 (fun g hg => k g (.inr (.inr (.inr (.inl hg)))))
    oS := owns_keep h.oS (fun g hg => k g (.inr (.inr (.inr (.inr (.inl hg))))))
    oO := h.oO.keep (fun g hg => k g (.inr (.inr (.inr (.inr (.inr hg))))))
    p1 := h.p1.keep (fun g hg => k g (.inr (.inl hg)))
    p2 := h.p2.keep (fun g hg => k g (.inr (.inl hg)))
    pS := h.pS.keep (fun g hg => k g (.inr (.inl hg))) }

theorem RD.keep {w w' : World} {q : Nat} {F : Nat → Prop} {D : Dv} (h : RD w q F D) (hs : w.heap.size ≤ w'.heap.size) (k : ∀ g, F g → w'.heap[g]? = w.heap[g]?) : RD w' q F D := by
  obtain ⟨h1, h2, P, v1, v2, vS, vO, s1, s2, sS, h3, h4⟩ := h
  exact ⟨h1, fun g hg => Nat.lt_of_lt_of_le (h2 g hg) hs, P, v1, v2, vS, vO, s1, s2, sS, h3.keep (fun g hg => k g (h4 g hg)), h4⟩
theorem RD.ch {w w' : World} {q : Nat} {F G : Nat → Prop} {D : Dv} (h : RD w q F D) (hc : Ch w.heap.size G w w') (hd : ∀ k, F k → ¬ G k) : RD w' q F D :=
  h.keep hc.size (fun g hg => hc.block g (h.2.1 g hg) (hd g hg))
theorem RD.below {w w' : World} {q : Nat} {F : Nat → Prop} {D : Dv} (h : RD w q F D) (hc : Below w.heap.size w w') : RD w' q F D :=
  h.ch (Ch.of (fun _ => False) hc) (fun _ _ h => h)

theorem RefC.at {w : World} {q : Nat} {P : Nat → Prop} {v1 v2 vS vO : Value} {s1 s2 sS : List Value} {D : Dv} (h : RefC w q P v1 v2 vS vO s1 s2 sS D) :
    w.cell? ⟨q, 0, none⟩ = some v1 ∧ w.cell? ⟨q, 1, none⟩ = some v2 ∧ w.cell? ⟨q, 2, none⟩ = some vS ∧ w.cell? ⟨q, 3, none⟩ = some vO ∧
    w.cell? ⟨q, 4, none⟩ = some (.int .i64 D.fuse) ∧ w.cell? ⟨q, 5, none⟩ = some (.int .i64 D.ops) ∧ w.cell? ⟨q, 6, none⟩ = some (.bool D.dead) ∧ ∀ i, w.frozen? ⟨q, i, none⟩ = false := by
  have hc := h.cells
  refine ⟨?_, ?_, ?_, ?_, ?_, ?_, ?_, fun i => ?_⟩
  all_goals first | (rw [cell_of_row w q _ _ _ (0, 0) hc]; rfl) | skip
  unfold World.frozen?
  rw [hc]
  simp

/-- What op does: numbers, a flag, the outcomes. -/
theorem RefC.setq {w w' : World} {q : Nat} {P : Nat → Prop} {v1 v2 vS vO vO' : Value} {s1 s2 sS : List Value} {D : Dv} (h : RefC w q P v1 v2 vS vO s1 s2 sS D) {fu : Int} {op : Nat} {dd : Bool} {ou : List Int}
    (hq : w'.heap[q]? = some (.cells #[v1, v2, vS, vO', .int .i64 fu, .int .i64 op, .bool dd] 58 (0, 0))) (hb : ∀ b, b ≠ q → w'.heap[b]? = w.heap[b]?) (ho : OutAt w vO' ou) (hoo : ∀ g, vO'.ownBlock = some g → vO.ownBlock = some g) (hf : fu ≤ 9223372036854775807) :
    RefC w' q P v1 v2 vS vO' s1 s2 sS { D with fuse := fu, ops := op, dead := dd, out := ou } := by
  have hP : ∀ g, P g → w'.heap[g]? = w.heap[g]? := fun g hg => hb g (fun e => h.dq (e ▸ hg))
  exact
  { cells := hq
    o1 := owns_keep h.o1 (fun g hg => hb g (h.d1 g hg).2.1)
    o2 := owns_keep h.o2 (fun g hg => hb g (h.d2 g hg).2.1)
    oS := owns_keep h.oS (fun g hg => hb g (h.dS g hg).2.1)
    oO := ho.keep (fun g hg => hb g (h.dO g (hoo g hg)).2)
    p1 := h.p1.keep hP
    p2 := h.p2.keep hP
    pS := h.pS.keep hP
    f2 := hf
    dq := h.dq
    d1 := fun g hg => ⟨(h.d1 g hg).1, (h.d1 g hg).2.1, (h.d1 g hg).2.2.1, (h.d1 g hg).2.2.2.1, fun e => (h.d1 g hg).2.2.2.2 (hoo g e)⟩
    d2 := fun g hg => ⟨(h.d2 g hg).1, (h.d2 g hg).2.1, (h.d2 g hg).2.2.1, fun e => (h.d2 g hg).2.2.2 (hoo g e)⟩
    dS := fun g hg => ⟨(h.dS g hg).1, (h.dS g hg).2.1, fun e => (h.dS g hg).2.2 (hoo g e)⟩
    dO := fun g hg => h.dO g (hoo g hg) }

theorem rpage_any {w : World} {q : Nat} {F : Nat → Prop} {D : Dv} (h : RD w q F D) (pg : Int) :
    Calls Tryz.prog 47 #[.pointer (some ⟨q, 0, none⟩), .int .i64 pg] w fun e w' => e = .returned (.bool (decide (0 ≤ pg ∧ pg < D.n))) ∧ w = w' := by
  obtain ⟨ok, hF, P, v1, v2, vS, vO, s1, s2, sS, hc, hfo⟩ := h
  have n8 := ok.n8
  obtain ⟨g2, c2, hv2, _, _⟩ := hc.o2.form (by omega)
  subst hv2
  have c1 := hc.at.2.1
  have n4 := ok.n4
  clear ok hF hc hfo
  by_cases h0 : 0 ≤ pg
  · by_cases h1 : pg < D.n
    · rw [show decide (0 ≤ pg ∧ pg < (D.n : Int)) = true by simp; omega]
      go_enter Tryz.func47, Tryz.ntmps47
      go_wp2
      go_ret
      exact ⟨rfl, rfl⟩
    · rw [show decide (0 ≤ pg ∧ pg < (D.n : Int)) = false by simp; omega]
      go_enter Tryz.func47, Tryz.ntmps47
      go_wp2
      go_ret
      exact ⟨rfl, rfl⟩
  · rw [show decide (0 ≤ pg ∧ pg < (D.n : Int)) = false by simp; omega]
    go_enter Tryz.func47, Tryz.ntmps47
    go_wp2
    go_ret
    exact ⟨rfl, rfl⟩

theorem rop_die {w : World} {q : Nat} {F : Nat → Prop} {D : Dv} (h : RD w q F D) (hf : D.fuse = 0) (ho : D.ops ≤ 1000000) :
    Calls Tryz.prog 80 #[.pointer (some ⟨q, 0, none⟩)] w fun e w' => e = .returned (.tuple #[.bool true, .int .i64 0]) ∧ RD w' q F (dieD D) ∧ Ch w.heap.size F w w' := by
  obtain ⟨ok, hF, P, v1, v2, vS, vO, s1, s2, sS, hc, hfo⟩ := h
  obtain ⟨_, _, _, _, c4, c5, c6, z⟩ := hc.at
  have z5 := z 5
  have z6 := z 6
  have hq : F q := hfo q (.inl rfl)
  rw [hf] at c4
  have HD : Hid (RD ((w.setCell ⟨q, 5, none⟩ (.int .i64 ((D.ops : Int) + 1))).setCell ⟨q, 6, none⟩ (.bool true)) q F (dieD D)) := by
    refine ⟨dieD_ok ok, fun k hk => by rw [size_setCell, size_setCell]; exact hF k hk, P, v1, v2, vS, vO, s1, s2, sS, ?_, hfo⟩
    refine hc.setq (fu := D.fuse) (op := D.ops + 1) (dd := true) (ou := D.out) ?_ (fun b hb => (Below.heap_setCell _ _ _ b hb).trans (Below.heap_setCell _ _ _ b hb)) hc.oO (fun g hg => hg) hc.f2
    rw [setCell_heap _ q 6 _ _ _ _ (setCell_heap _ q 5 _ _ _ _ hc.cells)]
    rfl
  clear ok hc hfo hF z
  go_enter Tryz.func80, Tryz.ntmps80
  go_wp2
  go_ret2
  exact ⟨rfl, HD.out, (Ch.set hq _ _).trans ((Ch.set hq _ _).mono (by rw [size_setCell]; exact Nat.le_refl _) (fun _ _ e => e))⟩

theorem rop_go {w : World} {q : Nat} {F : Nat → Prop} {D : Dv} (h : RD w q F D) (hf : D.fuse ≠ 0) (ho : D.ops ≤ 1000000) :
    Calls Tryz.prog 80 #[.pointer (some ⟨q, 0, none⟩)] w fun e w' => e = .returned (.tuple #[.bool false, .int .i64 (oc D)]) ∧ RD w' q F (opD D) ∧ Ch w.heap.size F w w' := by
  obtain ⟨ok, hF, P, v1, v2, vS, vO, s1, s2, sS, hc, hfo⟩ := h
  obtain ⟨_, _, _, c3, c4, c5, c6, z⟩ := hc.at
  have z3 := z 3
  have z4 := z 4
  have z5 := z 5
  have hq : F q := hfo q (.inl rfl)
  have fl := ok.fuse
  have f2 := hc.f2
  by_cases hpos : D.fuse < 0
  · rcases id hc.oO with ⟨rfl, h0⟩ | ⟨g, off, cap, cur, rfl, hg, h1, h2, h3, h4⟩
    · skip
      have HD : Hid (RD (w.setCell ⟨q, 5, none⟩ (.int .i64 ((D.ops : Int) + 1))) q F (opD D)) := by
        have e : opD D = { D with fuse := D.fuse, ops := D.ops + 1, dead := D.dead, out := D.out.tail } := by simp [opD]; omega
        rw [e]
        refine ⟨e ▸ opD_ok ok, fun k hk => by simp only [size_setCell]; exact hF k hk, P, v1, v2, vS, _, s1, s2, sS, ?_, fun k hk => hfo k hk⟩
        refine hc.setq (fu := D.fuse) (op := D.ops + 1) (dd := D.dead) (ou := D.out.tail) ?_ (fun b hb => (Below.heap_setCell _ _ _ b hb)) (by rw [h0, List.tail_nil, ← h0]; exact hc.oO) (fun g hg => hg) (by have := hc.f2; omega)
        rw [(setCell_heap _ q 5 _ _ _ _ hc.cells)]
        rfl
      have HL : Hid (oc D = 0) := by show oc D = 0; unfold oc; rw [h0]; rfl
      clear ok hc hfo hF z h0
      go_enter Tryz.func80, Tryz.ntmps80
      go_wp2
      go_ret2
      exact ⟨by rw [HL.out]; rfl, HD.out, (Ch.set hq _ _)⟩
    · by_cases hl : D.out.length = 0
      · have h0 : D.out = [] := List.eq_nil_of_length_eq_zero hl
        rw [hl] at c3
        have HD : Hid (RD (w.setCell ⟨q, 5, none⟩ (.int .i64 ((D.ops : Int) + 1))) q F (opD D)) := by
          have e : opD D = { D with fuse := D.fuse, ops := D.ops + 1, dead := D.dead, out := D.out.tail } := by simp [opD]; omega
          rw [e]
          refine ⟨e ▸ opD_ok ok, fun k hk => by simp only [size_setCell]; exact hF k hk, P, v1, v2, vS, _, s1, s2, sS, ?_, fun k hk => hfo k hk⟩
          refine hc.setq (fu := D.fuse) (op := D.ops + 1) (dd := D.dead) (ou := D.out.tail) ?_ (fun b hb => (Below.heap_setCell _ _ _ b hb)) (by rw [h0, List.tail_nil, ← h0]; exact hc.oO) (fun g hg => hg) (by have := hc.f2; omega)
          rw [(setCell_heap _ q 5 _ _ _ _ hc.cells)]
          rfl
        have HL : Hid (oc D = 0) := by show oc D = 0; unfold oc; rw [h0]; rfl
        clear ok hc hfo hF z h0 h4 hl h1
        go_enter Tryz.func80, Tryz.ntmps80
        go_wp2
        go_ret2
        exact ⟨by rw [HL.out]; rfl, HD.out, (Ch.set hq _ _)⟩
      · obtain ⟨x, hx⟩ : ∃ x, D.out.getD 0 0 = x := ⟨_, rfl⟩
        have hg0 : w.cell? ⟨g, off, none⟩ = some (.int .u8 x) := by
          have := h4 0 (by omega)
          rw [Nat.add_zero] at this
          rw [cell_of_row w g off cur _ (0, 0) hg, this, hx]
        have hgq : g ≠ q := (hc.dO g rfl).2
        have hx2 : 0 ≤ x ∧ x ≤ 255 := by
          rw [← hx, List.getD_eq_getElem?_getD, List.getElem?_eq_getElem (by omega)]
          exact ok.bout _ (List.getElem_mem _)
        obtain ⟨hx3, hx4⟩ := hx2
        by_cases hc1 : cap = 1
        · subst hc1
          have e1 : D.out.length = 1 := by omega
          rw [e1] at c3
          have HD : Hid (RD ((w.setCell ⟨q, 5, none⟩ (.int .i64 ((D.ops : Int) + 1))).setCell ⟨q, 3, none⟩ (.slice (some ⟨g, off, none⟩) 0 0)) q F (opD D)) := by
            have e : opD D = { D with fuse := D.fuse, ops := D.ops + 1, dead := D.dead, out := D.out.tail } := by simp [opD]; omega
            rw [e]
            refine ⟨e ▸ opD_ok ok, fun k hk => by simp only [size_setCell]; exact hF k hk, P, v1, v2, vS, (.slice (some ⟨g, off, none⟩) 0 0), s1, s2, sS, ?_, fun k hk => hfo k hk⟩
            refine hc.setq (fu := D.fuse) (op := D.ops + 1) (dd := D.dead) (ou := D.out.tail) ?_ (fun b hb => ((Below.heap_setCell _ _ _ b hb).trans (Below.heap_setCell _ _ _ b hb))) hc.oO.tl0 (fun g hg => hg) (by have := hc.f2; omega)
            rw [(setCell_heap _ q 3 _ _ _ _ (setCell_heap _ q 5 _ _ _ _ hc.cells))]
            rfl
          have HL : Hid (x % 3 = oc D) := by show x % 3 = oc D; unfold oc; rw [hx]
          clear ok hc hfo hF z h4 hl h1 hx e1
          go_enter Tryz.func80, Tryz.ntmps80
          go_wp2
          go_ret2
          exact ⟨by rw [← HL.out]; rfl, HD.out, ((Ch.set hq _ _).trans ((Ch.set hq _ _).mono (by simp only [size_setCell]; exact Nat.le_refl _) (fun _ _ e => e)))⟩
        · obtain ⟨m, hm⟩ : ∃ m, cap = m + 1 := ⟨cap - 1, by omega⟩
          obtain ⟨L, hL⟩ : ∃ L, D.out.length = L + 1 := ⟨D.out.length - 1, by omega⟩
          have hT := hc.oO.tl (by omega)
          rw [hL, hm, Nat.add_sub_cancel, Nat.add_sub_cancel] at hT
          subst hm
          have hm0 : ¬ m = 0 := by omega
          have h1' : L ≤ m := by omega
          unfold maxLen at h2
          rw [hL] at c3
          have HD : Hid (RD ((w.setCell ⟨q, 5, none⟩ (.int .i64 ((D.ops : Int) + 1))).setCell ⟨q, 3, none⟩ (.slice (some ⟨g, off + 1, none⟩) L m)) q F (opD D)) := by
            have e : opD D = { D with fuse := D.fuse, ops := D.ops + 1, dead := D.dead, out := D.out.tail } := by simp [opD]; omega
            rw [e]
            refine ⟨e ▸ opD_ok ok, fun k hk => by simp only [size_setCell]; exact hF k hk, P, v1, v2, vS, (.slice (some ⟨g, off + 1, none⟩) L m), s1, s2, sS, ?_, fun k hk => hfo k hk⟩
            refine hc.setq (fu := D.fuse) (op := D.ops + 1) (dd := D.dead) (ou := D.out.tail) ?_ (fun b hb => ((Below.heap_setCell _ _ _ b hb).trans (Below.heap_setCell _ _ _ b hb))) hT (fun g hg => hg) (by have := hc.f2; omega)
            rw [(setCell_heap _ q 3 _ _ _ _ (setCell_heap _ q 5 _ _ _ _ hc.cells))]
            rfl
          have HL : Hid (x % 3 = oc D) := by show x % 3 = oc D; unfold oc; rw [hx]
          clear ok hc hfo hF z h4 hl h1 hL hc1 hT hx
          go_enter Tryz.func80, Tryz.ntmps80
          go_wp2
          go_ret2
          exact ⟨by rw [← HL.out]; rfl, HD.out, ((Ch.set hq _ _).trans ((Ch.set hq _ _).mono (by simp only [size_setCell]; exact Nat.le_refl _) (fun _ _ e => e)))⟩
  · rcases id hc.oO with ⟨rfl, h0⟩ | ⟨g, off, cap, cur, rfl, hg, h1, h2, h3, h4⟩
    · skip
      have HD : Hid (RD ((w.setCell ⟨q, 5, none⟩ (.int .i64 ((D.ops : Int) + 1))).setCell ⟨q, 4, none⟩ (.int .i64 (D.fuse - 1))) q F (opD D)) := by
        have e : opD D = { D with fuse := (D.fuse - 1), ops := D.ops + 1, dead := D.dead, out := D.out.tail } := by simp [opD]; omega
        rw [e]
        refine ⟨e ▸ opD_ok ok, fun k hk => by simp only [size_setCell]; exact hF k hk, P, v1, v2, vS, _, s1, s2, sS, ?_, fun k hk => hfo k hk⟩
        refine hc.setq (fu := (D.fuse - 1)) (op := D.ops + 1) (dd := D.dead) (ou := D.out.tail) ?_ (fun b hb => ((Below.heap_setCell _ _ _ b hb).trans (Below.heap_setCell _ _ _ b hb))) (by rw [h0, List.tail_nil, ← h0]; exact hc.oO) (fun g hg => hg) (by have := hc.f2; omega)
        rw [(setCell_heap _ q 4 _ _ _ _ (setCell_heap _ q 5 _ _ _ _ hc.cells))]
        rfl
      have HL : Hid (oc D = 0) := by show oc D = 0; unfold oc; rw [h0]; rfl
      clear ok hc hfo hF z h0
      go_enter Tryz.func80, Tryz.ntmps80
      go_wp2
      go_ret2
      exact ⟨by rw [HL.out]; rfl, HD.out, ((Ch.set hq _ _).trans ((Ch.set hq _ _).mono (by simp only [size_setCell]; exact Nat.le_refl _) (fun _ _ e => e)))⟩
    · by_cases hl : D.out.length = 0
      · have h0 : D.out = [] := List.eq_nil_of_length_eq_zero hl
        rw [hl] at c3
        have HD : Hid (RD ((w.setCell ⟨q, 5, none⟩ (.int .i64 ((D.ops : Int) + 1))).setCell ⟨q, 4, none⟩ (.int .i64 (D.fuse - 1))) q F (opD D)) := by
          have e : opD D = { D with fuse := (D.fuse - 1), ops := D.ops + 1, dead := D.dead, out := D.out.tail } := by simp [opD]; omega
          rw [e]
          refine ⟨e ▸ opD_ok ok, fun k hk => by simp only [size_setCell]; exact hF k hk, P, v1, v2, vS, _, s1, s2, sS, ?_, fun k hk => hfo k hk⟩
          refine hc.setq (fu := (D.fuse - 1)) (op := D.ops + 1) (dd := D.dead) (ou := D.out.tail) ?_ (fun b hb => ((Below.heap_setCell _ _ _ b hb).trans (Below.heap_setCell _ _ _ b hb))) (by rw [h0, List.tail_nil, ← h0]; exact hc.oO) (fun g hg => hg) (by have := hc.f2; omega)
          rw [(setCell_heap _ q 4 _ _ _ _ (setCell_heap _ q 5 _ _ _ _ hc.cells))]
          rfl
        have HL : Hid (oc D = 0) := by show oc D = 0; unfold oc; rw [h0]; rfl
        clear ok hc hfo hF z h0 h4 hl h1
        go_enter Tryz.func80, Tryz.ntmps80
        go_wp2
        go_ret2
        exact ⟨by rw [HL.out]; rfl, HD.out, ((Ch.set hq _ _).trans ((Ch.set hq _ _).mono (by simp only [size_setCell]; exact Nat.le_refl _) (fun _ _ e => e)))⟩
      · obtain ⟨x, hx⟩ : ∃ x, D.out.getD 0 0 = x := ⟨_, rfl⟩
        have hg0 : w.cell? ⟨g, off, none⟩ = some (.int .u8 x) := by
          have := h4 0 (by omega)
          rw [Nat.add_zero] at this
          rw [cell_of_row w g off cur _ (0, 0) hg, this, hx]
        have hgq : g ≠ q := (hc.dO g rfl).2
        have hx2 : 0 ≤ x ∧ x ≤ 255 := by
          rw [← hx, List.getD_eq_getElem?_getD, List.getElem?_eq_getElem (by omega)]
          exact ok.bout _ (List.getElem_mem _)
        obtain ⟨hx3, hx4⟩ := hx2
        by_cases hc1 : cap = 1
        · subst hc1
          have e1 : D.out.length = 1 := by omega
          rw [e1] at c3
          have HD : Hid (RD (((w.setCell ⟨q, 5, none⟩ (.int .i64 ((D.ops : Int) + 1))).setCell ⟨q, 4, none⟩ (.int .i64 (D.fuse - 1))).setCell ⟨q, 3, none⟩ (.slice (some ⟨g, off, none⟩) 0 0)) q F (opD D)) := by
            have e : opD D = { D with fuse := (D.fuse - 1), ops := D.ops + 1, dead := D.dead, out := D.out.tail } := by simp [opD]; omega
            rw [e]
            refine ⟨e ▸ opD_ok ok, fun k hk => by simp only [size_setCell]; exact hF k hk, P, v1, v2, vS, (.slice (some ⟨g, off, none⟩) 0 0), s1, s2, sS, ?_, fun k hk => hfo k hk⟩
            refine hc.setq (fu := (D.fuse - 1)) (op := D.ops + 1) (dd := D.dead) (ou := D.out.tail) ?_ (fun b hb => ((Below.heap_setCell _ _ _ b hb).trans ((Below.heap_setCell _ _ _ b hb).trans (Below.heap_setCell _ _ _ b hb)))) hc.oO.tl0 (fun g hg => hg) (by have := hc.f2; omega)
            rw [(setCell_heap _ q 3 _ _ _ _ (setCell_heap _ q 4 _ _ _ _ (setCell_heap _ q 5 _ _ _ _ hc.cells)))]
            rfl
          have HL : Hid (x % 3 = oc D) := by show x % 3 = oc D; unfold oc; rw [hx]
          clear ok hc hfo hF z h4 hl h1 hx e1
          go_enter Tryz.func80, Tryz.ntmps80
          go_wp2
          go_ret2
          exact ⟨by rw [← HL.out]; rfl, HD.out, (((Ch.set hq _ _).trans ((Ch.set hq _ _).mono (by simp only [size_setCell]; exact Nat.le_refl _) (fun _ _ e => e))).trans ((Ch.set hq _ _).mono (by simp only [size_setCell]; exact Nat.le_refl _) (fun _ _ e => e)))⟩
        · obtain ⟨m, hm⟩ : ∃ m, cap = m + 1 := ⟨cap - 1, by omega⟩
          obtain ⟨L, hL⟩ : ∃ L, D.out.length = L + 1 := ⟨D.out.length - 1, by omega⟩
          have hT := hc.oO.tl (by omega)
          rw [hL, hm, Nat.add_sub_cancel, Nat.add_sub_cancel] at hT
          subst hm
          have hm0 : ¬ m = 0 := by omega
          have h1' : L ≤ m := by omega
          unfold maxLen at h2
          rw [hL] at c3
          have HD : Hid (RD (((w.setCell ⟨q, 5, none⟩ (.int .i64 ((D.ops : Int) + 1))).setCell ⟨q, 4, none⟩ (.int .i64 (D.fuse - 1))).setCell ⟨q, 3, none⟩ (.slice (some ⟨g, off + 1, none⟩) L m)) q F (opD D)) := by
            have e : opD D = { D with fuse := (D.fuse - 1), ops := D.ops + 1, dead := D.dead, out := D.out.tail } := by simp [opD]; omega
            rw [e]
            refine ⟨e ▸ opD_ok ok, fun k hk => by simp only [size_setCell]; exact hF k hk, P, v1, v2, vS, (.slice (some ⟨g, off + 1, none⟩) L m), s1, s2, sS, ?_, fun k hk => hfo k hk⟩
            refine hc.setq (fu := (D.fuse - 1)) (op := D.ops + 1) (dd := D.dead) (ou := D.out.tail) ?_ (fun b hb => ((Below.heap_setCell _ _ _ b hb).trans ((Below.heap_setCell _ _ _ b hb).trans (Below.heap_setCell _ _ _ b hb)))) hT (fun g hg => hg) (by have := hc.f2; omega)
            rw [(setCell_heap _ q 3 _ _ _ _ (setCell_heap _ q 4 _ _ _ _ (setCell_heap _ q 5 _ _ _ _ hc.cells)))]
            rfl
          have HL : Hid (x % 3 = oc D) := by show x % 3 = oc D; unfold oc; rw [hx]
          clear ok hc hfo hF z h4 hl h1 hL hc1 hT hx
          go_enter Tryz.func80, Tryz.ntmps80
          go_wp2
          go_ret2
          exact ⟨by rw [← HL.out]; rfl, HD.out, (((Ch.set hq _ _).trans ((Ch.set hq _ _).mono (by simp only [size_setCell]; exact Nat.le_refl _) (fun _ _ e => e))).trans ((Ch.set hq _ _).mono (by simp only [size_setCell]; exact Nat.le_refl _) (fun _ _ e => e)))⟩
end Go.Proofs.YtojckbhbnalkeaaGreat.Oct
