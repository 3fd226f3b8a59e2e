/-
  A device that a crash leaves, on its way: the document's.
-/
import Derived.Test.YtfbjjdjgijdlaaaNm
namespace Go.Proofs.Ytfbjjdjgijdlaaa.Oct
open Go.RowKit

/-- A new device: k of its pages now are laid, i of those that last. -/
structure Cx (w0 w : World) (q g1 g2 c1 c2 n k : Nat) (s1 s2 : List Value) (gs cs : Nat → Nat) (f : Nat → List Int) : Prop where
  cells : w.heap[q]? = some (.cells #[.slice (some ⟨g1, 0, none⟩) n c1, .slice (some ⟨g2, 0, none⟩) n c2, .slice none 0 0, .slice none 0 0, .int .i64 (-1), .int .i64 0, .bool false] 52 (0, 0))
  o1 : w.ownsRow 0 28 1 (.slice (some ⟨g1, 0, none⟩) n c1) n s1
  o2 : w.ownsRow 0 28 1 (.slice (some ⟨g2, 0, none⟩) n c2) n s2
  pg : ∀ i, i < k → s2[i]? = some (.slice (some ⟨gs i, 0, none⟩) 256 (cs i)) ∧ Own 0 w (.slice (some ⟨gs i, 0, none⟩) 256 (cs i)) (f i) ∧ gs i ≠ q ∧ gs i ≠ g1 ∧ gs i ≠ g2 ∧ w0.heap.size ≤ gs i
  inj : ∀ i j, i < k → j < k → i ≠ j → gs i ≠ gs j
  n1 : g1 ≠ q
  n2 : g2 ≠ q
  n12 : g1 ≠ g2
  lq : w0.heap.size ≤ q
  l1 : w0.heap.size ≤ g1
  l2 : w0.heap.size ≤ g2
  bel : Below w0.heap.size w0 w

variable {w0 w : World} {q g1 g2 c1 c2 n k : Nat} {s1 s2 : List Value} {gs cs : Nat → Nat} {f : Nat → List Int}

theorem Cx.lt (h : Cx w0 w q g1 g2 c1 c2 n k s1 s2 gs cs f) : q < w.heap.size ∧ g1 < w.heap.size ∧ g2 < w.heap.size := ⟨heap_lt h.cells, (World.ownsRow.lt h.o1 g1 rfl).2, (World.ownsRow.lt h.o2 g2 rfl).2⟩

theorem Cx.below {w2 : World} (h : Cx w0 w q g1 g2 c1 c2 n k s1 s2 gs cs f) (hb : Below w.heap.size w w2) : Cx w0 w2 q g1 g2 c1 c2 n k s1 s2 gs cs f := by
  obtain ⟨lq, l1, l2⟩ := h.lt
  exact { h with
    cells := (hb.block q lq).trans h.cells
    o1 := owns_keep h.o1 (fun g hg => by simp [Value.ownBlock] at hg; subst hg; exact hb.block _ l1)
    o2 := owns_keep h.o2 (fun g hg => by simp [Value.ownBlock] at hg; subst hg; exact hb.block _ l2)
    pg := fun i hi => by
      obtain ⟨e1, e2, e3⟩ := h.pg i hi
      exact ⟨e1, e2.kept (hb.block _ e2.lt2.2), e3⟩
    bel := h.bel.trans (hb.mono h.bel.size) }

theorem Cx.at (h : Cx w0 w q g1 g2 c1 c2 n k s1 s2 gs cs f) : w.cell? ⟨q, 0, none⟩ = some (.slice (some ⟨g1, 0, none⟩) n c1) ∧ w.cell? ⟨q, 1, none⟩ = some (.slice (some ⟨g2, 0, none⟩) n c2) := by
  constructor
  · rw [cell_of_row w q _ _ _ (0, 0) h.cells]; rfl
  · rw [cell_of_row w q _ _ _ (0, 0) h.cells]; rfl

theorem Cx.start {w : World} {v1 v2 : Value} {f1 f2 : Nat → List Int} (h : Rf w0 w q n n v1 v2 s1 s2 f1 f2) (hn : 0 < n) : ∃ g1 g2 c1 c2, Cx w0 w q g1 g2 c1 c2 n 0 s1 s2 (fun _ => 0) (fun _ => 0) f := by
  obtain ⟨g1, c1, hv1, _, _⟩ := h.o1.form hn
  obtain ⟨g2, c2, hv2, _, _⟩ := h.o2.form hn
  subst hv1 hv2
  exact ⟨g1, g2, c1, c2, h.cells, h.o1, h.o2, fun i hi => by omega, fun i j hi => by omega, fun e => h.n1 (by simp [Value.ownBlock]; exact e), fun e => h.n2 (by simp [Value.ownBlock]; exact e), fun e => h.n12 g1 rfl (by rw [e]; rfl), h.lq, h.l1 g1 rfl, h.l2 g2 rfl, h.bel⟩

/-- One page more is laid. -/
theorem Cx.put {w5 : World} {ga ca : Nat} (h : Cx w0 w q g1 g2 c1 c2 n k s1 s2 gs cs f) (hk : k < n) (hb : Below w.heap.size w w5) (ho : Own w.heap.size w5 (.slice (some ⟨ga, 0, none⟩) 256 ca) (f k)) :
    Cx w0 (w5.setCell ⟨g2, k, none⟩ (.slice (some ⟨ga, 0, none⟩) 256 ca)) q g1 g2 c1 c2 n (k + 1) s1 (s2.set k (.slice (some ⟨ga, 0, none⟩) 256 ca)) (fun i => if i = k then ga else gs i) (fun i => if i = k then ca else cs i) f := by
  obtain ⟨lq, l1, l2⟩ := h.lt
  have h5 := h.below hb
  have hl := ho.lt2
  have hst := World.ownsRow.stored h5.o2 k (.slice (some ⟨ga, 0, none⟩) 256 ca)
  have k3 : ∀ b, b ≠ g2 → (w5.setCell ⟨g2, k, none⟩ (.slice (some ⟨ga, 0, none⟩) 256 ca)).heap[b]? = w5.heap[b]? := fun b hb => Below.heap_setCell w5 ⟨g2, k, none⟩ _ b hb
  have hs := h.bel.size
  have hlen : s2.length = n := by have := h.o2.1; omega
  have old : ∀ i, i < k → gs i < w.heap.size := fun i hi => (h.pg i hi).2.1.lt2.2
  exact
  { cells := (k3 q (Ne.symm h.n2)).trans h5.cells
    o1 := owns_keep h5.o1 (fun g hg => by simp [Value.ownBlock] at hg; subst hg; exact k3 _ h.n12)
    o2 := hst.1
    pg := fun i hi => by
      by_cases e : i = k
      · subst e
        simp only [if_true]
        exact ⟨by rw [List.getElem?_set_self (by omega)], ho.zero.kept (k3 ga (by omega)), by omega, by omega, by omega, by omega⟩
      · simp only [e, if_false]
        obtain ⟨e1, e2, e3, e4, e5, e6⟩ := h5.pg i (by omega)
        exact ⟨by rw [List.getElem?_set_ne (by omega)]; exact e1, e2.kept (k3 _ e5), e3, e4, e5, e6⟩
    inj := fun i j hi hj hne => by
      by_cases ei : i = k
      · by_cases ej : j = k
        · omega
        · simp only [ei, ej, if_true, if_false]
          have := old j (by omega); omega
      · by_cases ej : j = k
        · simp only [ei, ej, if_true, if_false]
          have := old i (by omega); omega
        · simp only [ei, ej, if_false]
          exact h.inj i j (by omega) (by omega) hne
    n1 := h.n1
    n2 := h.n2
    n12 := h.n12
    lq := h.lq
    l1 := h.l1
    l2 := h.l2
    bel := h5.bel.setCell (p := ⟨g2, k, none⟩) h.l2 _ }

/-- A byte of a page is laid. -/
theorem Cx.poke {pg m : Nat} {y : Int} (h : Cx w0 w q g1 g2 c1 c2 n k s1 s2 gs cs f) (hp : pg < k) (hm : m < (f pg).length) :
    Cx w0 (w.setCell ⟨gs pg, m, none⟩ (.int .u8 y)) q g1 g2 c1 c2 n k s1 s2 gs cs (fun i => if i = pg then (f pg).set m y else f i) := by
  obtain ⟨e1, e2, e3, e4, e5, e6⟩ := h.pg pg hp
  have k3 : ∀ b, b ≠ gs pg → (w.setCell ⟨gs pg, m, none⟩ (.int .u8 y)).heap[b]? = w.heap[b]? := fun b hb => Below.heap_setCell w ⟨gs pg, m, none⟩ _ b hb
  obtain ⟨-, _, _, hst⟩ := own_at' e2 m hm
  exact { h with
    cells := (k3 q (Ne.symm e3)).trans h.cells
    o1 := owns_keep h.o1 (fun g hg => by simp [Value.ownBlock] at hg; subst hg; exact k3 _ (Ne.symm e4))
    o2 := owns_keep h.o2 (fun g hg => by simp [Value.ownBlock] at hg; subst hg; exact k3 _ (Ne.symm e5))
    pg := fun i hi => by
      by_cases e : i = pg
      · subst e
        simp only [if_true]
        exact ⟨e1, hst y, e3, e4, e5, e6⟩
      · simp only [e, if_false]
        obtain ⟨a1, a2, a3⟩ := h.pg i hi
        exact ⟨a1, a2.kept (k3 _ (h.inj i pg hi hp e)), a3⟩
    bel := h.bel.setCell (p := ⟨gs pg, m, none⟩) e6 _ }

/-- Pages that last are laid up to j. -/
def Ls (w0 w : World) (q g1 g2 : Nat) (s1 : List Value) (j : Nat) (f : Nat → List Int) : Prop :=
  ∀ i, i < j → ∃ h d, s1[i]? = some (.slice (some ⟨h, 0, none⟩) 256 d) ∧ Own 0 w (.slice (some ⟨h, 0, none⟩) 256 d) (f i) ∧ h ≠ q ∧ h ≠ g1 ∧ h ≠ g2 ∧ w0.heap.size ≤ h

theorem Cx.last {w5 : World} {ga ca j : Nat} (h : Cx w0 w q g1 g2 c1 c2 n n s1 s2 gs cs f) (hs : Ls w0 w q g1 g2 s1 j f) (hj : j < n) (hb : Below w.heap.size w w5) (ho : Own w.heap.size w5 (.slice (some ⟨ga, 0, none⟩) 256 ca) (f j)) :
    Cx w0 (w5.setCell ⟨g1, j, none⟩ (.slice (some ⟨ga, 0, none⟩) 256 ca)) q g1 g2 c1 c2 n n (s1.set j (.slice (some ⟨ga, 0, none⟩) 256 ca)) s2 gs cs f ∧ Ls w0 (w5.setCell ⟨g1, j, none⟩ (.slice (some ⟨ga, 0, none⟩) 256 ca)) q g1 g2 (s1.set j (.slice (some ⟨ga, 0, none⟩) 256 ca)) (j + 1) f := by
  obtain ⟨lq, l1, l2⟩ := h.lt
  have h5 := h.below hb
  have hl := ho.lt2
  have hst := World.ownsRow.stored h5.o1 j (.slice (some ⟨ga, 0, none⟩) 256 ca)
  have k3 : ∀ b, b ≠ g1 → (w5.setCell ⟨g1, j, none⟩ (.slice (some ⟨ga, 0, none⟩) 256 ca)).heap[b]? = w5.heap[b]? := fun b hb => Below.heap_setCell w5 ⟨g1, j, none⟩ _ b hb
  have hsz := h.bel.size
  have hlen : s1.length = n := by have := h.o1.1; omega
  refine ⟨{ h5 with
    cells := (k3 q (Ne.symm h.n1)).trans h5.cells
    o1 := hst.1
    o2 := owns_keep h5.o2 (fun g hg => by simp [Value.ownBlock] at hg; subst hg; exact k3 _ (Ne.symm h.n12))
    pg := fun i hi => by
      obtain ⟨e1, e2, e3, e4, e5, e6⟩ := h5.pg i hi
      exact ⟨e1, e2.kept (k3 _ e4), e3, e4, e5, e6⟩
    bel := h5.bel.setCell (p := ⟨g1, j, none⟩) h.l1 _ }, fun i hi => ?_⟩
  by_cases e : i = j
  · subst e
    exact ⟨ga, ca, by rw [List.getElem?_set_self (by omega)], ho.zero.kept (k3 ga (by omega)), by omega, by omega, by omega, by omega⟩
  · obtain ⟨x, d, e1, e2, e3, e4, e5, e6⟩ := hs i (by omega)
    have hx := e2.lt2.2
    exact ⟨x, d, by rw [List.getElem?_set_ne (by omega)]; exact e1, (e2.kept (hb.block x hx)).kept (k3 x e4), e3, e4, e5, e6⟩

theorem Cx.dev {L : List Int} (h : Cx w0 w q g1 g2 c1 c2 n n s1 s2 gs cs (pageOf L)) (hs : Ls w0 w q g1 g2 s1 n (pageOf L)) (hL : L.length = n * 256) (h8 : 8 ≤ n) (h4 : n ≤ 4096) (hb : Bys L) : ∃ F, RD w q F (newD L) ∧ ∀ k, F k → w0.heap.size ≤ k := by
  obtain ⟨lq, l1, l2⟩ := h.lt
  refine RD.ofRf (w := w0) (v1 := .slice (some ⟨g1, 0, none⟩) n c1) (v2 := .slice (some ⟨g2, 0, none⟩) n c2) (s1 := s1) (s2 := s2) ?_ hL h8 h4 hb
  have nb : ∀ {g a c : Nat}, (Value.slice (some ⟨a, 0, none⟩) n c).ownBlock = some g → a = g := fun e => by simpa [Value.ownBlock] using e
  exact
  { cells := h.cells
    o1 := h.o1
    o2 := h.o2
    p1 := fun i hi => by
      obtain ⟨x, d, e1, e2, e3, e4, e5, e6⟩ := hs i hi
      exact ⟨x, d, e1, e2, (by rintro (e | e | e); exact e3 e; exact e4 (nb e).symm; exact e5 (nb e).symm), e6⟩
    p2 := fun i hi => by
      obtain ⟨e1, e2, e3, e4, e5, e6⟩ := h.pg i hi
      exact ⟨_, _, e1, e2, (by rintro (e | e | e); exact e3 e; exact e4 (nb e).symm; exact e5 (nb e).symm), e6⟩
    n1 := fun e => h.n1 (nb e)
    n2 := fun e => h.n2 (nb e)
    n12 := fun g e1 e2 => h.n12 ((nb e1).trans (nb e2).symm)
    lq := h.lq
    l1 := fun g e => (nb e) ▸ h.l1
    l2 := fun g e => (nb e) ▸ h.l2
    bel := h.bel }

/-- The first m bytes of a page are written where the choice says so. -/
def pgI (a b : List Int) (c : Int) (m : Nat) : List Int := (List.range 256).map fun j => if j < m ∧ bitAt c (j / 64) = true then b.getD j 0 else a.getD j 0
theorem pgI_len (a b : List Int) (c : Int) (m : Nat) : (pgI a b c m).length = 256 := by simp [pgI]
theorem pgI_at (a b : List Int) (c : Int) (m j : Nat) (hj : j < 256) : (pgI a b c m).getD j 0 = if j < m ∧ bitAt c (j / 64) = true then b.getD j 0 else a.getD j 0 := by
  unfold pgI
  rw [List.getD_eq_getElem?_getD, List.getElem?_map, List.getElem?_range hj]
  rfl
theorem pgI_zero {a : List Int} (b : List Int) (c : Int) (ha : a.length = 256) : pgI a b c 0 = a := by
  refine eq_of_getD (by rw [pgI_len, ha]) fun j hj => ?_
  rw [pgI_len] at hj
  rw [pgI_at _ _ _ _ _ hj, if_neg (by omega)]
theorem pgI_skip (a b : List Int) (c : Int) (m : Nat) (h : bitAt c (m / 64) = false) : pgI a b c (m + 1) = pgI a b c m := by
  refine eq_of_getD (by rw [pgI_len, pgI_len]) fun j hj => ?_
  rw [pgI_len] at hj
  rw [pgI_at _ _ _ _ _ hj, pgI_at _ _ _ _ _ hj]
  by_cases e : j = m
  · subst e; rw [if_neg (by rw [h]; simp), if_neg (by omega)]
  · have : (j < m + 1) = (j < m) := propext (by omega)
    simp only [this]
theorem pgI_set (a b : List Int) (c : Int) (m : Nat) (hm : m < 256) (h : bitAt c (m / 64) = true) : (pgI a b c m).set m (b.getD m 0) = pgI a b c (m + 1) := by
  refine eq_of_getD (by rw [List.length_set, pgI_len, pgI_len]) fun j hj => ?_
  rw [List.length_set, pgI_len] at hj
  rw [pgI_at _ _ _ _ _ hj, List.getD_eq_getElem?_getD]
  by_cases e : j = m
  · subst e
    rw [List.getElem?_set_self (by rw [pgI_len]; exact hj), if_pos ⟨by omega, h⟩]
    rfl
  · rw [List.getElem?_set_ne (by omega), ← List.getD_eq_getElem?_getD, pgI_at _ _ _ _ _ hj]
    have : (j < m + 1) = (j < m) := propext (by omega)
    simp only [this]
theorem pgI_all {L b : List Int} {pg : Nat} (c : Int) (hL : pg * 256 + 256 ≤ L.length) : pgI (pageOf L pg) b c 256 = pageOf (onto L pg b c) pg := by
  refine eq_of_getD (by rw [pgI_len, pageOf_len (by rw [onto_len]; exact hL)]) fun j hj => ?_
  rw [pgI_len] at hj
  rw [pgI_at _ _ _ _ _ hj, pageOf_at _ _ _ hj, pageOf_at _ _ _ hj, onto_at _ _ _ _ _ (by omega), show (pg * 256 + j) % 256 = j by omega, show (pg * 256 + j) / 256 = pg by omega]
  simp only [hj, true_and]
end Go.Proofs.Ytfbjjdjgijdlaaa.Oct
