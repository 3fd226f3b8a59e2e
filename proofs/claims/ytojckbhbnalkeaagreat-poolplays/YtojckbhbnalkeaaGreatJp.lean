/-
  The statements' ints; both pools side by side.
-/
import Derived.Test.YtojckbhbnalkeaaGreatJo
import Derived.Test.YtojckbhbnalkeaaGreatNi
namespace Go.Proofs.YtojckbhbnalkeaaGreat.Oct
open Go.RowKit

set_option maxHeartbeats 1000000 in
set_option maxRecDepth 20000 in
theorem ints_same (a b : Option Addr) (cap cap' : Nat) (xs : List Int) (w : World) (hx : RowI w a cap xs) (hy : RowI w b cap' xs) :
    Calls Tryz.prog 27 #[.slice a xs.length cap, .slice b xs.length cap'] w fun e w' => e = .returned (.bool true) ∧ Below w.heap.size w w' := by
  have hx2 := Nat.le_trans hx.1 hx.2.1
  unfold maxLen at hx2
  have HX : Hid (RowI w a cap xs) := hx
  have HY : Hid (RowI w b cap' xs) := hy
  clear hx hy
  go_enter Tryz.func27, Tryz.ntmps27
  go_wp2
  go_loopw [5] (fun i wr => ∃ k : Nat, k ≤ xs.length ∧ i = .int .i64 k ∧ Hid (Below w.heap.size w wr)) (fun i _ => xs.length - (intOf i).toNat)
  case atStart => exact ⟨0, Nat.zero_le _, rfl, Below.refl _ _⟩
  case round =>
    obtain ⟨k, hk, rfl, HB⟩ := hrel
    by_cases hlt : k < xs.length
    · obtain ⟨ab, ao, rfl, c1⟩ := (HX.out.below HB.out).at' k hlt
      obtain ⟨bb, bo, rfl, c2⟩ := (HY.out.below HB.out).at' k hlt
      obtain ⟨z, hz⟩ : ∃ z, xs.getD k 0 = z := ⟨_, rfl⟩
      rw [hz] at c1 c2
      clear hz
      go_wp2_with fail
      go_still_tail 8, (by kernel_rfl)
      go_wp2
      go_roundw
      case rel => exact ⟨k + 1, by omega, by go_num, ⟨HB.out.os, HB.out.tape, HB.out.output, HB.out.size, HB.out.block⟩⟩
      case measure => simp [intOf]; omega
    · have hk' : k = xs.length := by omega
      subst hk'
      go_wp2
      go_ret
      exact ⟨rfl, HB.out⟩
end Go.Proofs.YtojckbhbnalkeaaGreat.Oct

/-
  Clone.
-/
namespace Go.Proofs.YtojckbhbnalkeaaGreat.Oct
open Go.RowKit

theorem scells_one (l : List (Nat × List Int)) : ∀ v ∈ scells l, v.oneCell' = true := fun v hv => by
  simp only [scells, List.mem_flatMap, wcells, List.mem_cons, List.mem_map] at hv
  obtain ⟨x, _, rfl | ⟨z, _, rfl⟩⟩ := hv <;> rfl

theorem nil_sliceW (w : World) (a : Option Addr) (n c : Nat) : (binOp .eql 87 (.slice a n c) (.slice none 0 0)).run Tryz.prog w = .ok (.bool a.isNone) w := Lib.run_eql_slice_nil w 87 104 a n c 0 0 Tryz.underlying87

end Go.Proofs.YtojckbhbnalkeaaGreat.Oct

/-
  Clone of the device.
-/
namespace Go.Proofs.YtojckbhbnalkeaaGreat.Oct
open Go.RowKit

theorem Own.outAt {base g c : Nat} {w : World} {zs : List Int} (h : Own base w (.slice (some ⟨g, 0, none⟩) zs.length c) zs) : OutAt w (.slice (some ⟨g, 0, none⟩) zs.length c) zs := by
  rcases h.2 with ⟨e, _⟩ | ⟨g', c', cur, e, hb, hg, h1, h2, h3, h4⟩
  · cases e
  · simp only [Value.slice.injEq, Option.some.injEq, Addr.mk.injEq, and_true, true_and] at e
    obtain ⟨rfl, rfl⟩ := e
    refine .inr ⟨g, 0, c, cur, rfl, hg, h1, h2, by omega, fun i hi => ?_⟩
    have e2 : (cur.toList.take (zs.length * 1))[i]? = (zs.map (Value.int .u8))[i]? := by rw [h4]
    rw [List.getElem?_take_of_lt (by omega), List.getElem?_map, List.getElem?_eq_getElem hi] at e2
    rw [Nat.zero_add, ← Array.getElem?_toList, e2, List.getD_eq_getElem?_getD, List.getElem?_eq_getElem hi]
    rfl

theorem OutAt.row {w : World} {g off c : Nat} {zs : List Int} (h : OutAt w (.slice (some ⟨g, off, none⟩) zs.length c) zs) (hb : Bys zs) : Row w (some ⟨g, off, none⟩) c zs := by
  rcases h with ⟨e, _⟩ | ⟨g', off', cap, cur, e, hg, h1, h2, h3, h4⟩
  · cases e
  · simp only [Value.slice.injEq, Option.some.injEq, Addr.mk.injEq, and_true, true_and] at e
    obtain ⟨⟨rfl, rfl⟩, rfl⟩ := e
    exact ⟨hb, h1, h2, .inr ⟨g, off, rfl, fun i hi => by rw [cell_of_row w g (off + i) cur _ (0, 0) hg]; exact h4 i hi⟩⟩

theorem mkDev {w : World} {r gN gL cN cL base b1 b2 b3 b4 : Nat} {vS vO : Value} {f : Int} {D : Dv} (ok : D.ok)
    (hc : w.heap[r]? = some (.cells #[.slice (some ⟨gN, 0, none⟩) D.now.length cN, .slice (some ⟨gL, 0, none⟩) D.sure.length cL, vS, vO, .int .i64 f, .int .i64 D.ops, .bool D.dead] 89 (0, 0)))
    (hN : Own 0 w (.slice (some ⟨gN, 0, none⟩) D.now.length cN) D.now) (hL : Own 0 w (.slice (some ⟨gL, 0, none⟩) D.sure.length cL) D.sure) (hS : w.ownsRow 0 104 257 vS D.since.length (scells D.since)) (hO : OutAt w vO D.out)
    (f1 : -9223372036854775808 ≤ f) (f2 : f ≤ 9223372036854775807) (ff : max f (-1) = D.fuse) (i0 : base ≤ r) (i1 : r < b1) (iN : b1 ≤ gN ∧ gN < b2) (iL : b2 ≤ gL ∧ gL < b3) (iS : ∀ g, vS.ownBlock = some g → b3 ≤ g ∧ g < b4) (h34 : b3 ≤ b4) (iO : ∀ g, vO.ownBlock = some g → b4 ≤ g ∧ g < w.heap.size) :
    Dev w r (fun k => base ≤ k ∧ k < w.heap.size) D := by
  have lN := hN.lt2.2
  have lL := hL.lt2.2
  refine ⟨ok, fun k hk => hk.2, gN, gL, cN, cL, vS, vO, f, ⟨hc, hN, hL, hS, hO, f1, f2, ff, by omega, by omega, by omega, fun e => by have := iS _ e; omega, fun e => by have := iS _ e; omega, fun e => by have := iS _ e; omega, fun e => by have := iO _ e; omega, fun e => by have := iO _ e; omega, fun e => by have := iO _ e; omega, fun g e1 e2 => by have := iS g e1; have := iO g e2; omega⟩, fun k hk => ?_⟩
  rcases hk with e | e | e | e | e
  · have := heap_lt hc; omega
  · omega
  · omega
  · have := iS k e; have := (World.ownsRow.lt hS k e).2; omega
  · have := iO k e; omega

/-- A field of the new device is stored. -/
theorem stage {w w1 w2 : World} {r i : Nat} {cur cur' : Array Value} (v : Value) (hB1 : Below w.heap.size w w1) (hr : w.heap.size = r) (hh1 : w1.heap[r]? = some (.cells cur 89 (0, 0))) (b2 : Below w1.heap.size w1 w2) (hi : i < cur.size) (hcur : cur.setIfInBounds i v = cur') :
    (∃ u, w2.cell? ⟨r, i, none⟩ = some u) ∧ w2.frozen? ⟨r, i, none⟩ = false ∧ (w2.setCell ⟨r, i, none⟩ v).heap[r]? = some (.cells cur' 89 (0, 0)) ∧ Below w.heap.size w (w2.setCell ⟨r, i, none⟩ v) ∧
    (∀ b, b ≠ r → (w2.setCell ⟨r, i, none⟩ v).heap[b]? = w2.heap[b]?) ∧ (∀ b, b < w1.heap.size → b ≠ r → (w2.setCell ⟨r, i, none⟩ v).heap[b]? = w1.heap[b]?) ∧ (w2.setCell ⟨r, i, none⟩ v).heap.size = w2.heap.size ∧ w1.heap.size ≤ w2.heap.size := by
  have lr := heap_lt hh1
  have hh2 : w2.heap[r]? = some (.cells cur 89 (0, 0)) := (b2.block r lr).trans hh1
  have k : ∀ b, b ≠ r → (w2.setCell ⟨r, i, none⟩ v).heap[b]? = w2.heap[b]? := fun b hb => Below.heap_setCell w2 ⟨r, i, none⟩ _ b hb
  refine ⟨⟨cur[i], ?_⟩, ?_, ?_, ?_, k, fun b hb hne => (k b hne).trans (b2.block b hb), size_setCell _ _ _, b2.size⟩
  · rw [cell_of_row w2 r i _ _ (0, 0) hh2]; exact Array.getElem?_eq_getElem hi
  · unfold World.frozen?; rw [hh2]; simp
  · rw [setCell_heap w2 r i _ _ _ _ hh2, hcur]
  · exact (hB1.trans (b2.mono hB1.size)).setCell (p := ⟨r, i, none⟩) (Nat.le_of_eq hr) _

end Go.Proofs.YtojckbhbnalkeaaGreat.Oct

/-
  A device that a crash leaves, on its way: the document's.
-/
namespace Go.Proofs.YtojckbhbnalkeaaGreat.Oct
open Go.RowKit

/-- A new device: k of its pages now are laid, i of those that last. -/
structure Cx (w0 w : World) (q g1 g2 c1 c2 n k : Nat) (s1 s2 : List Value) (gs cs : Nat → Nat) (f : Nat → List Int) : Prop where
  cells : w.heap[q]? = some (.cells #[.slice (some ⟨g1, 0, none⟩) n c1, .slice (some ⟨g2, 0, none⟩) n c2, .slice none 0 0, .slice none 0 0, .int .i64 (-1), .int .i64 0, .bool false] 58 (0, 0))
  o1 : w.ownsRow 0 38 1 (.slice (some ⟨g1, 0, none⟩) n c1) n s1
  o2 : w.ownsRow 0 38 1 (.slice (some ⟨g2, 0, none⟩) n c2) n s2
  pg : ∀ i, i < k → s2[i]? = some (.slice (some ⟨gs i, 0, none⟩) 256 (cs i)) ∧ Own 0 w (.slice (some ⟨gs i, 0, none⟩) 256 (cs i)) (f i) ∧ gs i ≠ q ∧ gs i ≠ g1 ∧ gs i ≠ g2 ∧ w0.heap.size ≤ gs i
  inj : ∀ i j, i < k → j < k → i ≠ j → gs i ≠ gs j
  n1 : g1 ≠ q
  n2 : g2 ≠ q
  n12 : g1 ≠ g2
  lq : w0.heap.size ≤ q
  l1 : w0.heap.size ≤ g1
  l2 : w0.heap.size ≤ g2
  bel : Below w0.heap.size w0 w

variable {w0 w : World} {q g1 g2 c1 c2 n k : Nat} {s1 s2 : List Value} {gs cs : Nat → Nat} {f : Nat → List Int}

theorem Cx.lt (h : Cx w0 w q g1 g2 c1 c2 n k s1 s2 gs cs f) : q < w.heap.size ∧ g1 < w.heap.size ∧ g2 < w.heap.size := ⟨heap_lt h.cells, (World.ownsRow.lt h.o1 g1 rfl).2, (World.ownsRow.lt h.o2 g2 rfl).2⟩

theorem Cx.below {w2 : World} (h : Cx w0 w q g1 g2 c1 c2 n k s1 s2 gs cs f) (hb : Below w.heap.size w w2) : Cx w0 w2 q g1 g2 c1 c2 n k s1 s2 gs cs f := by
  obtain ⟨lq, l1, l2⟩ := h.lt
  exact { h with
    cells := (hb.block q lq).trans h.cells
    o1 := owns_keep h.o1 (fun g hg => by simp [Value.ownBlock] at hg; subst hg; exact hb.block _ l1)
    o2 := owns_keep h.o2 (fun g hg => by simp [Value.ownBlock] at hg; subst hg; exact hb.block _ l2)
    pg := fun i hi => by
      obtain ⟨e1, e2, e3⟩ := h.pg i hi
      exact ⟨e1, e2.kept (hb.block _ e2.lt2.2), e3⟩
    bel := h.bel.trans (hb.mono h.bel.size) }

theorem Cx.at (h : Cx w0 w q g1 g2 c1 c2 n k s1 s2 gs cs f) : w.cell? ⟨q, 0, none⟩ = some (.slice (some ⟨g1, 0, none⟩) n c1) ∧ w.cell? ⟨q, 1, none⟩ = some (.slice (some ⟨g2, 0, none⟩) n c2) := by
  constructor
  · rw [cell_of_row w q _ _ _ (0, 0) h.cells]; rfl
  · rw [cell_of_row w q _ _ _ (0, 0) h.cells]; rfl

theorem Cx.start {w : World} {v1 v2 : Value} {f1 f2 : Nat → List Int} (h : Rf w0 w q n n v1 v2 s1 s2 f1 f2) (hn : 0 < n) : ∃ g1 g2 c1 c2, Cx w0 w q g1 g2 c1 c2 n 0 s1 s2 (fun _ => 0) (fun _ => 0) f := by
  obtain ⟨g1, c1, hv1, _, _⟩ := h.o1.form hn
  obtain ⟨g2, c2, hv2, _, _⟩ := h.o2.form hn
  subst hv1 hv2
  exact ⟨g1, g2, c1, c2, h.cells, h.o1, h.o2, fun i hi => by omega, fun i j hi => by omega, fun e => h.n1 (by simp [Value.ownBlock]; exact e), fun e => h.n2 (by simp [Value.ownBlock]; exact e), fun e => h.n12 g1 rfl (by rw [e]; rfl), h.lq, h.l1 g1 rfl, h.l2 g2 rfl, h.bel⟩

/-- One page more is laid. -/
theorem Cx.put {w5 : World} {ga ca : Nat} (h : Cx w0 w q g1 g2 c1 c2 n k s1 s2 gs cs f) (hk : k < n) (hb : Below w.heap.size w w5) (ho : Own w.heap.size w5 (.slice (some ⟨ga, 0, none⟩) 256 ca) (f k)) :
    Cx w0 (w5.setCell ⟨g2, k, none⟩ (.slice (some ⟨ga, 0, none⟩) 256 ca)) q g1 g2 c1 c2 n (k + 1) s1 (s2.set k (.slice (some ⟨ga, 0, none⟩) 256 ca)) (fun i => if i = k then ga else gs i) (fun i => if i = k then ca else cs i) f := by
  obtain ⟨lq, l1, l2⟩ := h.lt
  have h5 := h.below hb
  have hl := ho.lt2
  have hst := World.ownsRow.stored h5.o2 k (.slice (some ⟨ga, 0, none⟩) 256 ca)
  have k3 : ∀ b, b ≠ g2 → (w5.setCell ⟨g2, k, none⟩ (.slice (some ⟨ga, 0, none⟩) 256 ca)).heap[b]? = w5.heap[b]? := fun b hb => Below.heap_setCell w5 ⟨g2, k, none⟩ _ b hb
  have hs := h.bel.size
  have hlen : s2.length = n := by have := h.o2.1; omega
  have old : ∀ i, i < k → gs i < w.heap.size := fun i hi => (h.pg i hi).2.1.lt2.2
  exact
  { cells := (k3 q (Ne.symm h.n2)).trans h5.cells
    o1 := owns_keep h5.o1 (fun g hg => by simp [Value.ownBlock] at hg; subst hg; exact k3 _ h.n12)
    o2 := hst.1
    pg := fun i hi => by
      by_cases e : i = k
      · subst e
        simp only [if_true]
        exact ⟨by rw [List.getElem?_set_self (by omega)], ho.zero.kept (k3 ga (by omega)), by omega, by omega, by omega, by omega⟩
      · simp only [e, if_false]
        obtain ⟨e1, e2, e3, e4, e5, e6⟩ := h5.pg i (by omega)
        exact ⟨by rw [List.getElem?_set_ne (by omega)]; exact e1, e2.kept (k3 _ e5), e3, e4, e5, e6⟩
    inj := fun i j hi hj hne => by
      by_cases ei : i = k
      · by_cases ej : j = k
        · omega
        · simp only [ei, ej, if_true, if_false]
          have := old j (by omega); omega
      · by_cases ej : j = k
        · simp only [ei, ej, if_true, if_false]
          have := old i (by omega); omega
        · simp only [ei, ej, if_false]
          exact h.inj i j (by omega) (by omega) hne
    n1 := h.n1
    n2 := h.n2
    n12 := h.n12
    lq := h.lq
    l1 := h.l1
    l2 := h.l2
    bel := h5.bel.setCell (p := ⟨g2, k, none⟩) h.l2 _ }

/-- A byte of a page is laid. -/
theorem Cx.poke {pg m : Nat} {y : Int} (h : Cx w0 w q g1 g2 c1 c2 n k s1 s2 gs cs f) (hp : pg < k) (hm : m < (f pg).length) :
    Cx w0 (w.setCell ⟨gs pg, m, none⟩ (.int .u8 y)) q g1 g2 c1 c2 n k s1 s2 gs cs (fun i => if i = pg then (f pg).set m y else f i) := by
  obtain ⟨e1, e2, e3, e4, e5, e6⟩ := h.pg pg hp
  have k3 : ∀ b, b ≠ gs pg → (w.setCell ⟨gs pg, m, none⟩ (.int .u8 y)).heap[b]? = w.heap[b]? := fun b hb => Below.heap_setCell w ⟨gs pg, m, none⟩ _ b hb
  obtain ⟨-, _, _, hst⟩ := own_at' e2 m hm
  exact { h with
    cells := (k3 q (Ne.symm e3)).trans h.cells
    o1 := owns_keep h.o1 (fun g hg => by simp [Value.ownBlock] at hg; subst hg; exact k3 _ (Ne.symm e4))
    o2 := owns_keep h.o2 (fun g hg => by simp [Value.ownBlock] at hg; subst hg; exact k3 _ (Ne.symm e5))
    pg := fun i hi => by
      by_cases e : i = pg
      · subst e
        simp only [if_true]
        exact ⟨e1, hst y, e3, e4, e5, e6⟩
      · simp only [e, if_false]
        obtain ⟨a1, a2, a3⟩ := h.pg i hi
        exact ⟨a1, a2.kept (k3 _ (h.inj i pg hi hp e)), a3⟩
    bel := h.bel.setCell (p := ⟨gs pg, m, none⟩) e6 _ }

/-- Pages that last are laid up to j. -/
def Ls (w0 w : World) (q g1 g2 : Nat) (s1 : List Value) (j : Nat) (f : Nat → List Int) : Prop :=
  ∀ i, i < j → ∃ h d, s1[i]? = some (.slice (some ⟨h, 0, none⟩) 256 d) ∧ Own 0 w (.slice (some ⟨h, 0, none⟩) 256 d) (f i) ∧ h ≠ q ∧ h ≠ g1 ∧ h ≠ g2 ∧ w0.heap.size ≤ h

theorem Cx.last {w5 : World} {ga ca j : Nat} (h : Cx w0 w q g1 g2 c1 c2 n n s1 s2 gs cs f) (hs : Ls w0 w q g1 g2 s1 j f) (hj : j < n) (hb : Below w.heap.size w w5) (ho : Own w.heap.size w5 (.slice (some ⟨ga, 0, none⟩) 256 ca) (f j)) :
    Cx w0 (w5.setCell ⟨g1, j, none⟩ (.slice (some ⟨ga, 0, none⟩) 256 ca)) q g1 g2 c1 c2 n n (s1.set j (.slice (some ⟨ga, 0, none⟩) 256 ca)) s2 gs cs f ∧ Ls w0 (w5.setCell ⟨g1, j, none⟩ (.slice (some ⟨ga, 0, none⟩) 256 ca)) q g1 g2 (s1.set j (.slice (some ⟨ga, 0, none⟩) 256 ca)) (j + 1) f := by
  obtain ⟨lq, l1, l2⟩ := h.lt
  have h5 := h.below hb
  have hl := ho.lt2
  have hst := World.ownsRow.stored h5.o1 j (.slice (some ⟨ga, 0, none⟩) 256 ca)
  have k3 : ∀ b, b ≠ g1 → (w5.setCell ⟨g1, j, none⟩ (.slice (some ⟨ga, 0, none⟩) 256 ca)).heap[b]? = w5.heap[b]? := fun b hb => Below.heap_setCell w5 ⟨g1, j, none⟩ _ b hb
  have hsz := h.bel.size
  have hlen : s1.length = n := by have := h.o1.1; omega
  refine ⟨{ h5 with
    cells := (k3 q (Ne.symm h.n1)).trans h5.cells
    o1 := hst.1
    o2 := owns_keep h5.o2 (fun g hg => by simp [Value.ownBlock] at hg; subst hg; exact k3 _ (Ne.symm h.n12))
    pg := fun i hi => by
      obtain ⟨e1, e2, e3, e4, e5, e6⟩ := h5.pg i hi
      exact ⟨e1, e2.kept (k3 _ e4), e3, e4, e5, e6⟩
    bel := h5.bel.setCell (p := ⟨g1, j, none⟩) h.l1 _ }, fun i hi => ?_⟩
  by_cases e : i = j
  · subst e
    exact ⟨ga, ca, by rw [List.getElem?_set_self (by omega)], ho.zero.kept (k3 ga (by omega)), by omega, by omega, by omega, by omega⟩
  · obtain ⟨x, d, e1, e2, e3, e4, e5, e6⟩ := hs i (by omega)
    have hx := e2.lt2.2
    exact ⟨x, d, by rw [List.getElem?_set_ne (by omega)]; exact e1, (e2.kept (hb.block x hx)).kept (k3 x e4), e3, e4, e5, e6⟩

theorem Cx.dev {L : List Int} (h : Cx w0 w q g1 g2 c1 c2 n n s1 s2 gs cs (pageOf L)) (hs : Ls w0 w q g1 g2 s1 n (pageOf L)) (hL : L.length = n * 256) (h8 : 8 ≤ n) (h4 : n ≤ 4096) (hb : Bys L) : ∃ F, RD w q F (newD L) ∧ ∀ k, F k → w0.heap.size ≤ k := by
  obtain ⟨lq, l1, l2⟩ := h.lt
  refine RD.ofRf (w := w0) (v1 := .slice (some ⟨g1, 0, none⟩) n c1) (v2 := .slice (some ⟨g2, 0, none⟩) n c2) (s1 := s1) (s2 := s2) ?_ hL h8 h4 hb
  have nb : ∀ {g a c : Nat}, (Value.slice (some ⟨a, 0, none⟩) n c).ownBlock = some g → a = g := fun e => by simpa [Value.ownBlock] using e
  exact
  { cells := h.cells
    o1 := h.o1
    o2 := h.o2
    p1 := fun i hi => by
      obtain ⟨x, d, e1, e2, e3, e4, e5, e6⟩ := hs i hi
      exact ⟨x, d, e1, e2, (by rintro (e | e | e); exact e3 e; exact e4 (nb e).symm; exact e5 (nb e).symm), e6⟩
    p2 := fun i hi => by
      obtain ⟨e1, e2, e3, e4, e5, e6⟩ := h.pg i hi
      exact ⟨_, _, e1, e2, (by rintro (e | e | e); exact e3 e; exact e4 (nb e).symm; exact e5 (nb e).symm), e6⟩
    n1 := fun e => h.n1 (nb e)
    n2 := fun e => h.n2 (nb e)
    n12 := fun g e1 e2 => h.n12 ((nb e1).trans (nb e2).symm)
    lq := h.lq
    l1 := fun g e => (nb e) ▸ h.l1
    l2 := fun g e => (nb e) ▸ h.l2
    bel := h.bel }

/-- The first m bytes of a page are written where the choice says so. -/
def pgI (a b : List Int) (c : Int) (m : Nat) : List Int := (List.range 256).map fun j => if j < m ∧ bitAt c (j / 64) = true then b.getD j 0 else a.getD j 0
theorem pgI_len (a b : List Int) (c : Int) (m : Nat) : (pgI a b c m).length = 256 := by simp [pgI]
theorem pgI_at (a b : List Int) (c : Int) (m j : Nat) (hj : j < 256) : (pgI a b c m).getD j 0 = if j < m ∧ bitAt c (j / 64) = true then b.getD j 0 else a.getD j 0 := by
  unfold pgI
  rw [List.getD_eq_getElem?_getD, List.getElem?_map, List.getElem?_range hj]
  rfl
theorem pgI_zero {a : List Int} (b : List Int) (c : Int) (ha : a.length = 256) : pgI a b c 0 = a := by
  refine eq_of_getD (by rw [pgI_len, ha]) fun j hj => ?_
  rw [pgI_len] at hj
  rw [pgI_at _ _ _ _ _ hj, if_neg (by omega)]
theorem pgI_skip (a b : List Int) (c : Int) (m : Nat) (h : bitAt c (m / 64) = false) : pgI a b c (m + 1) = pgI a b c m := by
  refine eq_of_getD (by rw [pgI_len, pgI_len]) fun j hj => ?_
  rw [pgI_len] at hj
  rw [pgI_at _ _ _ _ _ hj, pgI_at _ _ _ _ _ hj]
  by_cases e : j = m
  · subst e; rw [if_neg (by rw [h]; simp), if_neg (by omega)]
  · have : (j < m + 1) = (j < m) := propext (by omega)
    simp only [this]
theorem pgI_set (a b : List Int) (c : Int) (m : Nat) (hm : m < 256) (h : bitAt c (m / 64) = true) : (pgI a b c m).set m (b.getD m 0) = pgI a b c (m + 1) := by
  refine eq_of_getD (by rw [List.length_set, pgI_len, pgI_len]) fun j hj => ?_
  rw [List.length_set, pgI_len] at hj
  rw [pgI_at _ _ _ _ _ hj, List.getD_eq_getElem?_getD]
  by_cases e : j = m
  · subst e
    rw [List.getElem?_set_self (by rw [pgI_len]; exact hj), if_pos ⟨by omega, h⟩]
    rfl
  · rw [List.getElem?_set_ne (by omega), ← List.getD_eq_getElem?_getD, pgI_at _ _ _ _ _ hj]
    have : (j < m + 1) = (j < m) := propext (by omega)
    simp only [this]
theorem pgI_all {L b : List Int} {pg : Nat} (c : Int) (hL : pg * 256 + 256 ≤ L.length) : pgI (pageOf L pg) b c 256 = pageOf (onto L pg b c) pg := by
  refine eq_of_getD (by rw [pgI_len, pageOf_len (by rw [onto_len]; exact hL)]) fun j hj => ?_
  rw [pgI_len] at hj
  rw [pgI_at _ _ _ _ _ hj, pageOf_at _ _ _ hj, pageOf_at _ _ _ hj, onto_at _ _ _ _ _ (by omega), show (pg * 256 + j) % 256 = j by omega, show (pg * 256 + j) / 256 = pg by omega]
  simp only [hj, true_and]
end Go.Proofs.YtojckbhbnalkeaaGreat.Oct

/-
  The document's Crash.
-/
namespace Go.Proofs.YtojckbhbnalkeaaGreat.Oct
open Go.RowKit

theorem Cx.congr {w0 w : World} {q g1 g2 c1 c2 n k : Nat} {s1 s2 : List Value} {gs cs : Nat → Nat} {f f' : Nat → List Int} (h : Cx w0 w q g1 g2 c1 c2 n k s1 s2 gs cs f) (e : ∀ i, i < k → f i = f' i) : Cx w0 w q g1 g2 c1 c2 n k s1 s2 gs cs f' :=
  { h with pg := fun i hi => by rw [← e i hi]; exact h.pg i hi }

/-- What a walk over 'x.Now[i] = Copy(d.Sure[i])' wants. -/
theorem c1_prep {w wr : World} {q g1 g2 c1 c2 n k p gd e1 : Nat} {s1 s2 : List Value} {gs cs : Nat → Nat} {f : Nat → List Int} {gp cp : Nat} (h : Cx w wr q g1 g2 c1 c2 n k s1 s2 gs cs f) (hk : k < n) (lp : p < w.heap.size) (lg : gd < w.heap.size)
    (x0 : w.cell? ⟨p, 0, none⟩ = some (.slice (some ⟨gd, 0, none⟩) n e1)) (x1 : w.cell? ⟨gd, k, none⟩ = some (.slice (some ⟨gp, 0, none⟩) 256 cp)) :
    wr.cell? ⟨q, 1, none⟩ = some (.slice (some ⟨g2, 0, none⟩) n c2) ∧ wr.cell? ⟨p, 0, none⟩ = some (.slice (some ⟨gd, 0, none⟩) n e1) ∧ wr.cell? ⟨gd, k, none⟩ = some (.slice (some ⟨gp, 0, none⟩) 256 cp) ∧
    ∀ (w5 : World) (ga ca : Nat), Own wr.heap.size w5 (.slice (some ⟨ga, 0, none⟩) 256 ca) (f k) → Below wr.heap.size wr w5 →
      w5.cell? ⟨q, 1, none⟩ = some (.slice (some ⟨g2, 0, none⟩) n c2) ∧ w5.cell? ⟨p, 0, none⟩ = some (.slice (some ⟨gd, 0, none⟩) n e1) ∧ w5.cell? ⟨gd, k, none⟩ = some (.slice (some ⟨gp, 0, none⟩) 256 cp) ∧ (∃ u, w5.cell? ⟨g2, k, none⟩ = some u) ∧ w5.frozen? ⟨g2, k, none⟩ = false ∧
      (w5.setCell ⟨g2, k, none⟩ (.slice (some ⟨ga, 0, none⟩) 256 ca)).cell? ⟨q, 1, none⟩ = some (.slice (some ⟨g2, 0, none⟩) n c2) ∧ (w5.setCell ⟨g2, k, none⟩ (.slice (some ⟨ga, 0, none⟩) 256 ca)).cell? ⟨p, 0, none⟩ = some (.slice (some ⟨gd, 0, none⟩) n e1) ∧ (w5.setCell ⟨g2, k, none⟩ (.slice (some ⟨ga, 0, none⟩) 256 ca)).cell? ⟨gd, k, none⟩ = some (.slice (some ⟨gp, 0, none⟩) 256 cp) ∧
      ∃ s2' gs' cs', Cx w (w5.setCell ⟨g2, k, none⟩ (.slice (some ⟨ga, 0, none⟩) 256 ca)) q g1 g2 c1 c2 n (k + 1) s1 s2' gs' cs' f := by
  have l2 := h.l2
  refine ⟨h.at.2, (h.bel.cell (p := ⟨p, 0, none⟩) lp).trans x0, (h.bel.cell (p := ⟨gd, k, none⟩) lg).trans x1, fun w5 ga ca ho hb => ?_⟩
  have h5 := h.below hb
  have hx := h.put hk hb ho
  have y0 := (h5.bel.cell (p := ⟨p, 0, none⟩) lp).trans x0
  have y1 := (h5.bel.cell (p := ⟨gd, k, none⟩) lg).trans x1
  have hlen : s2.length = n := by have := h.o2.1; omega
  refine ⟨h5.at.2, y0, y1, ⟨s2[k]'(by omega), ?_⟩, World.ownsRow.frozenAt h5.o2 k, hx.at.2, ?_, ?_, _, _, _, hx⟩
  · rw [World.ownsRow.cellAt h5.o2 k (by omega)]; exact List.getElem?_eq_getElem (by omega)
  · exact (World.cell?_setCell_other _ _ _ _ (by intro e; injection e with e1; omega)).trans y0
  · exact (World.cell?_setCell_other _ _ _ _ (by intro e; injection e with e1; omega)).trans y1

/-- What a walk over 'x.Sure[i] = Copy(x.Now[i])' wants. -/
theorem c3_prep {w wr : World} {q g1 g2 c1 c2 n j : Nat} {s1 s2 : List Value} {gs cs : Nat → Nat} {f : Nat → List Int} (h : Cx w wr q g1 g2 c1 c2 n n s1 s2 gs cs f) (hs : Ls w wr q g1 g2 s1 j f) (hj : j < n) (hb : Bys (f j)) (hl : (f j).length = 256) :
    wr.cell? ⟨q, 0, none⟩ = some (.slice (some ⟨g1, 0, none⟩) n c1) ∧ wr.cell? ⟨q, 1, none⟩ = some (.slice (some ⟨g2, 0, none⟩) n c2) ∧ ∃ gp cp, wr.cell? ⟨g2, j, none⟩ = some (.slice (some ⟨gp, 0, none⟩) 256 cp) ∧ Row wr (some ⟨gp, 0, none⟩) cp (f j) ∧
    ∀ (w5 : World) (ga ca : Nat), Own wr.heap.size w5 (.slice (some ⟨ga, 0, none⟩) 256 ca) (f j) → Below wr.heap.size wr w5 →
      w5.cell? ⟨q, 0, none⟩ = some (.slice (some ⟨g1, 0, none⟩) n c1) ∧ w5.cell? ⟨q, 1, none⟩ = some (.slice (some ⟨g2, 0, none⟩) n c2) ∧ w5.cell? ⟨g2, j, none⟩ = some (.slice (some ⟨gp, 0, none⟩) 256 cp) ∧ (∃ u, w5.cell? ⟨g1, j, none⟩ = some u) ∧ w5.frozen? ⟨g1, j, none⟩ = false ∧
      (w5.setCell ⟨g1, j, none⟩ (.slice (some ⟨ga, 0, none⟩) 256 ca)).cell? ⟨q, 0, none⟩ = some (.slice (some ⟨g1, 0, none⟩) n c1) ∧ (w5.setCell ⟨g1, j, none⟩ (.slice (some ⟨ga, 0, none⟩) 256 ca)).cell? ⟨q, 1, none⟩ = some (.slice (some ⟨g2, 0, none⟩) n c2) ∧ (w5.setCell ⟨g1, j, none⟩ (.slice (some ⟨ga, 0, none⟩) 256 ca)).cell? ⟨g2, j, none⟩ = some (.slice (some ⟨gp, 0, none⟩) 256 cp) ∧
      ∃ s1', Cx w (w5.setCell ⟨g1, j, none⟩ (.slice (some ⟨ga, 0, none⟩) 256 ca)) q g1 g2 c1 c2 n n s1' s2 gs cs f ∧ Ls w (w5.setCell ⟨g1, j, none⟩ (.slice (some ⟨ga, 0, none⟩) 256 ca)) q g1 g2 s1' (j + 1) f := by
  obtain ⟨e1, e2, _⟩ := h.pg j hj
  have hc := (World.ownsRow.cellAt h.o2 j (by omega)).trans e1
  have hlen : s1.length = n := by have := h.o1.1; omega
  refine ⟨h.at.1, h.at.2, gs j, cs j, hc, (e2.row' hb).2, fun w5 ga ca ho hbe => ?_⟩
  have _ := hl
  have h5 := h.below hbe
  obtain ⟨hx, hy⟩ := h.last hs hj hbe ho
  have hc5 := (World.ownsRow.cellAt h5.o2 j (by omega)).trans (h5.pg j hj).1
  refine ⟨h5.at.1, h5.at.2, hc5, ⟨s1[j]'(by omega), ?_⟩, World.ownsRow.frozenAt h5.o1 j, hx.at.1, hx.at.2, ?_, _, hx, hy⟩
  · rw [World.ownsRow.cellAt h5.o1 j (by omega)]; exact List.getElem?_eq_getElem (by omega)
  · exact (World.cell?_setCell_other _ _ _ _ (by intro e; injection e with e1; exact h.n12 e1)).trans hc5

end Go.Proofs.YtojckbhbnalkeaaGreat.Oct

/-
  The document's outcomes: what 'm.Out = append(m.Out, b...)' leaves.
-/
namespace Go.Proofs.YtojckbhbnalkeaaGreat.Oct
open Go.RowKit

theorem RD.outed {w : World} {q : Nat} {F : Nat → Prop} {D : Dv} (h : RD w q F D) (l : List Int) (ok : (outD D l).ok) :
    ∃ b0 n0 k0, w.cell? ⟨q, 3, none⟩ = some (.slice b0 n0 k0) ∧ w.frozen? ⟨q, 3, none⟩ = false ∧ OutAt w (.slice b0 n0 k0) D.out ∧ (Value.slice b0 n0 k0).ownBlock ≠ some q ∧ q < w.heap.size ∧ (∀ k, (Value.slice b0 n0 k0).ownBlock = some k → F k) ∧
      ∀ (w2 : World) (v : Value), OutAt w2 v (D.out ++ l) → w.grownBy w2 (Value.slice b0 n0 k0).ownBlock → (∀ k, v.ownBlock = some k → (Value.slice b0 n0 k0).ownBlock = some k ∨ w.heap.size ≤ k) →
        ∃ F', RD (w2.setCell ⟨q, 3, none⟩ v) q F' (outD D l) ∧ Step F F' w (w2.setCell ⟨q, 3, none⟩ v) := by
  obtain ⟨_, hF, P, v1, v2, vS, vO, s1, s2, sS, hc, hfo⟩ := h
  obtain ⟨_, _, _, c3, _, _, _, z⟩ := hc.at
  obtain ⟨b0, n0, k0, hv0⟩ := hc.oO.slice
  subst hv0
  have hq : q < w.heap.size := hF q (hfo q (.inl rfl))
  have hqO : (Value.slice b0 n0 k0).ownBlock ≠ some q := fun e => (hc.dO q e).2 rfl
  refine ⟨b0, n0, k0, c3, z 3, hc.oO, hqO, hq, fun k hk => hfo k (.inr (.inr (.inr (.inr (.inr hk))))), fun w2 v ho hgrow hat => ?_⟩
  have s2' := hgrow.size
  have lt : ∀ k, footR q P v1 v2 vS (.slice b0 n0 k0) k → k < w.heap.size := fun k hk => hF k (hfo k hk)
  have k2 : ∀ k, k < w.heap.size → (Value.slice b0 n0 k0).ownBlock ≠ some k → w2.heap[k]? = w.heap[k]? := fun k hk hne => hgrow.block k hk (fun e => hne e.symm)
  have k3 : ∀ k, k ≠ q → (w2.setCell ⟨q, 3, none⟩ v).heap[k]? = w2.heap[k]? := fun k hk => Below.heap_setCell w2 ⟨q, 3, none⟩ _ k hk
  have nv : ∀ k, k < w.heap.size → (Value.slice b0 n0 k0).ownBlock ≠ some k → v.ownBlock ≠ some k := fun k hk hne e => by
    rcases hat k e with e2 | e2
    · exact hne e2
    · omega
  have hcells : w2.heap[q]? = w.heap[q]? := k2 q hq hqO
  have l1 : ∀ g, v1.ownBlock = some g → g < w.heap.size := fun g hg => lt g (.inr (.inr (.inl hg)))
  have l2 : ∀ g, v2.ownBlock = some g → g < w.heap.size := fun g hg => lt g (.inr (.inr (.inr (.inl hg))))
  have lS : ∀ g, vS.ownBlock = some g → g < w.heap.size := fun g hg => lt g (.inr (.inr (.inr (.inr (.inl hg)))))
  have lP : ∀ g, P g → g < w.heap.size := fun g hg => lt g (.inr (.inl hg))
  have nP : ∀ g, P g → (Value.slice b0 n0 k0).ownBlock ≠ some g := fun g hg e => (hc.dO g e).1 hg
  have kP : ∀ g, P g → (w2.setCell ⟨q, 3, none⟩ v).heap[g]? = w.heap[g]? := fun g hg => (k3 g (fun e => hc.dq (e ▸ hg))).trans (k2 g (lP g hg) (nP g hg))
  have kk : ∀ g, g < w.heap.size → g ≠ q → (Value.slice b0 n0 k0).ownBlock ≠ some g → (w2.setCell ⟨q, 3, none⟩ v).heap[g]? = w.heap[g]? := fun g h1 h2 h3 => (k3 g h2).trans (k2 g h1 h3)
  refine ⟨fun k => F k ∨ w.heap.size ≤ k ∧ k < w2.heap.size, ⟨ok, fun k hk => ?_, P, v1, v2, vS, v, s1, s2, sS, ?_, fun k hk => ?_⟩, ?_, ?_⟩
  · rw [size_setCell]
    rcases hk with hk | hk
    · have := hF k hk; omega
    · exact hk.2
  · exact
    { cells := by rw [setCell_heap w2 q 3 v _ _ _ (hcells.trans hc.cells)]; rfl
      o1 := owns_keep hc.o1 (fun g hg => kk g (l1 g hg) (hc.d1 g hg).2.1 (hc.d1 g hg).2.2.2.2)
      o2 := owns_keep hc.o2 (fun g hg => kk g (l2 g hg) (hc.d2 g hg).2.1 (hc.d2 g hg).2.2.2)
      oS := owns_keep hc.oS (fun g hg => kk g (lS g hg) (hc.dS g hg).2.1 (hc.dS g hg).2.2)
      oO := ho.keep (fun k hk => k3 k (fun e => nv q hq hqO (e ▸ hk)))
      p1 := hc.p1.keep kP
      p2 := hc.p2.keep kP
      pS := hc.pS.keep kP
      f2 := hc.f2
      dq := hc.dq
      d1 := fun g hg => ⟨(hc.d1 g hg).1, (hc.d1 g hg).2.1, (hc.d1 g hg).2.2.1, (hc.d1 g hg).2.2.2.1, nv g (l1 g hg) (hc.d1 g hg).2.2.2.2⟩
      d2 := fun g hg => ⟨(hc.d2 g hg).1, (hc.d2 g hg).2.1, (hc.d2 g hg).2.2.1, nv g (l2 g hg) (hc.d2 g hg).2.2.2⟩
      dS := fun g hg => ⟨(hc.dS g hg).1, (hc.dS g hg).2.1, nv g (lS g hg) (hc.dS g hg).2.2⟩
      dO := fun g hg => by
        rcases hat g hg with e | e
        · exact hc.dO g e
        · exact ⟨fun hp => by have := lP g hp; omega, fun hp => by omega⟩ }
  · rcases hk with hk | hk | hk | hk | hk | hk
    · exact .inl (hfo k (.inl hk))
    · exact .inl (hfo k (.inr (.inl hk)))
    · exact .inl (hfo k (.inr (.inr (.inl hk))))
    · exact .inl (hfo k (.inr (.inr (.inr (.inl hk)))))
    · exact .inl (hfo k (.inr (.inr (.inr (.inr (.inl hk))))))
    · rcases hat k hk with e | e
      · exact .inl (hfo k (.inr (.inr (.inr (.inr (.inr e))))))
      · exact .inr ⟨e, ho.lt k hk⟩
  · exact ((Ch.refl _ F w).grown hgrow (Nat.le_refl _) (fun k hk => .inr (hfo k (.inr (.inr (.inr (.inr (.inr hk)))))))).setCell (p := ⟨q, 3, none⟩) (.inr (hfo q (.inl rfl))) _
  · intro k hk
    rcases hk with hk | hk
    · exact .inl hk
    · exact .inr hk.1

theorem step_append_out {w : World} {ops : Array Oper} {o : Oper} {a : Act} {K : Act → World → Prop} {Q : Exit → Act → World → Prop} {E : Prop} (hgd : o.guard = none) (s x : Operand)
    (ho : o.op = .call { callee := .builtin .append, args := #[s, x], argTypes := #[38, 38] })
    (v : Value) (zs ls : List Int) (hs : a.eval s = v) (hO : OutAt w v zs) (sa : Option Addr) (c : Nat) (hx : a.eval x = .slice sa ls.length c) (hl : Row w sa c ls) (hnil : sa = none → c = 0) (hsz : zs.length + ls.length ≤ 1000000)
    (h : ∀ b n k w', OutAt w' (.slice b n k) (zs ++ ls) → w.grownBy w' v.ownBlock → (∀ k', (Value.slice b n k).ownBlock = some k' → v.ownBlock = some k' ∨ w.heap.size ≤ k') → K (a.put o.dst (.slice b n k)) w') :
    if Region.wanted o (yielded ops a.tmps) = true then Oper.wp Tryz.prog o a w K Q else E := by
  have hw : Region.wanted o (yielded ops a.tmps) = true := by simp [Region.wanted, hgd]
  rw [if_pos hw]
  obtain ⟨v', w', hr, h1, h2, h3⟩ := append_out w v zs ls hO sa c hl hnil hsz o.type
  obtain ⟨b, n, k, rfl⟩ := h1.slice
  unfold Oper.wp
  simp [execOp, ho, resolve, invoke, builtin, hs, hx, hr, Result.andThen]
  exact h b n k w' h1 h2 h3

theorem row_ch0 {w w' : World} {a : Option Addr} {cap : Nat} {zs : List Int} (h : Row w a cap zs) {F : Nat → Prop} (k : Ch w.heap.size F w w') (hF : ∀ x, a = some x → 0 < zs.length → ¬ F x.block) : Row w' a cap zs := by
  by_cases h0 : 0 < zs.length
  · exact h.ch k (fun x hx => hF x hx h0)
  · have e : zs = [] := List.eq_nil_of_length_eq_zero (by omega)
    exact ⟨h.1, h.2.1, h.2.2.1, .inl e⟩
end Go.Proofs.YtojckbhbnalkeaaGreat.Oct
