/-
  The document's pool with one more frame behind, of four values.
-/
import Derived.Test.YtojckbhbnalkeaaGreatJl
namespace Go.Proofs.YtojckbhbnalkeaaGreat.Oct
open Go.RowKit

/-- The pool's frames K, and one more: ys. -/
structure RPX (w : World) (p q : Nat) (Fd : Nat → Prop) (vL : Value) (K : List RF) (ys : List Value) (D : Dv) (N : Nat) : Prop where
  cells : w.heap[p]? = some (.cells #[.pointer (some ⟨q, 0, none⟩), .int .i64 N, vL] 75 (0, 0))
  dev : RD w q Fd D
  yl : ys.length = 4
  row : w.ownsRow 0 81 4 vL (K.length + 1) (kcells K ++ ys)
  fr : ∀ x ∈ K, Own 0 w x.bv x.f.b ∧ x.f.b.length = 256
  fx : ∀ x ∈ K, x.g ≠ p ∧ ¬ Fd x.g ∧ vL.ownBlock ≠ some x.g
  dp : ¬ Fd p
  dL : ∀ g, vL.ownBlock = some g → ¬ Fd g ∧ g ≠ p

section
variable {w w' : World} {p q : Nat} {Fd F : Nat → Prop} {vL : Value} {K : List RF} {ys : List Value} {D : Dv} {N : Nat}

theorem RPX.lt (h : RPX w p q Fd vL K ys D N) : ∀ k, footQ p Fd vL K k → k < w.heap.size := fun k hk => by
  rcases hk with rfl | hk | hk | ⟨x, hx, rfl⟩
  · exact (Array.getElem?_eq_some_iff.1 h.cells).1
  · exact h.dev.2.1 k hk
  · exact (World.ownsRow.lt h.row k hk).2
  · exact (h.fr x hx).1.lt2.2

theorem RPX.keep (h : RPX w p q Fd vL K ys D N) (hs : w.heap.size ≤ w'.heap.size) (k : ∀ g, footQ p Fd vL K g → w'.heap[g]? = w.heap[g]?) : RPX w' p q Fd vL K ys D N :=
  { h with
    cells := (k p (.inl rfl)).trans h.cells
    dev := h.dev.keep hs (fun g hg => k g (.inr (.inl hg)))
    row := owns_keep h.row (fun g hg => k g (.inr (.inr (.inl hg))))
    fr := fun x hx => ⟨(h.fr x hx).1.kept (k x.g (.inr (.inr (.inr ⟨x, hx, rfl⟩)))), (h.fr x hx).2⟩ }

theorem RPX.opened (h : RPX w p q Fd vL K ys D N) : ∃ g cap, vL = .slice (some ⟨g, 0, none⟩) (K.length + 1) cap ∧ K.length + 1 ≤ cap ∧ cap ≤ maxLen ∧ g < w.heap.size ∧ w.cell? ⟨p, 2, none⟩ = some (.slice (some ⟨g, 0, none⟩) (K.length + 1) cap) ∧ (∀ i, w.frozen? ⟨g, i, none⟩ = false) ∧ ∀ j, j < 4 → w.cell? ⟨g, K.length * 4 + j, none⟩ = ys[j]? := by
  rcases h.row.2 with ⟨h1, h2⟩ | ⟨g, cap, cur, h1, h2, h3, h4, h5, h6, h7⟩
  · omega
  · refine ⟨g, cap, h1, h4, h5, (Array.getElem?_eq_some_iff.1 h3).1, ?_, fun i => ?_, fun j hj => ?_⟩
    · rw [cell_of_row w p _ _ _ (0, 0) h.cells, ← h1]; rfl
    · unfold World.frozen?
      rw [h3]
      simp
    · have hyl := h.yl
      have hkl := kcells_len K
      have : cur.toList[K.length * 4 + j]? = (kcells K ++ ys)[K.length * 4 + j]? := by rw [← h7, List.getElem?_take, if_pos (by omega)]
      rw [cell_of_row w g _ _ _ (0, 0) h3, ← Array.getElem?_toList, this, List.getElem?_append_right (by omega), show K.length * 4 + j - (kcells K).length = j by omega]

theorem RPX.set {g cap : Nat} (h : RPX w p q Fd (.slice (some ⟨g, 0, none⟩) (K.length + 1) cap) K ys D N) {j : Nat} (hj : j < 4) (v : Value) : RPX (w.setCell ⟨g, K.length * 4 + j, none⟩ v) p q Fd (.slice (some ⟨g, 0, none⟩) (K.length + 1) cap) K (ys.set j v) D N := by
  have hdl := h.dL g rfl
  have kk : ∀ k, k ≠ g → (w.setCell ⟨g, K.length * 4 + j, none⟩ v).heap[k]? = w.heap[k]? := fun k hk => Below.heap_setCell w ⟨g, K.length * 4 + j, none⟩ v k hk
  refine ⟨(kk p (fun e => hdl.2 e.symm)).trans h.cells, h.dev.keep (by rw [size_setCell]; exact Nat.le_refl _) (fun k hk => kk k (fun e => hdl.1 (e ▸ hk))), by rw [List.length_set]; exact h.yl, ?_, fun x hx => ⟨(h.fr x hx).1.kept (kk x.g (fun e => (h.fx x hx).2.2 (by rw [e]; rfl))), (h.fr x hx).2⟩, h.fx, h.dp, h.dL⟩
  rcases h.row.2 with ⟨h1, h2⟩ | ⟨g', cap', cur, h1, h2, h3, h4, h5, h6, h7⟩
  · omega
  · simp only [Value.slice.injEq, Option.some.injEq, Addr.mk.injEq, and_true, true_and] at h1
    obtain ⟨rfl, rfl⟩ := h1
    have hkl := kcells_len K
    refine ⟨by rw [List.length_append, List.length_set, h.yl, hkl]; omega, .inr ⟨g, cap, _, rfl, h2, setCell_heap w g _ v cur _ _ h3, h4, h5, by simpa using h6, ?_⟩⟩
    rw [Array.toList_setIfInBounds, List.take_set, h7, List.set_append_right _ _ (by omega), show K.length * 4 + j - (kcells K).length = j by omega]

theorem RPX.done (h : RPX w p q Fd vL K ys D N) (x : RF) (hy : ys = fcells x) (hx : Own 0 w x.bv x.f.b ∧ x.f.b.length = 256) (hfx : x.g ≠ p ∧ ¬ Fd x.g ∧ vL.ownBlock ≠ some x.g) : RPC w p q Fd vL (K ++ [x]) D N := by
  refine ⟨h.cells, h.dev, ?_, fun y hy' => ?_, fun y hy' => ?_, h.dp, h.dL⟩
  · have := h.row
    rw [hy] at this
    rw [List.length_append, kcells_append]
    simpa [kcells] using this
  · rcases List.mem_append.1 hy' with hy' | hy'
    · exact h.fr y hy'
    · simp only [List.mem_singleton] at hy'; rw [hy']; exact hx
  · rcases List.mem_append.1 hy' with hy' | hy'
    · exact h.fx y hy'
    · simp only [List.mem_singleton] at hy'; rw [hy']; exact hfx

theorem RPX.ofRPC {x : RF} (h : RPC w p q Fd vL (K ++ [x]) D N) : RPX w p q Fd vL K (fcells x) D N := by
  refine ⟨h.cells, h.dev, rfl, ?_, fun y hy => h.fr y (List.mem_append_left _ hy), fun y hy => h.fx y (List.mem_append_left _ hy), h.dp, h.dL⟩
  have := h.row
  rw [List.length_append, kcells_append] at this
  simpa [kcells] using this

theorem RPX.ofPush {w2 : World} {g cap : Nat} {o : Obj} (h : RPC w p q Fd vL K D N) (hyl : ys.length = 4) (hown : w2.ownsRow 0 81 4 (.slice (some ⟨g, 0, none⟩) (K.length + 1) cap) (K.length + 1) (kcells K ++ ys)) (hgrow : (w.alloc o).grownBy w2 vL.ownBlock) (hat : vL.ownBlock = some g ∨ g = w.heap.size + 1) :
    RPX (w2.setCell ⟨p, 2, none⟩ (.slice (some ⟨g, 0, none⟩) (K.length + 1) cap)) p q Fd (.slice (some ⟨g, 0, none⟩) (K.length + 1) cap) K ys D N ∧
      Ch w.heap.size (fun k => k = p ∨ vL.ownBlock = some k) w (w2.setCell ⟨p, 2, none⟩ (.slice (some ⟨g, 0, none⟩) (K.length + 1) cap)) := by
  have hlt := h.lt
  have hs : w.heap.size ≤ w2.heap.size := by have := hgrow.size; simp at this; omega
  have hk : ∀ k, k < w.heap.size → vL.ownBlock ≠ some k → w2.heap[k]? = w.heap[k]? := fun k hk hne => (hgrow.block k (by simp; omega) (fun e => hne e.symm)).trans (Below.heap_alloc _ _ _ hk)
  have kk : ∀ k, k ≠ p → (w2.setCell ⟨p, 2, none⟩ (.slice (some ⟨g, 0, none⟩) (K.length + 1) cap)).heap[k]? = w2.heap[k]? := fun k hk => Below.heap_setCell w2 ⟨p, 2, none⟩ _ k hk
  have hpv : vL.ownBlock ≠ some p := fun e => (h.dL p e).2 rfl
  have hgn : ∀ k, k < w.heap.size → vL.ownBlock ≠ some k → g ≠ k := fun k hk hne e => by
    rcases hat with e2 | e2
    · exact hne (e ▸ e2)
    · omega
  have hgp : g ≠ p := hgn p (hlt p (.inl rfl)) hpv
  refine ⟨⟨?_, ?_, hyl, ?_, fun x hx => ⟨(h.fr x hx).1.kept ((kk x.g (h.fx x hx).1).trans (hk x.g (hlt x.g (.inr (.inr (.inr ⟨x, hx, rfl⟩)))) (h.fx x hx).2.2)), (h.fr x hx).2⟩, fun x hx => ⟨(h.fx x hx).1, (h.fx x hx).2.1, fun e => ?_⟩, h.dp, fun g' hg' => ?_⟩, ?_⟩
  · rw [setCell_heap w2 p 2 _ _ _ _ ((hk p (hlt p (.inl rfl)) hpv).trans h.cells)]
    rfl
  · exact h.dev.keep (by rw [size_setCell]; exact hs) (fun k hk' => (kk k (fun e => h.dp (e ▸ hk'))).trans (hk k (hlt k (.inr (.inl hk'))) (fun e => (h.dL k e).1 hk')))
  · exact owns_keep hown (fun g' hg' => kk g' (fun e => by simp [Value.ownBlock] at hg'; exact hgp (hg'.trans e)))
  · simp [Value.ownBlock] at e
    exact hgn x.g (hlt x.g (.inr (.inr (.inr ⟨x, hx, rfl⟩)))) (h.fx x hx).2.2 e
  · simp [Value.ownBlock] at hg'
    subst hg'
    refine ⟨fun e => ?_, hgp⟩
    exact hgn g (hlt g (.inr (.inl e))) (fun e2 => (h.dL g e2).1 e) rfl
  · exact (show Ch w.heap.size (fun k => k = p ∨ vL.ownBlock = some k) w w2 from ⟨hgrow.os, hgrow.tape, hgrow.output, hs, fun k hk1 hn => hk k hk1 (fun e => hn (.inr e))⟩).setCell (p := ⟨p, 2, none⟩) (.inr (.inl rfl)) _
end
end Go.Proofs.YtojckbhbnalkeaaGreat.Oct

/-
  The document's pool: what Put needs.
-/
namespace Go.Proofs.YtojckbhbnalkeaaGreat.Oct
open Go.RowKit

/-- The pool's frames X, and one more behind, over its blocks. -/
def XP (w : World) (p q : Nat) (F : Nat → Prop) (D : Dv) (N : Nat) (X : List Fr) (ys : List Value) : Prop :=
  (∀ k, F k → k < w.heap.size) ∧ ∃ Fd vL K, RPX w p q Fd vL K ys D N ∧ K.map (·.f) = X ∧ ∀ k, footQ p Fd vL K k → F k

section
variable {w : World} {p q : Nat} {F : Nat → Prop} {D : Dv} {N : Nat} {L X : List Fr} {ys : List Value}

theorem XP.ofRP {f : Fr} (h : RP w p q F D N (X ++ [f])) : ∃ v, XP w p q F D N X [.int .i64 f.page, .int .i64 f.pins, .bool f.dirty, v] := by
  obtain ⟨hF, Fd, vL, K, h, hK, hfo⟩ := h
  obtain ⟨K1, K2, rfl, rfl, h2⟩ := List.map_eq_append_iff.1 hK
  obtain ⟨x, rfl, hx⟩ : ∃ x, K2 = [x] ∧ x.f = f := by
    cases K2 with
    | nil => simp at h2
    | cons x r =>
      cases r with
      | nil => exact ⟨x, rfl, by simpa using h2⟩
      | cons y r => simp at h2
  refine ⟨x.bv, hF, Fd, vL, K1, ?_, rfl, fun k hk => hfo k ?_⟩
  · rw [← hx]; exact RPX.ofRPC h
  · rcases hk with hk | hk | hk | ⟨y, hy, e⟩
    · exact .inl hk
    · exact .inr (.inl hk)
    · exact .inr (.inr (.inl hk))
    · exact .inr (.inr (.inr ⟨y, List.mem_append_left _ hy, e⟩))

theorem RP.pushX (h : RP w p q F D N L) : ∃ a cap xs, w.cell? ⟨p, 2, none⟩ = some (.slice a L.length cap) ∧ p < w.heap.size ∧ w.ownsRow 0 81 4 (.slice a L.length cap) L.length xs ∧
    ∀ (w2 : World) (g2 cap2 : Nat) (o : Obj) (ys : List Value), ys.length = 4 → w2.ownsRow 0 81 4 (.slice (some ⟨g2, 0, none⟩) (L.length + 1) cap2) (L.length + 1) (xs ++ ys) → (w.alloc o).grownBy w2 (Value.slice a L.length cap).ownBlock → ((Value.slice a L.length cap).ownBlock = some g2 ∨ g2 = w.heap.size + 1) →
      (w2.cell? ⟨p, 2, none⟩ = some (.slice a L.length cap) ∧ w2.frozen? ⟨p, 2, none⟩ = false) ∧ ∃ F', XP (w2.setCell ⟨p, 2, none⟩ (.slice (some ⟨g2, 0, none⟩) (L.length + 1) cap2)) p q F' D N L ys ∧ Step F F' w (w2.setCell ⟨p, 2, none⟩ (.slice (some ⟨g2, 0, none⟩) (L.length + 1) cap2)) := by
  obtain ⟨hF, Fd, vL, K, h, rfl, hfo⟩ := h
  obtain ⟨c0, c1, c2, z⟩ := h.at
  obtain ⟨a, cap, rfl, h1, h2, h3⟩ := h.vl
  have hpl : p < w.heap.size := h.lt p (.inl rfl)
  rw [List.length_map]
  refine ⟨a, cap, kcells K, c2, hpl, h.row, fun w2 g2 cap2 o ys hyl ho hg hat => ?_⟩
  have hpv : (Value.slice a K.length cap).ownBlock ≠ some p := fun e => (h.dL p e).2 rfl
  have hb : w2.heap[p]? = w.heap[p]? := (hg.block p (by simp; omega) (fun e => hpv e.symm)).trans (Below.heap_alloc _ _ _ hpl)
  have hp2 := RPX.ofPush h hyl ho hg hat
  have hsz := hp2.2.size
  refine ⟨⟨(World.cell?_of_block (w := w) (a := ⟨p, 2, none⟩) hb).trans c2, (World.frozen?_of_block (w := w) (a := ⟨p, 2, none⟩) hb).trans (z 2)⟩, fun k => F k ∨ (w.heap.size ≤ k ∧ k < (w2.setCell ⟨p, 2, none⟩ (.slice (some ⟨g2, 0, none⟩) (K.length + 1) cap2)).heap.size), ⟨fun k hk => ?_, Fd, _, K, hp2.1, rfl, fun k hk => ?_⟩, hp2.2.mono (Nat.le_refl _) (fun k _ e => ?_), fun k hk => ?_⟩
  · rcases hk with hk | hk
    · have := hF k hk; omega
    · exact hk.2
  · have hlt := hp2.1.lt k hk
    rcases hk with hk | hk | hk | hk
    · exact .inl (hfo k (.inl hk))
    · exact .inl (hfo k (.inr (.inl hk)))
    · simp [Value.ownBlock] at hk
      subst hk
      rcases hat with e | e
      · exact .inl (hfo _ (.inr (.inr (.inl e))))
      · exact .inr ⟨by omega, hlt⟩
    · exact .inl (hfo k (.inr (.inr (.inr hk))))
  · rcases e with e | e
    · rw [e]; exact hfo p (.inl rfl)
    · exact hfo k (.inr (.inr (.inl e)))
  · rcases hk with hk | hk
    · exact .inl hk
    · exact .inr hk.1

/-- The frame behind gets its bytes, and is dirty. -/
theorem XP.put {pn n : Nat} {d : Bool} {v : Value} (h : XP w p q F D N X [.int .i64 pn, .int .i64 n, .bool d, v]) : ∃ g cap, X.length + 1 ≤ cap ∧ cap ≤ maxLen ∧ w.cell? ⟨p, 2, none⟩ = some (.slice (some ⟨g, 0, none⟩) (X.length + 1) cap) ∧ p < w.heap.size ∧ ¬ p = g ∧
    ∀ (w4 : World) (gb cb : Nat) (b : List Int), Below w.heap.size w w4 → Own w.heap.size w4 (.slice (some ⟨gb, 0, none⟩) 256 cb) b → b.length = 256 →
      (w4.cell? ⟨p, 2, none⟩ = some (.slice (some ⟨g, 0, none⟩) (X.length + 1) cap) ∧ w4.frozen? ⟨g, X.length * 4 + 3, none⟩ = false ∧ w4.cell? ⟨g, X.length * 4 + 3, none⟩ = some v) ∧
      ((w4.setCell ⟨g, X.length * 4 + 3, none⟩ (.slice (some ⟨gb, 0, none⟩) 256 cb)).cell? ⟨p, 2, none⟩ = some (.slice (some ⟨g, 0, none⟩) (X.length + 1) cap) ∧ (w4.setCell ⟨g, X.length * 4 + 3, none⟩ (.slice (some ⟨gb, 0, none⟩) 256 cb)).frozen? ⟨g, X.length * 4 + 2, none⟩ = false ∧ (w4.setCell ⟨g, X.length * 4 + 3, none⟩ (.slice (some ⟨gb, 0, none⟩) 256 cb)).cell? ⟨g, X.length * 4 + 2, none⟩ = some (.bool d)) ∧
      ∃ F', RP ((w4.setCell ⟨g, X.length * 4 + 3, none⟩ (.slice (some ⟨gb, 0, none⟩) 256 cb)).setCell ⟨g, X.length * 4 + 2, none⟩ (.bool true)) p q F' D N (X ++ [⟨pn, b, true, n⟩]) ∧ Step F F' w ((w4.setCell ⟨g, X.length * 4 + 3, none⟩ (.slice (some ⟨gb, 0, none⟩) 256 cb)).setCell ⟨g, X.length * 4 + 2, none⟩ (.bool true)) := by
  obtain ⟨hF, Fd, vL, K, h, rfl, hfo⟩ := h
  obtain ⟨g, cap, rfl, h1, h2, h3, h4, h5, h6⟩ := h.opened
  have hpl : p < w.heap.size := h.lt p (.inl rfl)
  rw [List.length_map]
  refine ⟨g, cap, h1, h2, h4, hpl, fun e => (h.dL g rfl).2 e.symm, fun w4 gb cb b hb ho hl => ?_⟩
  have hb4 : RPX w4 p q Fd (.slice (some ⟨g, 0, none⟩) (K.length + 1) cap) K [.int .i64 pn, .int .i64 n, .bool d, v] D N := h.keep hb.size (fun k hk => hb.block k (h.lt k hk))
  obtain ⟨g', cap', e1, -, -, hg4, c4, z4, d4⟩ := hb4.opened
  simp only [Value.slice.injEq, Option.some.injEq, Addr.mk.injEq, and_true, true_and] at e1
  obtain ⟨rfl, rfl⟩ := e1
  have hs1 := hb4.set (j := 3) (by omega) (.slice (some ⟨gb, 0, none⟩) 256 cb)
  obtain ⟨g', cap', e1, -, -, -, c5, z5, d5⟩ := hs1.opened
  simp only [Value.slice.injEq, Option.some.injEq, Addr.mk.injEq, and_true, true_and] at e1
  obtain ⟨rfl, rfl⟩ := e1
  have hs2 := hs1.set (j := 2) (by omega) (.bool true)
  have hgb := ho.lt2
  have hne : ∀ k, footQ p Fd (.slice (some ⟨g, 0, none⟩) (K.length + 1) cap) K k → gb ≠ k := fun k hk e => by have := h.lt k hk; omega
  have hgg : gb ≠ g := hne g (.inr (.inr (.inl rfl)))
  have hr := hs2.done ⟨⟨pn, b, true, n⟩, gb, cb⟩ rfl ⟨(ho.zero.kept (Below.heap_setCell w4 ⟨g, K.length * 4 + 3, none⟩ _ gb hgg)).kept (Below.heap_setCell _ ⟨g, K.length * 4 + 2, none⟩ _ gb hgg), hl⟩ ⟨hne p (.inl rfl), fun e => hne gb (.inr (.inl e)) rfl, fun e => hgg (by simpa [Value.ownBlock] using e.symm)⟩
  refine ⟨⟨c4, z4 _, d4 3 (by omega)⟩, ⟨c5, z5 _, d5 2 (by omega)⟩, ?_⟩
  have e : (K ++ [(⟨⟨pn, b, true, n⟩, gb, cb⟩ : RF)]).map (·.f) = K.map (·.f) ++ [⟨pn, b, true, n⟩] := by simp
  rw [← e]
  have hFg : F g := hfo g (.inr (.inr (.inl rfl)))
  refine RP.fin hF hr (((Ch.of F hb).setCell (p := ⟨g, K.length * 4 + 3, none⟩) (.inr hFg) _).setCell (p := ⟨g, K.length * 4 + 2, none⟩) (.inr hFg) _) (fun k hk => ?_)
  rcases hk with hk | hk | hk | ⟨x, hx, e⟩
  · exact .inl (hfo k (.inl hk))
  · exact .inl (hfo k (.inr (.inl hk)))
  · exact .inl (hfo k (.inr (.inr (.inl hk))))
  · rcases List.mem_append.1 hx with hx | hx
    · exact .inl (hfo k (.inr (.inr (.inr ⟨x, hx, e⟩))))
    · simp only [List.mem_singleton] at hx
      rw [hx] at e
      exact .inr (by rw [← e]; exact hgb.1)
end
end Go.Proofs.YtojckbhbnalkeaaGreat.Oct
