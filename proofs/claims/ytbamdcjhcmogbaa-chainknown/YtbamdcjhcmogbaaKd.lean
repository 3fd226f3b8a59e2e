/-
  Lists of pages' bytes in memory.
-/
import Derived.Test.YtbamdcjhcmogbaaKc
namespace Go.Proofs.Ytbamdcjhcmogbaa.Oct
open Go.RowKit

theorem infoPl : (Try.prog.info? 27).map (fun i => (i.zero, i.size, i.bytes)) = some (some (.slice none 0 0), 1, 24) := by kernel_rfl

/-- A list of rows of bytes, all of the call's own, none of them empty. -/
def PgL (base : Nat) (w : World) (v : Value) (L : List (List Int)) : Prop :=
  ∃ vs, w.ownsRow base 27 1 v L.length vs ∧ ∀ i, i < L.length → ∃ g c, vs[i]? = some (.slice (some ⟨g, 0, none⟩) (L.getD i []).length c) ∧ Own base w (.slice (some ⟨g, 0, none⟩) (L.getD i []).length c) (L.getD i []) ∧ v.ownBlock ≠ some g

theorem pgL_nil (base : Nat) (w : World) : PgL base w (.slice none 0 0) [] := ⟨[], World.ownsRow_nil _ _ _ _, fun i hi => by simp at hi⟩

theorem PgL.below {base : Nat} {w w' : World} {v : Value} {L : List (List Int)} (h : PgL base w v L) (hb : Below w.heap.size w w') : PgL base w' v L := by
  obtain ⟨vs, h1, h2⟩ := h
  refine ⟨vs, own_below h1 hb, fun i hi => ?_⟩
  obtain ⟨g, c, e, ho, hn⟩ := h2 i hi
  exact ⟨g, c, e, ho.kept (hb.block g ho.lt2.2), hn⟩

theorem PgL.mono {base b : Nat} {w : World} {v : Value} {L : List (List Int)} (h : PgL base w v L) (hb : b ≤ base) : PgL b w v L := by
  obtain ⟨vs, h1, h2⟩ := h
  refine ⟨vs, owns_base h1 (fun g hg => Nat.le_trans hb (World.ownsRow.lt h1 g hg).1), fun i hi => ?_⟩
  obtain ⟨g, c, e, ho, hn⟩ := h2 i hi
  exact ⟨g, c, e, owns_base ho (fun k hk => Nat.le_trans hb (World.ownsRow.lt ho k hk).1), hn⟩

/-- One page, read. -/
theorem PgL.at {base : Nat} {w : World} {v : Value} {L : List (List Int)} (h : PgL base w v L) (i : Nat) (hi : i < L.length) :
    ∃ q cap g c, v = .slice (some ⟨q, 0, none⟩) L.length cap ∧ L.length ≤ cap ∧ cap ≤ maxLen ∧ w.cell? ⟨q, i, none⟩ = some (.slice (some ⟨g, 0, none⟩) (L.getD i []).length c) ∧ Own base w (.slice (some ⟨g, 0, none⟩) (L.getD i []).length c) (L.getD i []) ∧ g ≠ q := by
  obtain ⟨vs, h1, h2⟩ := h
  obtain ⟨g, c, e, ho, hn⟩ := h2 i hi
  rcases id h1.2 with ⟨rfl, h0⟩ | ⟨q, cap, cur, rfl, hq, hc, hl, hm, hs, ht⟩
  · omega
  · refine ⟨q, cap, g, c, rfl, hl, hm, ?_, ho, fun e2 => hn (by rw [e2]; rfl)⟩
    rw [World.ownsRow.cellAt h1 i (by omega)]
    exact e
theorem PgL.slice {base : Nat} {w : World} {v : Value} {L : List (List Int)} (h : PgL base w v L) : ∃ a cap, v = .slice a L.length cap ∧ L.length ≤ cap ∧ cap ≤ maxLen := by
  obtain ⟨vs, h1, h2⟩ := h
  rcases h1.2 with ⟨h1, h0⟩ | ⟨q, cap, cur, h1, hq, hc, hl, hm, hs, ht⟩
  · exact ⟨none, 0, by rw [h1, h0], by omega, by simp [maxLen]⟩
  · exact ⟨_, cap, h1, hl, hm⟩

/-- One more. -/
theorem PgL.snoc {base : Nat} {w w1 : World} {v v' : Value} {L : List (List Int)} {vs : List Value} {Z : List Int} {g c : Nat} {o : Obj}
    (h2 : ∀ i, i < L.length → ∃ g c, vs[i]? = some (.slice (some ⟨g, 0, none⟩) (L.getD i []).length c) ∧ Own base w (.slice (some ⟨g, 0, none⟩) (L.getD i []).length c) (L.getD i []) ∧ v.ownBlock ≠ some g)
    (hvs : vs.length = L.length) (ho : Own base w (.slice (some ⟨g, 0, none⟩) Z.length c) Z) (hv : v.ownBlock ≠ some g)
    (hown' : w1.ownsRow base 27 1 v' (L.length + 1) (vs ++ [.slice (some ⟨g, 0, none⟩) Z.length c])) (hgrow : (w.alloc o).grownBy w1 v.ownBlock) (hat : ∀ k, v'.ownBlock = some k → v.ownBlock = some k ∨ (w.alloc o).heap.size ≤ k) : PgL base w1 v' (L ++ [Z]) := by
  have hsz : w.heap.size < (w.alloc o).heap.size := heap_lt (heap_alloc_new w o)
  have kk : ∀ x, x < w.heap.size → v.ownBlock ≠ some x → w1.heap[x]? = w.heap[x]? := fun x hx hn => (hgrow.block x (by omega) (fun e => hn e.symm)).trans (Below.heap_alloc w o x hx)
  have nn : ∀ x, x < w.heap.size → v.ownBlock ≠ some x → v'.ownBlock ≠ some x := fun x hx hn e => by
    rcases hat x e with e | e
    · exact hn e
    · omega
  refine ⟨vs ++ [.slice (some ⟨g, 0, none⟩) Z.length c], by rw [List.length_append]; exact hown', fun i hi => ?_⟩
  rw [List.length_append, List.length_singleton] at hi
  by_cases e : i < L.length
  · obtain ⟨g', c', e1, ho1, hn1⟩ := h2 i e
    have eg : (L ++ [Z]).getD i [] = L.getD i [] := by rw [List.getD_eq_getElem?_getD, List.getElem?_append_left e, ← List.getD_eq_getElem?_getD]
    rw [eg]
    exact ⟨g', c', by rw [List.getElem?_append_left (by omega)]; exact e1, ho1.kept (kk g' ho1.lt2.2 hn1), nn g' ho1.lt2.2 hn1⟩
  · have ei : i = L.length := by omega
    subst ei
    have eg : (L ++ [Z]).getD L.length [] = Z := by simp
    rw [eg]
    exact ⟨g, c, by rw [← hvs]; simp, ho.kept (kk g ho.lt2.2 hv), nn g ho.lt2.2 hv⟩
end Go.Proofs.Ytbamdcjhcmogbaa.Oct
