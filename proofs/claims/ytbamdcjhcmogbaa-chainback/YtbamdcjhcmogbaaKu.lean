/-
  The landed chain: Cut, whole.
-/
import Derived.Test.YtbamdcjhcmogbaaKt
namespace Go.Proofs.Ytbamdcjhcmogbaa.Oct.Chs
open Go.RowKit Go.Shelf

attribute [local go_sem] Oper.semAt_some

theorem prt_row {W : World} {b off cap : Nat} {zs : List Int} (h : Row W (some ⟨b, off, none⟩) cap zs) (k : Nat) (hk : k * 244 ≤ zs.length) : Row W (some ⟨b, off + k * 244, none⟩) (cap - k * 244) (prt zs k) := by
  have hc := h.2.1
  by_cases h2 : 244 ≤ zs.length - k * 244
  · exact (h.drop' (k * 244) hk).take' 244 (cap - k * 244) (by rw [List.length_drop]; omega) (by omega) (Nat.le_refl _)
  · unfold prt
    rw [List.take_of_length_le (by rw [List.length_drop]; omega)]
    exact h.drop' (k * 244) hk

/-- What the loop keeps, where the pages L are made. -/
def InvC (w0 : World) (n₀ B4 B5 Bx Bp g0 n : Nat) (pv : Value) (L : List (List Int)) (W : World) : Prop :=
  Boxed W Bx 23 (.slice (some ⟨g0, 0, none⟩) L.length n) ∧ PgL n₀ W (.slice (some ⟨g0, 0, none⟩) L.length n) L ∧ Boxed W B4 23 (.slice none 0 0) ∧ Boxed W B5 24 (.int .i64 0) ∧ Below n₀ w0 W ∧ Boxed W Bp 29 pv

theorem InvC.ownFrom {β : Type} {w0 : World} {n₀ B4 B5 Bx Bp g0 n B : Nat} {pv : Value} (f : β → List (List Int)) (hn : n₀ ≤ w0.heap.size) (hB : n₀ ≤ B) : OwnFrom B (fun s W => InvC w0 n₀ B4 B5 Bx Bp g0 n pv (f s) W) := by
  rintro s X Y row ⟨h1, h2, h3, h4, h5, h6⟩ hg hr
  have kb : ∀ {Z : Nat} {t : TypeId} {v : Value}, Boxed X Z t v → Boxed Y Z t v := fun h => h.kept hg fun e => by
    obtain ⟨_, o, ho, hc⟩ := hr _ e.symm
    rw [show X.heap[_]? = _ from h] at ho
    cases ho
    cases hc
  refine ⟨kb h1, PgL.keepC h2 fun k cur t fr hk _ => ?_, kb h3, kb h4, h5.grown hg (Nat.le_trans hn h5.size) (fun k e => Nat.le_trans hB (hr k e).1), kb h6⟩
  refine hg.block k (heap_lt hk) fun e => ?_
  obtain ⟨_, o, ho, hc⟩ := hr _ e.symm
  rw [hk] at ho
  cases ho
  cases hc

theorem InvC.below {w0 W W2 : World} {n₀ B4 B5 Bx Bp g0 n : Nat} {pv : Value} {L : List (List Int)} (h : InvC w0 n₀ B4 B5 Bx Bp g0 n pv L W) (hn : n₀ ≤ w0.heap.size) (hb : Below W.heap.size W W2) : InvC w0 n₀ B4 B5 Bx Bp g0 n pv L W2 := by
  obtain ⟨h1, h2, h3, h4, h5, h6⟩ := h
  have kb : ∀ {Z : Nat} {t : TypeId} {v : Value}, Boxed W Z t v → Boxed W2 Z t v := fun h => (hb.block _ h.lt).trans h
  exact ⟨kb h1, h2.below hb, kb h3, kb h4, h5.trans (hb.mono (Nat.le_trans hn h5.size)), kb h6⟩

theorem keeps_below {W W2 : World} (h : Below W.heap.size W W2) : KeepsOthers W W2 := ⟨h.size, fun k _ hk _ => (h.block k (heap_lt hk)).trans hk⟩

/-- One more page is made. -/
theorem InvC.more {w0 W2 w1 : World} {n₀ B4 B5 Bx Bp g0 n q c k : Nat} {pv : Value} {L : List (List Int)} {Z : List Int} {tmp : Obj} {vs : List Value} (h1 : Boxed W2 Bx 23 (.slice (some ⟨g0, 0, none⟩) L.length n)) (hrow : W2.ownsRow n₀ 27 1 (.slice (some ⟨g0, 0, none⟩) L.length n) L.length vs) (hin : ∀ i, i < L.length → ∃ g c, vs[i]? = some (.slice (some ⟨g, 0, none⟩) (L.getD i []).length c) ∧ Own n₀ W2 (.slice (some ⟨g, 0, none⟩) (L.getD i []).length c) (L.getD i []) ∧ (Value.slice (some ⟨g0, 0, none⟩) L.length n).ownBlock ≠ some g)
    (h3 : Boxed W2 B4 23 (.slice none 0 0)) (h4 : Boxed W2 B5 24 (.int .i64 0)) (h5 : Below n₀ w0 W2) (h6 : Boxed W2 Bp 29 pv) (hn₀ : n₀ ≤ w0.heap.size) (hx : n₀ ≤ Bx)
    (hd4 : B4 ≠ Bx) (hd6 : Bp ≠ Bx) (hL : L.length = k) (hZ : Z.length = 256) (ho : Own n₀ W2 (.slice (some ⟨q, 0, none⟩) 256 c) Z) (hq : g0 ≠ q)
    (hown' : w1.ownsRow n₀ 27 1 (.slice (some ⟨g0, 0, none⟩) (k + 1) n) (k + 1) (vs ++ [.slice (some ⟨q, 0, none⟩) 256 c])) (hgrow : (W2.alloc tmp).grownBy w1 (some g0)) :
    InvC w0 n₀ B4 B5 Bx Bp g0 n pv (L ++ [Z]) (w1.setCell ⟨Bx, 0, none⟩ (.slice (some ⟨g0, 0, none⟩) (k + 1) n)) ∧ KeepsOthers W2 (w1.setCell ⟨Bx, 0, none⟩ (.slice (some ⟨g0, 0, none⟩) (k + 1) n)) ∧ Kp n₀ Bp W2 (w1.setCell ⟨Bx, 0, none⟩ (.slice (some ⟨g0, 0, none⟩) (k + 1) n)) ∧ Boxed w1 Bx 23 (.slice (some ⟨g0, 0, none⟩) k n) := by
  have hxl : vs.length = L.length := by have := hrow.1; simpa using this
  obtain ⟨e1, e2, e3, e4, e5⟩ := Boxed.appended h1 (by decide) hrow (Nat.le_trans hn₀ h5.size) hx hown' hgrow
  subst hL
  have hk : ∀ {Z' : Nat} {t : TypeId} {v : Value}, Boxed W2 Z' t v → t ≠ 27 → Z' ≠ Bx → Boxed (w1.setCell ⟨Bx, 0, none⟩ (.slice (some ⟨g0, 0, none⟩) (L.length + 1) n)) Z' t v := fun h ht hne => by
    have hb1 : Boxed w1 _ _ _ := (h.alloc tmp).kept hgrow (h.not_row ht hrow)
    exact hb1.kept (grownBy_setCell' w1 Bx _) (fun e => hne (by cases e; rfl))
  have hpg : PgL n₀ w1 (.slice (some ⟨g0, 0, none⟩) (L.length + 1) n) (L ++ [Z]) := PgL.grown hin hxl hZ ho (fun e => hq (by simpa [Value.ownBlock] using e)) hown' hgrow (.inl rfl)
  have k6 := hk h6 (by decide) hd6
  refine ⟨⟨by rw [List.length_append]; exact e2, ?_, hk h3 (by decide) hd4, hk h4 (by decide) ?_, h5.trans e5, k6⟩, e4, ⟨e5, k6.trans (show W2.heap[Bp]? = _ from h6).symm⟩, e1⟩
  · rw [List.length_append]
    refine PgL.keepC hpg fun k' cur t fr hk' ht => Below.heap_setCell _ _ _ _ fun e => ?_
    subst e
    rw [show w1.heap[_]? = _ from e1] at hk'
    cases hk'
    rcases ht with ht | ht <;> cases ht
  · intro e
    subst e
    have := (show W2.heap[B5]? = _ from h1).symm.trans h4
    cases this
end Go.Proofs.Ytbamdcjhcmogbaa.Oct.Chs
