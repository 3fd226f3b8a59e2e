/-
  append(own, row...) of bytes, whatever the row; a row that came in; Copy of it.
-/
import Derived.Test.YtehomchhflhmbaaCp
import Derived.Laws.AppendOwnNone
namespace Go.Proofs.Ytehomchhflhmbaa.Oct
open Go.RowKit

theorem IsRow.row2 {w : World} {a : Option Addr} {len cap : Nat} {zs : List Int} (h : IsRow .u8 w a len cap zs) :
    ∃ ys : List Int, len = ys.length ∧ Row w a cap ys ∧ (a = none → cap = 0) := by
  obtain ⟨ys, h1, h2⟩ := h.row
  refine ⟨ys, h1, h2, fun hn => ?_⟩
  rcases h with ⟨_, _, h3, _⟩ | ⟨x, h3, _⟩
  · exact h3
  · rw [hn] at h3; exact absurd h3 (by simp)

theorem row_news {w : World} {ad : Addr} {c : Nat} {zs : List Int} (h : Row w (some ad) c zs) : ∀ (j : Nat) (u : Value), (zs.map (Value.int .u8))[j]? = some u → w.cell? (ad.add j) = some u := by
  intro j u hj
  rw [List.getElem?_map] at hj
  have hlt : j < zs.length := by
    by_cases hlt : j < zs.length
    · exact hlt
    · rw [List.getElem?_eq_none (by omega)] at hj; exact absurd hj (by simp)
  rcases h.2.2.2 with h | ⟨b, off, e, hc⟩
  · rw [h] at hlt; exact absurd hlt (by simp)
  · simp only [Option.some.injEq] at e
    subst e
    have e2 : (⟨b, off, none⟩ : Addr).add j = ⟨b, off + j, none⟩ := by simp [Addr.add]
    rw [e2, hc j hlt, ← hj, List.getD_eq_getElem?_getD, List.getElem?_eq_getElem hlt]
    rfl

theorem one_cells (zs : List Int) : ∀ u ∈ zs.map (Value.int .u8), u.oneCell' = true := by
  intro u hu
  obtain ⟨z, _, rfl⟩ := List.mem_map.1 hu
  rfl

theorem append_row {w : World} {ops : Array Oper} {rest : List Oper} {o : Oper} {a : Act} {Q : Exit → Act → World → Prop} (hgd : o.guard = none) (s x : Operand)
    (ho : o.op = .call { callee := .builtin .append, args := #[s, x], argTypes := #[26, 26] })
    (base : Nat) (v : Value) (xs : List Int) (hs : a.eval s = v) (hown : Own base w v xs) (sa : Option Addr) (zs : List Int) (c : Nat) (hx : a.eval x = .slice sa zs.length c)
    (hrow : Row w sa c zs) (hnil : sa = none → c = 0) (hsz : xs.length + zs.length ≤ 1000000) (hbase : base ≤ w.heap.size)
    (h : ∀ v' w', Own base w' v' (xs ++ zs) → Below base w w' → wpList Try.prog ops Q rest (a.put o.dst v') w') : wpList Try.prog ops Q (o :: rest) a w := by
  obtain ⟨i0, hi, hz0, hz1, hz2⟩ := info_parts info5
  cases sa with
  | none =>
    have hz : zs = [] := by
      rcases hrow.2.2.2 with h | ⟨b, off, e, _⟩
      · exact h
      · exact absurd e (by simp)
    subst hz
    rw [hnil rfl] at hx
    refine wpList_append_own_none hgd s x 26 ho base 5 i0 1 Try.underlying26 hi v _ _ hs hown hx ?_
    exact h v w (by rw [List.append_nil]; exact hown) (Below.refl _ _)
  | some ad =>
    refine wpList_append_own w hgd s x 26 ho base 5 i0 (.int .u8 0) 1 1 Try.underlying26 hi hz0 hz1 hz2 rfl (by decide) v _ _ hs hown ad _ c (zs.map (Value.int .u8)) hx (by simp) (row_news hrow) (one_cells zs) (by unfold maxLen; omega) (by omega) hbase ?_
    intro v' w' h1 h2 _
    refine h v' w' ?_ ((Below.refl base w).grown h2 hbase (fun j hj => hown.lt' j hj))
    unfold Own
    rw [List.length_append, List.map_append]
    exact h1
end Go.Proofs.Ytehomchhflhmbaa.Oct
