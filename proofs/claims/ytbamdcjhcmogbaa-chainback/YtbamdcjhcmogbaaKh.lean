/-
  Rows of pages that rise.
-/
import Derived.Test.YtbamdcjhcmogbaaKg
import Derived.Test.YtbamdcjhcmogbaaAp
namespace Go.Proofs.Ytbamdcjhcmogbaa.Oct
open Go.RowKit

/-- k pages from f on, each d behind the other. -/
def pgF (f d : Nat) (k : Nat) : List Int := (List.range k).map fun i => ((f + i * d : Nat) : Int)
theorem pgF_len (f d k : Nat) : (pgF f d k).length = k := by simp [pgF]
theorem pgF_at {f d k i : Nat} (h : i < k) : (pgF f d k).getD i 0 = ((f + i * d : Nat) : Int) := by
  unfold pgF
  rw [List.getD_eq_getElem?_getD, List.getElem?_eq_getElem (by simpa using h)]
  simp
theorem pgF_succ (f d k : Nat) : pgF f d (k + 1) = pgF f d k ++ [((f + k * d : Nat) : Int)] := by simp [pgF, List.range_succ]
theorem pgF_ok {f d k : Nat} (hf : 2 ≤ f) (hd : 1 ≤ d) (h : f + k * d ≤ 4096) : CtOk (pgF f d k) := fun i hi => by
  rw [pgF_len] at hi
  have h1 : i * d + d ≤ k * d := by rw [← Nat.succ_mul]; exact Nat.mul_le_mul_right d hi
  rw [pgF_at hi]
  refine ⟨⟨by omega, by omega⟩, fun j hj => ?_⟩
  rw [pgF_at (by omega)]
  have h2 : j * d + d ≤ i * d := by rw [← Nat.succ_mul]; exact Nat.mul_le_mul_right d hj
  omega
theorem pgF_wf {f d k : Nat} (h : f + k * d ≤ 4096) : ∀ z ∈ pgF f d k, -9223372036854775808 ≤ z ∧ z ≤ 9223372036854775807 := fun z hz => by
  obtain ⟨i, hi, rfl⟩ := List.mem_map.1 hz
  have hi := List.mem_range.1 hi
  have h1 : i * d ≤ k * d := Nat.mul_le_mul_right d (by omega)
  omega
theorem pgF_take (f d k j : Nat) (h : j ≤ k) : (pgF f d k).take j = pgF f d j := by
  unfold pgF
  rw [← List.map_take, List.take_range, Nat.min_eq_left h]

/-- append(own, one) of ints. -/
theorem appI {ops : Array Oper} {rest : List Oper} {o : Oper} {a : Act} {Q : Exit → Act → World → Prop} (wr : World) (hgd : o.guard = none) (s x : Operand)
    (ho : o.op = .call { callee := .builtin .append, args := #[s, x], argTypes := #[29, 29] })
    (base : Nat) (v : Value) (xs : List Int) (z : Int) (hs : a.eval s = v) (hown : OwnI base wr v xs) (hx : a.eval x = .slice (some ⟨wr.heap.size, 0, none⟩) 1 1) (hsz : xs.length ≤ 1000000) (hbase : base ≤ wr.heap.size)
    (h : ∀ v' w', OwnI base w' v' (xs ++ [z]) → Below base wr w' → wpList Try.prog ops Q rest (a.put o.dst v') w') : wpList Try.prog ops Q (o :: rest) a (wr.alloc (.cells #[.int .i64 z] 3)) := by
  obtain ⟨i0, hi, hz0, hz1, hz2⟩ := info_parts info3
  refine wpList_append_own _ hgd s x 29 ho base 3 i0 (.int .i64 0) 1 8 Try.underlying29 hi hz0 hz1 hz2 rfl (by decide) v xs.length (xs.map (Value.int .i64)) hs (World.ownsRow.alloc hown _) ⟨wr.heap.size, 0, none⟩ 1 1 [.int .i64 z] hx rfl (World.news_of_block (heap_alloc_new wr _)) (by simp [Value.oneCell']) (by unfold maxLen; omega) (by omega) (by simp; omega) ?_
  intro v' w1 hown' hgrow _
  obtain ⟨h1, h2⟩ := ownI_step (c := z) (o := .cells #[.int .i64 z] 3) rfl hbase hown (Below.refl base wr) hown' hgrow
  exact h v' w1 h1 h2
theorem OwnI.row2 {base : Nat} {w : World} {v : Value} {zs : List Int} (h : OwnI base w v zs) : ∃ a cap, v = .slice a zs.length cap ∧ RowI w a cap zs := h.row
end Go.Proofs.Ytbamdcjhcmogbaa.Oct
