/-
  Rows of ints of one's own that may be cut short of their block: read, kept, put together.
-/
import Derived.Test.YtehomchhflhmbaaRi
import Derived.Test.YtehomchhflhmbaaRc
import Derived.Laws.AppendOwnNone
namespace Go.Proofs.Ytehomchhflhmbaa.Oct
open Go.RowKit

/-- A row of one's own: its block holds it, and what it may grow over. -/
def OwI (base : Nat) (w : World) (v : Value) (zs : List Int) : Prop :=
  (v = .slice none 0 0 ∧ zs = []) ∨
  ∃ g cap cur, v = .slice (some ⟨g, 0, none⟩) zs.length cap ∧ base ≤ g ∧ w.heap[g]? = some (.cells cur 3 (0, 0)) ∧ zs.length ≤ cap ∧ cap ≤ maxLen ∧ cap ≤ cur.size ∧ cur.toList.take zs.length = zs.map (Value.int .i64)

/-- A row without spare room. -/
def Full (v : Value) : Prop := v = .slice none 0 0 ∨ ∃ g n, v = .slice (some ⟨g, 0, none⟩) n n

theorem owI_nil (base : Nat) (w : World) : OwI base w (.slice none 0 0) [] := .inl ⟨rfl, rfl⟩

theorem OwI.lt {base : Nat} {w : World} {v : Value} {zs : List Int} (h : OwI base w v zs) : ∀ k, v.ownBlock = some k → base ≤ k ∧ k < w.heap.size := by
  intro k hk
  rcases h with ⟨rfl, _⟩ | ⟨g, cap, cur, rfl, hb, hg, _⟩
  · simp [Value.ownBlock] at hk
  · simp [Value.ownBlock] at hk
    subst hk
    exact ⟨hb, heap_lt hg⟩

theorem OwI.keep {base : Nat} {w w' : World} {v : Value} {zs : List Int} (h : OwI base w v zs) (k : ∀ g, v.ownBlock = some g → w'.heap[g]? = w.heap[g]?) : OwI base w' v zs := by
  rcases h with h | ⟨g, cap, cur, rfl, hb, hg, rest⟩
  · exact .inl h
  · exact .inr ⟨g, cap, cur, rfl, hb, (k g rfl).trans hg, rest⟩

theorem OwI.base {base base' : Nat} {w : World} {v : Value} {zs : List Int} (h : OwI base w v zs) (k : ∀ g, v.ownBlock = some g → base' ≤ g) : OwI base' w v zs := by
  rcases h with h | ⟨g, cap, cur, rfl, hb, rest⟩
  · exact .inl h
  · exact .inr ⟨g, cap, cur, rfl, k g rfl, rest⟩

theorem OwI.below {base : Nat} {w w' : World} {v : Value} {zs : List Int} (h : OwI base w v zs) (k : Below w.heap.size w w') : OwI base w' v zs :=
  h.keep (fun g hg => k.block g (h.lt g hg).2)

/-- What it is, and what it reads. -/
theorem OwI.row {base : Nat} {w : World} {v : Value} {zs : List Int} (h : OwI base w v zs) : ∃ a cap, v = .slice a zs.length cap ∧ RowI w a cap zs := by
  rcases h with ⟨rfl, rfl⟩ | ⟨g, cap, cur, rfl, hb, hg, h1, h2, h3, h4⟩
  · exact ⟨none, 0, rfl, by simp, by simp [maxLen], .inl rfl⟩
  · refine ⟨_, cap, rfl, h1, h2, .inr ⟨g, 0, rfl, fun i hi => ?_⟩⟩
    rw [Nat.zero_add, cell_of_row w g i cur _ (0, 0) hg]
    have e : cur.toList[i]? = (cur.toList.take zs.length)[i]? := by rw [List.getElem?_take, if_pos hi]
    rw [← Array.getElem?_toList, e, h4]
    simp [hi]

theorem rowI_news {w : World} {ad : Addr} {c : Nat} {zs : List Int} (h : RowI w (some ad) c zs) : ∀ (j : Nat) (u : Value), (zs.map (Value.int .i64))[j]? = some u → w.cell? (ad.add j) = some u := by
  intro j u hj
  rw [List.getElem?_map] at hj
  have hlt : j < zs.length := by
    by_cases hlt : j < zs.length
    · exact hlt
    · rw [List.getElem?_eq_none (by omega)] at hj; exact absurd hj (by simp)
  rcases h.2.2 with h | ⟨b, off, e, hc⟩
  · rw [h] at hlt; exact absurd hlt (by simp)
  · simp only [Option.some.injEq] at e
    subst e
    have e2 : (⟨b, off, none⟩ : Addr).add j = ⟨b, off + j, none⟩ := by simp [Addr.add]
    rw [e2, hc j hlt, ← hj, List.getD_eq_getElem?_getD, List.getElem?_eq_getElem hlt]
    rfl

theorem oneI (zs : List Int) : ∀ u ∈ zs.map (Value.int .i64), u.oneCell' = true := by
  intro u hu
  obtain ⟨z, _, rfl⟩ := List.mem_map.1 hu
  rfl

/-- What append makes of such a row. -/
theorem run_append_owI (base : Nat) (ty : TypeId) {w : World} {v : Value} {xs : List Int} (hown : OwI base w v xs) (ad : Addr) (m c : Nat) (zs : List Int) (hl : zs.length = m)
    (hnews : ∀ j u, (zs.map (Value.int .i64))[j]? = some u → w.cell? (ad.add j) = some u) (hsz : xs.length + m ≤ 2000000) (hbase : base ≤ w.heap.size) :
    ∃ v' w', (Builtin.append_ #[42, 42] ty #[v, .slice (some ad) m c]).run Try.prog w = .ok v' w' ∧ OwI base w' v' (xs ++ zs) ∧ w.grownBy w' v.ownBlock ∧ ∀ g, v'.ownBlock = some g → v.ownBlock = some g ∨ w.heap.size ≤ g := by
  obtain ⟨i0, hi, hz0, hz1, hz2⟩ := info_parts info3
  have hm1 : (zs.map (Value.int .i64)).length = m * i0.size := by rw [List.length_map, hz1, Nat.mul_one]; exact hl
  rcases hown with ⟨rfl, rfl⟩ | ⟨g, cap, cur, rfl, hbg, hg, h1, h2, h3, h4⟩
  · by_cases hm : m = 0
    · subst hm
      have hn : zs = [] := List.eq_nil_of_length_eq_zero hl
      subst hn
      refine ⟨.slice none 0 0, w, ?_, .inl ⟨rfl, rfl⟩, ⟨rfl, rfl, rfl, Nat.le_refl _, fun _ _ _ => rfl⟩, fun _ h => .inl h⟩
      simp [Builtin.append_, run_underlying Try.underlying42, sizeOf, typeInfo, hi, Builtin.lenOf, Builtin.firstCells, loadCells, loadCellsFrom]
    · have hr := run_append_nil (P := Try.prog) w 42 ty 3 i0 _ Try.underlying42 hi hz0 ad m c _ hm1 hnews (by omega) (by omega) (by rw [hz2]; omega)
      refine ⟨_, _, hr, .inr ⟨w.heap.size, _, _, ?_, hbase, heap_alloc_new w.drew _, ?_, grownCap_le_maxLen w m 0 3 (by unfold maxLen; omega), ?_, ?_⟩, ⟨rfl, rfl, rfl, by simp, fun k hk _ => heap_alloc_old w.drew _ hk⟩, fun g hg => .inr (by simp only [Value.ownBlock, Option.some.injEq] at hg; omega)⟩
      · rw [List.nil_append, hl]
      · rw [List.nil_append, hl]; exact grownCap_ge w m 0 _
      · simp [size_zeroCells, Value.cells, hl]
        have := grownCap_ge w m 0 3
        omega
      · rw [List.nil_append, Array.toList_append, hl]
        have e : (zs.map (Value.int .i64)).toArray.toList.length = m := by simp [hl]
        rw [← e, List.take_left]
  · by_cases hroom : xs.length + m ≤ cap
    · have hfit : xs.length * i0.size + (zs.map (Value.int .i64)).length ≤ cur.size := by rw [hm1, hz1]; omega
      have hr := run_append_room (P := Try.prog) w 42 ty 3 i0 Try.underlying42 hi g xs.length cap cur hg ad m c _ hm1 hnews (oneI zs) hroom hfit
      rw [hz1, Nat.mul_one, hm1, hz1, Nat.mul_one] at hr
      refine ⟨_, _, hr, .inr ⟨g, cap, _, by rw [List.length_append, hl], hbg, setRow_heap w g cur _ _ _ hg, by rw [List.length_append, hl]; exact hroom, h2, ?_, ?_⟩, ⟨rfl, rfl, rfl, by simp, fun k _ hk => setRow_other w g k _ (fun e => hk (by simp [Value.ownBlock, e]))⟩, fun _ h => .inl h⟩
      · simp
        omega
      · rw [h4, List.length_append, List.map_append]
        have e : (xs.map (Value.int .i64) ++ zs.map (Value.int .i64)).length = xs.length + zs.length := by simp
        rw [List.toList_toArray, ← e, List.take_left]
    · have holds : ∀ j u, (xs.map (Value.int .i64))[j]? = some u → w.cell? ((⟨g, 0, none⟩ : Addr).add j) = some u := by
        obtain ⟨a, cp, e, hr⟩ := OwI.row (base := base) (.inr ⟨g, cap, cur, rfl, hbg, hg, h1, h2, h3, h4⟩ : OwI base w _ xs)
        simp only [Value.slice.injEq] at e
        obtain ⟨rfl, -, rfl⟩ := e
        exact rowI_news hr
      have hr := run_append_grow (P := Try.prog) w 42 ty 3 i0 _ Try.underlying42 hi hz0 ⟨g, 0, none⟩ xs.length cap _ (by rw [List.length_map, hz1, Nat.mul_one]) holds ad m c _ hm1 hnews (by omega) (by omega) (growslice_fits (by omega) (by rw [hz2]; omega))
      refine ⟨_, _, hr, .inr ⟨w.heap.size, _, _, ?_, hbase, heap_alloc_new w.drew _, ?_, grownCap_le_maxLen w (xs.length + m) cap 3 (by unfold maxLen; omega), ?_, ?_⟩, ⟨rfl, rfl, rfl, by simp, fun k hk _ => heap_alloc_old w.drew _ hk⟩, fun g hg => .inr (by simp only [Value.ownBlock, Option.some.injEq] at hg; omega)⟩
      · rw [List.length_append, hl]
      · rw [List.length_append, hl]; exact grownCap_ge w _ cap _
      · simp [size_zeroCells, Value.cells, hl]
        have := grownCap_ge w (xs.length + m) cap 3
        omega
      · rw [List.length_append, List.map_append]
        have e : (xs.map (Value.int .i64) ++ zs.map (Value.int .i64)).length = xs.length + zs.length := by simp
        simp only [Array.toList_append]
        rw [← e, List.take_left]

theorem append_owI {w : World} {ops : Array Oper} {rest : List Oper} {o : Oper} {a : Act} {Q : Exit → Act → World → Prop} (hgd : o.guard = none) (s x : Operand)
    (ho : o.op = .call { callee := .builtin .append, args := #[s, x], argTypes := #[42, 42] })
    (base : Nat) (v : Value) (xs : List Int) (hs : a.eval s = v) (hown : OwI base w v xs) (ad : Addr) (zs : List Int) (m c : Nat) (hx : a.eval x = .slice (some ad) m c) (hl : zs.length = m)
    (hnews : ∀ j u, (zs.map (Value.int .i64))[j]? = some u → w.cell? (ad.add j) = some u) (hsz : xs.length + m ≤ 2000000) (hbase : base ≤ w.heap.size)
    (h : ∀ v' w', OwI base w' v' (xs ++ zs) → w.grownBy w' v.ownBlock → (∀ g, v'.ownBlock = some g → v.ownBlock = some g ∨ w.heap.size ≤ g) → wpList Try.prog ops Q rest (a.put o.dst v') w') : wpList Try.prog ops Q (o :: rest) a w :=
  wpList_plain hgd fun _ hK => by
    obtain ⟨v', w', hr, h2, h3, h4⟩ := run_append_owI base o.type hown ad m c zs hl hnews hsz hbase
    unfold Oper.wp execOp
    simp only [ho, resolve, invoke, builtin, Sem.run_bind, Sem.run_pure, Result.andThen_ok, List.map_toArray, List.map_cons, List.map_nil, hs, hx, hr]
    exact hK _ _ (h v' w' h2 h3 h4)

/-- Nothing put behind it. -/
theorem append_owI_none {w : World} {ops : Array Oper} {rest : List Oper} {o : Oper} {a : Act} {Q : Exit → Act → World → Prop} (hgd : o.guard = none) (s x : Operand)
    (ho : o.op = .call { callee := .builtin .append, args := #[s, x], argTypes := #[42, 42] })
    (base : Nat) (v : Value) (xs : List Int) (hs : a.eval s = v) (hown : OwI base w v xs) (hx : a.eval x = .slice none 0 0)
    (h : wpList Try.prog ops Q rest (a.put o.dst v) w) : wpList Try.prog ops Q (o :: rest) a w :=
  wpList_plain hgd fun _ hK => by
    obtain ⟨i0, hi, hz0, hz1, hz2⟩ := info_parts info3
    have hr : (Builtin.append_ #[42, 42] o.type #[v, .slice none 0 0]).run Try.prog w = .ok v w := by
      rcases hown with ⟨rfl, rfl⟩ | ⟨g, cap, cur, rfl, hbg, hg, h1, h2, h3, h4⟩
      · simp [Builtin.append_, run_underlying Try.underlying42, sizeOf, typeInfo, hi, Builtin.lenOf, Builtin.firstCells]
      · simp [Builtin.append_, run_underlying Try.underlying42, sizeOf, typeInfo, hi, Builtin.lenOf, Builtin.firstCells, h1, storeCells]
    unfold Oper.wp execOp
    simp only [ho, resolve, invoke, builtin, Sem.run_bind, Sem.run_pure, Result.andThen_ok, List.map_toArray, List.map_cons, List.map_nil, hs, hx, hr]
    exact hK _ _ h

theorem rowI_one (w : World) (z : Int) : ∀ (j : Nat) (u : Value), ([z].map (Value.int .i64))[j]? = some u → (w.alloc (.cells #[.int .i64 z] 3)).cell? ((⟨w.heap.size, 0, none⟩ : Addr).add j) = some u := by
  intro j u hj
  match j, hj with
  | 0, hj => simp at hj; subst hj; simp [Addr.add]
end Go.Proofs.Ytehomchhflhmbaa.Oct
