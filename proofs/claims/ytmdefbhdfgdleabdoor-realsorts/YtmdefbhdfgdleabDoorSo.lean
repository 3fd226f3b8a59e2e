/-
  Rows of floats of the call's own; a list put in order, plainly.
-/
import Derived.Test.YtmdefbhdfgdleabDoorRf
import Derived.Laws.AppendOwnNone
import Derived.Laws.OwnMore
namespace Go.Proofs.YtmdefbhdfgdleabDoor.Oct
open Go.RowKit
open Go.Proofs.YtmdefbhdfgdleabDoor.Fl

@[go_sem] theorem run_store_float {P : Program} {w : World} {a : Addr} {m : Mode} (k : FloatKind) (b : Nat) : (store a (.float k b) m).run P w = stored P w a (.float k b) m := run_store P w a _ m rfl

/-- The call's own row of floats. -/
def OwnF (base : Nat) (w : World) (v : Value) (zs : List Nat) : Prop := w.ownsRow base 25 1 v zs.length (zs.map (Value.float .f64))

theorem ownF_at {base g n cap : Nat} {w : World} {zs : List Nat} (h : OwnF base w (.slice (some ⟨g, 0, none⟩) n cap) zs) (hn : n = zs.length) (j : Nat) (hj : j < zs.length) :
    base ≤ g ∧ w.cell? ⟨g, j, none⟩ = some (.float .f64 (zs.getD j 0)) ∧ w.frozen? ⟨g, j, none⟩ = false ∧
      ∀ y : Nat, OwnF base (w.setCell ⟨g, j, none⟩ (.float .f64 y)) (.slice (some ⟨g, 0, none⟩) n cap) (zs.set j y) := by
  subst hn
  refine ⟨(World.ownsRow.lt h g rfl).1, ?_, World.ownsRow.frozenAt h j, fun y => ?_⟩
  · rw [World.ownsRow.cellAt h j (by omega)]; simp [hj]
  · have := World.ownsRow.stored h j (.float .f64 y)
    unfold OwnF
    rw [List.length_set, List.map_set]
    exact this.1

theorem infoF : (Tryd.prog.info? 25).map (fun i => (i.zero, i.size, i.bytes)) = some (some (.float .f64 0), 1, 8) := by kernel_rfl

theorem rowF_news {w : World} {ad : Addr} {c : Nat} {zs : List Nat} (h : RowF w (some ad) c zs) : ∀ (j : Nat) (u : Value), (zs.map (Value.float .f64))[j]? = some u → w.cell? (ad.add j) = some u := by
  intro j u hj
  rw [List.getElem?_map] at hj
  have hlt : j < zs.length := by
    by_cases hlt : j < zs.length
    · exact hlt
    · rw [List.getElem?_eq_none (by omega)] at hj; exact absurd hj (by simp)
  rcases h.2.2.2 with h | ⟨b, off, e, hc⟩
  · rw [h] at hlt; exact absurd hlt (by simp)
  · simp only [Option.some.injEq] at e
    subst e
    have e2 : (⟨b, off, none⟩ : Addr).add j = ⟨b, off + j, none⟩ := by simp [Addr.add]
    rw [e2, hc j hlt, ← hj, List.getD_eq_getElem?_getD, List.getElem?_eq_getElem hlt]
    rfl

theorem oneF_cells (zs : List Nat) : ∀ u ∈ zs.map (Value.float .f64), u.oneCell' = true := by
  intro u hu
  obtain ⟨z, _, rfl⟩ := List.mem_map.1 hu
  rfl

theorem append_rowF {w : World} {ops : Array Oper} {rest : List Oper} {o : Oper} {a : Act} {Q : Exit → Act → World → Prop} (hgd : o.guard = none) (s x : Operand)
    (ho : o.op = .call { callee := .builtin .append, args := #[s, x], argTypes := #[22, 22] })
    (base : Nat) (v : Value) (xs : List Nat) (hs : a.eval s = v) (hown : OwnF base w v xs) (ad : Addr) (zs : List Nat) (c : Nat) (hx : a.eval x = .slice (some ad) zs.length c)
    (hrow : RowF w (some ad) c zs) (hsz : xs.length + zs.length ≤ 1000000) (hbase : base ≤ w.heap.size)
    (h : ∀ v' w', OwnF base w' v' (xs ++ zs) → Below base w w' → wpList Tryd.prog ops Q rest (a.put o.dst v') w') : wpList Tryd.prog ops Q (o :: rest) a w := by
  obtain ⟨i0, hi, hz0, hz1, hz2⟩ := info_parts infoF
  refine wpList_append_own w hgd s x 22 ho base 25 i0 (.float .f64 0) 1 8 Tryd.underlying22 hi hz0 hz1 hz2 rfl (by decide) v _ _ hs hown ad _ c (zs.map (Value.float .f64)) hx (by simp) (rowF_news hrow) (oneF_cells zs) (by unfold maxLen; omega) (by omega) hbase ?_
  intro v' w' h1 h2 _
  refine h v' w' ?_ ((Below.refl base w).grown h2 hbase (fun j hj => (World.ownsRow.lt hown j hj).1))
  unfold OwnF
  rw [List.length_append, List.map_append]
  exact h1

theorem bel_drewN (B : Nat) (w : World) (n : Nat) : Below B w (w.drewN n) := by
  induction n with
  | zero => exact Below.refl B w
  | succ n ih => exact Below.drew ih

theorem compare_q (a b : Nat) (w : World) (n : Nat) (ha : a < 2 ^ 64) (hb : b < 2 ^ 64) :
    Calls Tryd.prog 5 #[.float .f64 a, .float .f64 b] (w.drewN n) fun e w'' => e = .returned (.int .i64 (c3 (rk a) (rk b))) ∧ ∃ m, w'' = w.drewN m :=
  Calls.quiet_of_same ((compare_any a b (w.drewN n) ha hb).mono fun _ _ h => ⟨h.1, h.2.symm⟩)

/-- In order up to the place i. -/
def Upto (zs : List Nat) (i : Nat) : Prop := ∀ j, j + 1 < i → rk (zs.getD j 0) ≤ rk (zs.getD (j + 1) 0)
/-- In order up to the place i itself but at the place k. -/
def But (zs : List Nat) (i k : Nat) : Prop := (∀ j, j + 1 ≤ i → j + 1 ≠ k → rk (zs.getD j 0) ≤ rk (zs.getD (j + 1) 0)) ∧ (k < i → 0 < k → rk (zs.getD (k - 1) 0) ≤ rk (zs.getD (k + 1) 0))

theorem But.first {zs : List Nat} {i : Nat} (h : Upto zs i) : But zs i i :=
  ⟨fun j h1 h2 => h j (by omega), fun h1 => by omega⟩

theorem But.done {zs : List Nat} {i k : Nat} (h : But zs i k) (hk : k = 0 ∨ rk (zs.getD (k - 1) 0) ≤ rk (zs.getD k 0)) : Upto zs (i + 1) := by
  intro j hj
  by_cases e : j + 1 = k
  · subst e
    rcases hk with hk | hk
    · omega
    · simpa using hk
  · exact h.1 j (by omega) e

/-- Two exchanged. -/
def swp (zs : List Nat) (k : Nat) : List Nat := (zs.set k (zs.getD (k - 1) 0)).set (k - 1) (zs.getD k 0)

theorem set_at (zs : List Nat) (i j y : Nat) (hi : i < zs.length) : (zs.set i y).getD j 0 = if i = j then y else zs.getD j 0 := by
  simp only [List.getD_eq_getElem?_getD, List.getElem?_set]
  by_cases h : i = j
  · subst h; simp [hi]
  · simp [h]

theorem swp_at (zs : List Nat) (k j : Nat) (hk : k < zs.length) (h0 : 0 < k) : (swp zs k).getD j 0 = if j = k - 1 then zs.getD k 0 else if j = k then zs.getD (k - 1) 0 else zs.getD j 0 := by
  unfold swp
  rw [set_at _ _ _ _ (by rw [List.length_set]; omega), set_at _ _ _ _ hk]
  by_cases h1 : j = k - 1
  · rw [if_pos h1.symm, if_pos h1]
  · rw [if_neg (Ne.symm h1), if_neg h1]
    by_cases h2 : j = k
    · rw [if_pos h2.symm, if_pos h2]
    · rw [if_neg (Ne.symm h2), if_neg h2]

theorem swp_len (zs : List Nat) (k : Nat) : (swp zs k).length = zs.length := by simp [swp]

theorem swp_lt {zs : List Nat} (h : ∀ n ∈ zs, n < 2 ^ 64) (k : Nat) : ∀ n ∈ swp zs k, n < 2 ^ 64 := by
  intro n hn
  unfold swp at hn
  rcases List.mem_or_eq_of_mem_set hn with h1 | h1
  · rcases List.mem_or_eq_of_mem_set h1 with h2 | h2
    · exact h n h2
    · rw [h2]; exact at_lt h _
  · rw [h1]; exact at_lt h _

theorem But.swap {zs : List Nat} {i k : Nat} (h : But zs i k) (hk : k ≤ i) (hi : i < zs.length) (h0 : 0 < k) (hl : rk (zs.getD k 0) < rk (zs.getD (k - 1) 0)) : But (swp zs k) i (k - 1) := by
  have at' := fun j => swp_at zs k j (by omega) h0
  constructor
  · intro j hj hne
    rw [at', at']
    by_cases e1 : j = k - 1
    · subst e1
      rw [if_pos rfl, show k - 1 + 1 = k by omega, if_neg (by omega), if_pos rfl]; omega
    · rw [if_neg e1]
      by_cases e2 : j = k
      · subst e2
        rw [if_pos rfl, if_neg (by omega), if_neg (by omega)]
        exact h.2 (by omega) h0
      · rw [if_neg e2, if_neg (by omega), if_neg (by omega)]
        exact h.1 j hj (by omega)
  · intro h1 h2
    rw [at', at', if_neg (by omega), if_neg (by omega), show k - 1 + 1 = k by omega, if_neg (by omega), if_pos rfl]
    have := h.1 (k - 1 - 1) (by omega) (by omega)
    rwa [show k - 1 - 1 + 1 = k - 1 by omega] at this

end Go.Proofs.YtmdefbhdfgdleabDoor.Oct
