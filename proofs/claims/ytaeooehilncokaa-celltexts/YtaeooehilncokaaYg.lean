/-
  Rows of pieces and of kids in memory.
-/
import Derived.Test.YtaeooehilncokaaYf
import Derived.Deep.Slices
import Derived.ChangeSame
import Derived.ProofKit
namespace Go.Proofs.Ytaeooehilncokaa.Oct
open Go.RowKit Go.ChangeShapes Go.WideShapes

def wf1 (x : Int) : Prop := -9223372036854775808 ≤ x ∧ x ≤ 9223372036854775807
def wfC (q : C4) : Prop := wf1 q.a ∧ wf1 q.b ∧ wf1 q.c ∧ wf1 q.d

theorem wfC_ok {t : Bool} {q : C4} (h : okC t q = true) : wfC q := by
  obtain ⟨h0, h1, h2, h3, _⟩ := okC_bd h
  refine ⟨?_, ?_, ?_, ?_⟩ <;> unfold wf1 <;> omega

/-- Four numbers in memory. -/
def At4 (w : World) (b o : Nat) (q : C4) : Prop :=
  w.cell? ⟨b, o, none⟩ = some (.int .i64 q.a) ∧ w.cell? ⟨b, o + 1, none⟩ = some (.int .i64 q.b) ∧ w.cell? ⟨b, o + 2, none⟩ = some (.int .i64 q.c) ∧ w.cell? ⟨b, o + 3, none⟩ = some (.int .i64 q.d)

theorem At4.same {w w1 : World} {b o : Nat} {q : C4} (h : At4 w b o q) (k : w1.heap[b]? = w.heap[b]?) : At4 w1 b o q :=
  ⟨(World.cell?_of_block k).trans h.1, (World.cell?_of_block k).trans h.2.1, (World.cell?_of_block k).trans h.2.2.1, (World.cell?_of_block k).trans h.2.2.2⟩
theorem At4.lt {w : World} {b o : Nat} {q : C4} (h : At4 w b o q) : b < w.heap.size := block_lt_of_cell h.1
theorem At4.below {w w1 : World} {b o : Nat} {q : C4} (h : At4 w b o q) (k : Below w.heap.size w w1) : At4 w1 b o q := h.same (k.block b h.lt)

def RowC (w : World) (a : Option Addr) (cap : Nat) (l : List C4) : Prop :=
  (∀ q ∈ l, wfC q) ∧ l.length ≤ cap ∧ cap ≤ maxLen ∧ (l = [] ∨ ∃ b off, a = some ⟨b, off, none⟩ ∧ ∀ i, i < l.length → At4 w b (off + i * 4) (l.getD i c40))

theorem RowC.below {w w' : World} {a : Option Addr} {cap : Nat} {l : List C4} (h : RowC w a cap l) (k : Below w.heap.size w w') : RowC w' a cap l := by
  obtain ⟨h1, h2, h3, h4⟩ := h
  refine ⟨h1, h2, h3, ?_⟩
  rcases h4 with h4 | ⟨b, off, ha, hc⟩
  · exact .inl h4
  · exact .inr ⟨b, off, ha, fun i hi => (hc i hi).below k⟩

theorem RowC.some' {w : World} {a : Option Addr} {cap : Nat} {l : List C4} (h : RowC w a cap l) (hl : 0 < l.length) : ∃ b off, a = some ⟨b, off, none⟩ := by
  rcases h.2.2.2 with h | ⟨b, off, rfl, _⟩
  · rw [h] at hl; exact absurd hl (by simp)
  · exact ⟨b, off, rfl⟩

theorem RowC.cells {w : World} {b off cap : Nat} {l : List C4} (h : RowC w (some ⟨b, off, none⟩) cap l) : ∀ i, i < l.length → At4 w b (off + i * 4) (l.getD i c40) := by
  intro i hi
  rcases h.2.2.2 with h | ⟨b', off', e, hc⟩
  · rw [h] at hi; exact absurd hi (by simp)
  · simp only [Option.some.injEq, Addr.mk.injEq, and_true] at e
    obtain ⟨rfl, rfl⟩ := e
    exact hc i hi

theorem getD_mem {l : List C4} {i : Nat} (hi : i < l.length) : l.getD i c40 ∈ l := by
  rw [List.getD_eq_getElem?_getD, List.getElem?_eq_getElem hi]
  exact List.getElem_mem hi

def vals4 (q : C4) : List Value := [.int .i64 q.a, .int .i64 q.b, .int .i64 q.c, .int .i64 q.d]

theorem vals_at : ∀ (l : List C4) (i j : Nat), i < l.length → j < 4 → (l.flatMap vals4)[i * 4 + j]? = some (.int .i64 (atC (l.getD i c40) j)) := by
  intro l
  induction l with
  | nil => intro i j hi; exact absurd hi (by simp)
  | cons q l ih =>
    intro i j hi hj
    rw [List.flatMap_cons]
    cases i with
    | zero =>
      rw [Nat.zero_mul, Nat.zero_add, List.getElem?_append_left (by simpa [vals4] using hj)]
      rcases four hj with rfl | rfl | rfl | rfl <;> rfl
    | succ i =>
      rw [List.getElem?_append_right (by simp [vals4]; omega), show (i + 1) * 4 + j - (vals4 q).length = i * 4 + j by simp [vals4]; omega, ih i j (by simpa using hi) hj]
      rfl

theorem vals_len (l : List C4) : (l.flatMap vals4).length = l.length * 4 := by
  induction l with
  | nil => rfl
  | cons q l ih => rw [List.flatMap_cons, List.length_append, ih]; simp [vals4]; omega

/-- The call's own row. -/
def OwnC (ty base : Nat) (w : World) (v : Value) (l : List C4) : Prop := w.ownsRow base ty 4 v l.length (l.flatMap vals4)

theorem ownC_nil (ty base : Nat) (w : World) : OwnC ty base w (.slice none 0 0) [] := World.ownsRow_nil w base ty 4

theorem OwnC.weaken {ty base b : Nat} {w : World} {v : Value} {l : List C4} (h : OwnC ty base w v l) (k : b ≤ base) : OwnC ty b w v l := by
  obtain ⟨h1, h2 | ⟨g, cap, cur, e, hg, r⟩⟩ := h
  · exact ⟨h1, .inl h2⟩
  · exact ⟨h1, .inr ⟨g, cap, cur, e, by omega, r⟩⟩

theorem OwnC.below' {ty base : Nat} {w w1 : World} {v : Value} {l : List C4} (h : OwnC ty base w v l) (k : Below w.heap.size w w1) : OwnC ty base w1 v l := by
  obtain ⟨h1, h2 | ⟨g, cap, cur, e, hg, hc, r⟩⟩ := h
  · exact ⟨h1, .inl h2⟩
  · have hl : g < w.heap.size := by
      by_cases hl : g < w.heap.size
      · exact hl
      · rw [Array.getElem?_eq_none (by omega)] at hc
        cases hc
    exact ⟨h1, .inr ⟨g, cap, cur, e, hg, (k.block g hl).trans hc, r⟩⟩

theorem OwnC.row {ty base : Nat} {w : World} {v : Value} {l : List C4} (h : OwnC ty base w v l) (hw : ∀ q ∈ l, wfC q) : ∃ a cap, v = .slice a l.length cap ∧ RowC w a cap l ∧ (a = none → cap = 0) := by
  obtain ⟨_, ⟨rfl, h0⟩ | ⟨g, cap, cur, rfl, hg, hc, hn, hm, hs, ht⟩⟩ := id h
  · exact ⟨none, 0, by rw [h0], ⟨hw, by omega, by simp [maxLen], .inl (List.eq_nil_of_length_eq_zero h0)⟩, fun _ => rfl⟩
  · refine ⟨_, cap, rfl, ⟨hw, hn, hm, .inr ⟨g, 0, rfl, fun i hi => ?_⟩⟩, fun e => by cases e⟩
    have key : ∀ j, j < 4 → w.cell? ⟨g, i * 4 + j, none⟩ = some (.int .i64 (atC (l.getD i c40) j)) := fun j hj => by
      have := World.ownsRow.cells h (g := g) rfl (i * 4 + j) _ (vals_at l i j hi hj)
      rwa [Addr.add_lit, Nat.zero_add] at this
    rw [Nat.zero_add]
    exact ⟨key 0 (by omega), key 1 (by omega), key 2 (by omega), key 3 (by omega)⟩

theorem OwnC.row' {ty base n cap : Nat} {a : Option Addr} {w : World} {l : List C4} (h : OwnC ty base w (.slice a n cap) l) (hw : ∀ q ∈ l, wfC q) : n = l.length ∧ RowC w a cap l ∧ (a = none → cap = 0) := by
  obtain ⟨a', cap', e, hr⟩ := h.row hw
  simp only [Value.slice.injEq] at e
  obtain ⟨rfl, rfl, rfl⟩ := e
  exact ⟨rfl, hr⟩

def zero4 : Value := .agg #[.int .i64 0, .int .i64 0, .int .i64 0, .int .i64 0]
theorem infoP : (Try.prog.info? 30).map (fun i => (i.zero, i.size, i.bytes)) = some (some zero4, 4, 32) := by kernel_rfl
theorem infoK : (Try.prog.info? 71).map (fun i => (i.zero, i.size, i.bytes)) = some (some zero4, 4, 32) := by kernel_rfl

theorem vals_news {w : World} {B : Nat} {q : C4} (hq : At4 w B 0 q) : ∀ (j : Nat) (u : Value), (vals4 q)[j]? = some u → w.cell? ((⟨B, 0, none⟩ : Addr).add j) = some u := by
  intro j u hj
  have hlt : j < 4 := by have := (List.getElem?_eq_some_iff.1 hj).1; simpa [vals4] using this
  rw [Addr.add_lit, Nat.zero_add, ← hj]
  obtain ⟨h0, h1, h2, h3⟩ := hq
  rcases four hlt with rfl | rfl | rfl | rfl
  · exact h0
  · exact h1
  · exact h2
  · exact h3

theorem append_c4 (tS tE : TypeId) (hu : Try.prog.underlying tS = some (.slice tE)) (hinfo : (Try.prog.info? tE).map (fun i => (i.zero, i.size, i.bytes)) = some (some zero4, 4, 32))
    {w : World} {ops : Array Oper} {rest : List Oper} {o : Oper} {a : Act} {Q : Exit → Act → World → Prop} (hgd : o.guard = none) (s x : Operand)
    (ho : o.op = .call { callee := .builtin .append, args := #[s, x], argTypes := #[tS, tS] })
    (base : Nat) (v : Value) (l : List C4) (hs : a.eval s = v) (hown : OwnC tE base w v l) (q : C4) (B : Nat) (hx : a.eval x = .slice (some ⟨B, 0, none⟩) 1 1) (hq : At4 w B 0 q)
    (hsz : l.length ≤ 1000000) (hbase : base ≤ w.heap.size)
    (h : ∀ b c w', OwnC tE base w' (.slice b (l.length + 1) c) (l ++ [q]) → Below base w w' → wpList Try.prog ops Q rest (a.put o.dst (.slice b (l.length + 1) c)) w') : wpList Try.prog ops Q (o :: rest) a w := by
  obtain ⟨i0, hi, hz0, hz1, hz2⟩ := info_parts hinfo
  refine wpList_append_own w hgd s x tS ho base tE i0 zero4 4 32 hu hi hz0 hz1 hz2 rfl (by decide) v _ _ hs hown ⟨B, 0, none⟩ 1 1 (vals4 q) hx rfl (vals_news hq) (by intro u hu; simp [vals4] at hu; rcases hu with rfl | rfl | rfl | rfl <;> rfl) (by unfold maxLen; omega) (by omega) hbase ?_
  intro v' w' h1 h2 _
  have h1' : OwnC tE base w' v' (l ++ [q]) := by
    unfold OwnC
    rw [List.length_append, List.flatMap_append]
    simpa using h1
  have hsl : ∃ b c, v' = .slice b (l.length + 1) c := by
    rcases h1'.2 with ⟨rfl, h0⟩ | ⟨g, cap, cur, rfl, _⟩
    · simp at h0
    · exact ⟨_, _, by rw [List.length_append]; rfl⟩
  obtain ⟨b, c, rfl⟩ := hsl
  exact h b c w' h1' ((Below.refl base w).grown h2 hbase (fun j hj => (World.ownsRow.lt hown j hj).1))
end Go.Proofs.Ytaeooehilncokaa.Oct
