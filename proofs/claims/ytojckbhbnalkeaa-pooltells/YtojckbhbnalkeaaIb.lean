/-
  A pool in memory: its frames in a ring.
-/
import Derived.Test.YtojckbhbnalkeaaIa
namespace Go.Proofs.Ytojckbhbnalkeaa.Oct
open Go.RowKit

/-- The ring, from its end round to its end. -/
def cyc (e : Nat) (bs : List Nat) (i : Nat) : Nat := (e :: (bs ++ [e])).getD i e

theorem cyc_zero (e : Nat) (bs : List Nat) : cyc e bs 0 = e := rfl
theorem cyc_end (e : Nat) (bs : List Nat) : cyc e bs (bs.length + 1) = e := by simp [cyc, List.getD_eq_getElem?_getD]
theorem cyc_succ (e : Nat) (bs : List Nat) (i : Nat) (hi : i < bs.length) : cyc e bs (i + 1) = bs.getD i e := by
  simp [cyc, List.getD_eq_getElem?_getD, List.getElem?_append_left hi]
theorem cyc_mem (e : Nat) (bs : List Nat) (i : Nat) : cyc e bs i ∈ e :: bs := by
  rcases i with _ | i
  · simp [cyc_zero]
  · by_cases hi : i < bs.length
    · rw [cyc_succ _ _ _ hi, List.getD_eq_getElem?_getD, List.getElem?_eq_getElem hi]
      exact List.mem_cons_of_mem _ (List.getElem_mem hi)
    · simp only [cyc, List.getD_eq_getElem?_getD, List.getElem?_cons_succ, List.getElem?_append_right (by omega : bs.length ≤ i)]
      cases h : i - bs.length <;> simp

theorem cyc_inj {e : Nat} {bs : List Nat} (hn : (e :: bs).Nodup) {i j : Nat} (hi : i ≤ bs.length) (hj : j ≤ bs.length) (h : cyc e bs i = cyc e bs j) : i = j := by
  have key : ∀ k, k ≤ bs.length → cyc e bs k = (e :: bs).getD k e := by
    intro k hk
    rcases k with _ | k
    · rfl
    · rw [cyc_succ _ _ _ (by omega)]; rfl
  rw [key i hi, key j hj, List.getD_eq_getElem?_getD, List.getD_eq_getElem?_getD, List.getElem?_eq_getElem (by simp; omega), List.getElem?_eq_getElem (by simp; omega)] at h
  have hp := List.pairwise_iff_getElem.1 hn
  simp only [Option.getD_some] at h
  rcases Nat.lt_trichotomy i j with h1 | h1 | h1
  · exact absurd h (hp i j _ _ h1)
  · exact h1
  · exact absurd h.symm (hp j i _ _ h1)

theorem getD_erase (bs : List Nat) (e i j : Nat) : (bs.eraseIdx i).getD j e = if j < i then bs.getD j e else bs.getD (j + 1) e := by
  simp only [List.getD_eq_getElem?_getD, List.getElem?_eraseIdx]
  split <;> rfl

theorem cyc_erase (e : Nat) (bs : List Nat) (i j : Nat) (hi : i < bs.length) (hj : j ≤ bs.length) : cyc e (bs.eraseIdx i) j = if j ≤ i then cyc e bs j else cyc e bs (j + 1) := by
  have hl : (bs.eraseIdx i).length = bs.length - 1 := List.length_eraseIdx_of_lt hi
  rcases j with _ | j
  · simp [cyc_zero]
  · by_cases hj' : j < bs.length - 1
    · rw [cyc_succ _ _ _ (by omega), getD_erase]
      by_cases h : j < i
      · rw [if_pos h, if_pos (by omega), cyc_succ _ _ _ (by omega)]
      · rw [if_neg h, if_neg (by omega), cyc_succ _ _ _ (by omega)]
    · have e1 : j + 1 = (bs.eraseIdx i).length + 1 := by omega
      rw [e1, cyc_end, if_neg (by omega), show (bs.eraseIdx i).length + 1 + 1 = bs.length + 1 by omega, cyc_end]

theorem cyc_snoc (e : Nat) (bs : List Nat) (g j : Nat) (hj : j ≤ bs.length) : cyc e (bs ++ [g]) j = cyc e bs j := by
  rcases j with _ | j
  · rfl
  · rw [cyc_succ _ _ _ (by simp; omega), cyc_succ _ _ _ (by omega)]
    simp [List.getD_eq_getElem?_getD, List.getElem?_append_left (show j < bs.length by omega)]
theorem cyc_snoc1 (e : Nat) (bs : List Nat) (g : Nat) : cyc e (bs ++ [g]) (bs.length + 1) = g := by
  rw [cyc_succ _ _ _ (by simp)]
  simp [List.getD_eq_getElem?_getD]
theorem cyc_snoc2 (e : Nat) (bs : List Nat) (g : Nat) : cyc e (bs ++ [g]) (bs.length + 2) = e := by
  have := cyc_end e (bs ++ [g])
  simpa using this

/-- One value is another one. -/
def upF {α : Type} (f : Nat → α) (g : Nat) (v : α) : Nat → α := fun x => if x = g then v else f x
theorem upF_same {α : Type} (f : Nat → α) (g : Nat) (v : α) : upF f g v g = v := by simp [upF]
theorem upF_other {α : Type} (f : Nat → α) {g x : Nat} (v : α) (h : x ≠ g) : upF f g v x = f x := by simp [upF, h]

/-- Links that make a ring. -/
def Ring (e : Nat) (bs : List Nat) (ol nw : Nat → Nat) : Prop := ∀ i, i ≤ bs.length → nw (cyc e bs i) = cyc e bs (i + 1) ∧ ol (cyc e bs (i + 1)) = cyc e bs i

theorem Ring.out {e : Nat} {bs : List Nat} {ol nw : Nat → Nat} (h : Ring e bs ol nw) (hn : (e :: bs).Nodup) (i : Nat) (hi : i < bs.length) :
    Ring e (bs.eraseIdx i) (upF ol (cyc e bs (i + 2)) (cyc e bs i)) (upF nw (cyc e bs i) (cyc e bs (i + 2))) := by
  have hl : (bs.eraseIdx i).length = bs.length - 1 := List.length_eraseIdx_of_lt hi
  have hinj := fun {a b : Nat} (ha : a ≤ bs.length) (hb : b ≤ bs.length) (hab : cyc e bs a = cyc e bs b) => cyc_inj hn ha hb hab
  have hend : cyc e bs (bs.length + 1) = cyc e bs 0 := by rw [cyc_end, cyc_zero]
  have inj2 : ∀ {a b : Nat}, 1 ≤ a → 1 ≤ b → a ≤ bs.length + 1 → b ≤ bs.length + 1 → cyc e bs a = cyc e bs b → a = b := by
    intro a b h1 h2 h3 h4 hab
    by_cases ha : a = bs.length + 1
    · by_cases hb : b = bs.length + 1
      · omega
      · rw [ha, hend] at hab; have := hinj (by omega) (by omega) hab; omega
    · by_cases hb : b = bs.length + 1
      · rw [hb, hend] at hab; have := hinj (by omega) (by omega) hab; omega
      · exact hinj (by omega) (by omega) hab
  intro j hj
  rw [hl] at hj
  rw [cyc_erase _ _ _ _ hi (by omega), cyc_erase _ _ _ _ hi (by omega)]
  by_cases h1 : j < i
  · rw [if_pos (by omega), if_pos (by omega)]
    refine ⟨?_, ?_⟩
    · rw [upF_other _ _ (fun e1 => by have := hinj (by omega) (by omega) e1; omega)]; exact (h j (by omega)).1
    · rw [upF_other _ _ (fun e1 => by have := inj2 (by omega) (by omega) (by omega) (by omega) e1; omega)]; exact (h j (by omega)).2
  · by_cases h2 : j = i
    · subst h2
      rw [if_pos (by omega), if_neg (by omega)]
      exact ⟨upF_same _ _ _, upF_same _ _ _⟩
    · rw [if_neg (by omega), if_neg (by omega)]
      refine ⟨?_, ?_⟩
      · rw [upF_other _ _ (fun e1 => by have := hinj (by omega) (by omega) e1; omega)]; exact (h (j + 1) (by omega)).1
      · rw [upF_other _ _ (fun e1 => by have := inj2 (by omega) (by omega) (by omega) (by omega) e1; omega)]; exact (h (j + 1) (by omega)).2

theorem Ring.snoc {e : Nat} {bs : List Nat} {ol nw : Nat → Nat} (h : Ring e bs ol nw) (hn : (e :: bs).Nodup) (g : Nat) (hg : g ∉ e :: bs) :
    Ring e (bs ++ [g]) (upF (upF ol g (cyc e bs bs.length)) e g) (upF (upF nw g e) (cyc e bs bs.length) g) := by
  have hne : ∀ k, cyc e bs k ≠ g := fun k e1 => hg (e1 ▸ cyc_mem e bs k)
  intro j hj
  simp only [List.length_append, List.length_cons, List.length_nil, Nat.zero_add] at hj
  by_cases h1 : j < bs.length
  · rw [cyc_snoc _ _ _ _ (by omega), cyc_snoc _ _ _ _ (by omega)]
    have h0 : cyc e bs (j + 1) ≠ e := fun e1 => by have := cyc_inj hn (i := j + 1) (j := 0) (by omega) (by omega) e1; omega
    refine ⟨?_, ?_⟩
    · rw [upF_other _ _ (fun e1 => by have := cyc_inj hn (by omega) (by omega) e1; omega), upF_other _ _ (hne _)]; exact (h j (by omega)).1
    · rw [upF_other _ _ h0, upF_other _ _ (hne _)]; exact (h j (by omega)).2
  · by_cases h2 : j = bs.length
    · subst h2
      rw [cyc_snoc _ _ _ _ (by omega), cyc_snoc1]
      refine ⟨upF_same _ _ _, ?_⟩
      rw [upF_other _ _ (fun e1 => hg (by rw [e1]; simp)), upF_same]
    · have h3 : j = bs.length + 1 := by omega
      subst h3
      rw [cyc_snoc1, cyc_snoc2]
      refine ⟨?_, upF_same _ _ _⟩
      rw [upF_other _ _ (fun e1 => hne _ e1.symm), upF_same]

/-- The pages of a ring, and their frames. -/
def psOf (bs : List Nat) (fr : Nat → Fr) : List (Nat × Nat) := bs.map fun g => ((fr g).page, g)

/-- A pool in memory, block by block. -/
structure PoolC (w : World) (p d m e N np : Nat) (bs : List Nat) (fr : Nat → Fr) (ol nw : Nat → Nat) : Prop where
  cells : w.heap[p]? = some (.cells #[.pointer (some ⟨d, 0, none⟩), .int .i64 N, .map (some m), .pointer (some ⟨e, 0, none⟩)] 56 (0, 0))
  held : Held w m (psOf bs fr)
  node : ∀ g ∈ e :: bs, Node w g (fr g) (ol g) (nw g)
  ring : Ring e bs ol nw
  ok : ∀ g ∈ e :: bs, (fr g).ok
  pg : ∀ g ∈ bs, (fr g).page < np
  ap : (p :: m :: e :: bs).Nodup
  n8 : 8 ≤ N
  n4 : N ≤ 4096
  len : bs.length ≤ N
  np4 : np ≤ 4096

theorem PoolC.apart {w : World} {p d m e N np : Nat} {bs : List Nat} {fr : Nat → Fr} {ol nw : Nat → Nat} (h : PoolC w p d m e N np bs fr ol nw) :
    p ≠ m ∧ p ∉ e :: bs ∧ m ∉ e :: bs ∧ (e :: bs).Nodup ∧ e ∉ bs ∧ bs.Nodup := by
  have := h.ap
  simp only [List.nodup_cons, List.mem_cons, not_or] at this
  obtain ⟨⟨a1, a2, a3⟩, ⟨b1, b2⟩, c1, c2⟩ := this
  refine ⟨a1, by simp [a2, a3], by simp [b1, b2], by simp [c1, c2], c1, c2⟩

/-- The facts that a walk over a pool wants. -/
theorem PoolC.at {w : World} {p d m e N np : Nat} {bs : List Nat} {fr : Nat → Fr} {ol nw : Nat → Nat} (h : PoolC w p d m e N np bs fr ol nw) :
    w.cell? ⟨p, 0, none⟩ = some (.pointer (some ⟨d, 0, none⟩)) ∧ w.cell? ⟨p, 1, none⟩ = some (.int .i64 N) ∧ w.cell? ⟨p, 2, none⟩ = some (.map (some m)) ∧ w.cell? ⟨p, 3, none⟩ = some (.pointer (some ⟨e, 0, none⟩)) := by
  have hc := h.cells
  refine ⟨?_, ?_, ?_, ?_⟩
  all_goals (rw [cell_of_row w p _ _ _ (0, 0) hc]; rfl)

/-- Its blocks. -/
def footP (p m e : Nat) (bs : List Nat) (k : Nat) : Prop := k = p ∨ k = m ∨ k ∈ e :: bs

theorem PoolC.keep {w w' : World} {p d m e N np : Nat} {bs : List Nat} {fr : Nat → Fr} {ol nw : Nat → Nat} (h : PoolC w p d m e N np bs fr ol nw) (k : ∀ g, footP p m e bs g → w'.heap[g]? = w.heap[g]?) : PoolC w' p d m e N np bs fr ol nw :=
  { h with
    cells := (k p (.inl rfl)).trans h.cells
    held := h.held.keep (k m (.inr (.inl rfl)))
    node := fun g hg => (h.node g hg).keep (k g (.inr (.inr hg))) }

theorem PoolC.lt {w : World} {p d m e N np : Nat} {bs : List Nat} {fr : Nat → Fr} {ol nw : Nat → Nat} (h : PoolC w p d m e N np bs fr ol nw) : ∀ g, footP p m e bs g → g < w.heap.size := by
  intro g hg
  rcases hg with rfl | rfl | hg
  · exact heap_lt h.cells
  · exact h.held.lt
  · exact heap_lt (h.node g hg)

/-- Some of the frames, or of their links, have turned. -/
theorem PoolC.re {w w' : World} {p d m e N np : Nat} {bs : List Nat} {fr fr' : Nat → Fr} {ol nw : Nat → Nat} (h : PoolC w p d m e N np bs fr ol nw)
    (hp : w'.heap[p]? = w.heap[p]?) (hm : w'.heap[m]? = w.heap[m]?) (hn : ∀ g ∈ e :: bs, Node w' g (fr' g) (ol g) (nw g)) (hok : ∀ g ∈ e :: bs, (fr' g).ok) (hpg : ∀ g, (fr' g).page = (fr g).page) : PoolC w' p d m e N np bs fr' ol nw :=
  { h with
    cells := hp.trans h.cells
    held := by
      have e1 : psOf bs fr' = psOf bs fr := by simp only [psOf]; exact List.map_congr_left (fun g _ => by rw [hpg])
      rw [e1]; exact h.held.keep hm
    node := hn
    ok := hok
    pg := fun g hg => by rw [hpg]; exact h.pg g hg }

theorem psOf_find {bs : List Nat} {fr : Nat → Fr} {k : Int} {g : Nat} (h : findP (psOf bs fr) k = some g) : g ∈ bs ∧ k = (fr g).page := by
  obtain ⟨pg, hk, hm⟩ := findP_some h
  simp only [psOf, List.mem_map, Prod.mk.injEq] at hm
  obtain ⟨g', hg', h1, h2⟩ := hm
  subst h2
  exact ⟨hg', by rw [hk, h1]⟩

/-- A pool beside its device: the device's blocks are others. -/
structure PD (w : World) (p d m e N : Nat) (Fd F : Nat → Prop) (D : Dv) (bs : List Nat) (fr : Nat → Fr) (ol nw : Nat → Nat) : Prop where
  dev : Dev w d Fd D
  pool : PoolC w p d m e N D.n bs fr ol nw
  fd : ∀ k, Fd k → F k ∧ ¬ footP p m e bs k
  fp : ∀ k, footP p m e bs k → F k
  flt : ∀ k, F k → k < w.heap.size

theorem PD.keep {w w' : World} {p d m e N : Nat} {Fd F : Nat → Prop} {D : Dv} {bs : List Nat} {fr : Nat → Fr} {ol nw : Nat → Nat} (h : PD w p d m e N Fd F D bs fr ol nw) (hs : w.heap.size ≤ w'.heap.size) (k : ∀ g, F g → w'.heap[g]? = w.heap[g]?) : PD w' p d m e N Fd F D bs fr ol nw :=
  ⟨h.dev.keep hs (fun g hg => k g (h.fd g hg).1), h.pool.keep (fun g hg => k g (h.fp g hg)), h.fd, h.fp, fun g hg => Nat.lt_of_lt_of_le (h.flt g hg) hs⟩

theorem PD.ch {w w' : World} {p d m e N : Nat} {Fd F G : Nat → Prop} {D : Dv} {bs : List Nat} {fr : Nat → Fr} {ol nw : Nat → Nat} (h : PD w p d m e N Fd F D bs fr ol nw) (hc : Ch w.heap.size G w w') (hd : ∀ k, F k → ¬ G k) : PD w' p d m e N Fd F D bs fr ol nw :=
  h.keep hc.size (fun g hg => hc.block g (h.flt g hg) (hd g hg))

theorem PD.below {w w' : World} {p d m e N : Nat} {Fd F : Nat → Prop} {D : Dv} {bs : List Nat} {fr : Nat → Fr} {ol nw : Nat → Nat} (h : PD w p d m e N Fd F D bs fr ol nw) (hc : Below w.heap.size w w') : PD w' p d m e N Fd F D bs fr ol nw :=
  h.ch (Ch.of (fun _ => False) hc) (fun _ _ h => h)

/-- The device has turned, and nothing of the pool. -/
theorem PD.turn {w w' : World} {p d m e N : Nat} {Fd F Fd' : Nat → Prop} {D D' : Dv} {bs : List Nat} {fr : Nat → Fr} {ol nw : Nat → Nat} (h : PD w p d m e N Fd F D bs fr ol nw)
    (h' : Dev w' d Fd' D') (hn : D'.n = D.n) (hs : Step Fd Fd' w w') : PD w' p d m e N Fd' (fun k => F k ∨ w.heap.size ≤ k ∧ k < w'.heap.size) D' bs fr ol nw ∧ Step F (fun k => F k ∨ w.heap.size ≤ k ∧ k < w'.heap.size) w w' := by
  have hlt := h.pool.lt
  have hsz := hs.1.size
  refine ⟨⟨h', ?_, fun k hk => ?_, fun k hk => .inl (h.fp k hk), fun k hk => ?_⟩, hs.1.mono (Nat.le_refl _) (fun k _ hk => (h.fd k hk).1), fun k hk => ?_⟩
  · rw [hn]
    exact h.pool.keep (fun g hg => hs.1.block g (hlt g hg) (fun e1 => (h.fd g e1).2 hg))
  · rcases hs.2 k hk with h1 | h1
    · exact ⟨.inl (h.fd k h1).1, (h.fd k h1).2⟩
    · exact ⟨.inr ⟨h1, h'.2.1 k hk⟩, fun e1 => by have := hlt k e1; omega⟩
  · rcases hk with hk | hk
    · have := h.flt k hk; omega
    · exact hk.2
  · rcases hk with hk | hk
    · exact .inl hk
    · exact .inr hk.1

/-- A pool with its device, plainly L. -/
def Pool (w : World) (p d : Nat) (F : Nat → Prop) (D : Dv) (N : Nat) (L : List Fr) : Prop :=
  ∃ (Fd : Nat → Prop) (m e : Nat) (bs : List Nat) (fr : Nat → Fr) (ol nw : Nat → Nat), PD w p d m e N Fd F D bs fr ol nw ∧ L = bs.map fr

theorem Pool.lt {w : World} {p d : Nat} {F : Nat → Prop} {D : Dv} {N : Nat} {L : List Fr} (h : Pool w p d F D N L) : ∀ k, F k → k < w.heap.size := by
  obtain ⟨Fd, m, e, bs, fr, ol, nw, h1, _⟩ := h
  exact h1.flt

theorem Pool.keep {w w' : World} {p d : Nat} {F : Nat → Prop} {D : Dv} {N : Nat} {L : List Fr} (h : Pool w p d F D N L) (hs : w.heap.size ≤ w'.heap.size) (k : ∀ g, F g → w'.heap[g]? = w.heap[g]?) : Pool w' p d F D N L := by
  obtain ⟨Fd, m, e, bs, fr, ol, nw, h1, h2⟩ := h
  exact ⟨Fd, m, e, bs, fr, ol, nw, h1.keep hs k, h2⟩

theorem Pool.ch {w w' : World} {p d : Nat} {F G : Nat → Prop} {D : Dv} {N : Nat} {L : List Fr} (h : Pool w p d F D N L) (hc : Ch w.heap.size G w w') (hd : ∀ k, F k → ¬ G k) : Pool w' p d F D N L :=
  h.keep hc.size (fun g hg => hc.block g (h.lt g hg) (hd g hg))

theorem Pool.below {w w' : World} {p d : Nat} {F : Nat → Prop} {D : Dv} {N : Nat} {L : List Fr} (h : Pool w p d F D N L) (hc : Below w.heap.size w w') : Pool w' p d F D N L :=
  h.ch (Ch.of (fun _ => False) hc) (fun _ _ h => h)
end Go.Proofs.Ytojckbhbnalkeaa.Oct
