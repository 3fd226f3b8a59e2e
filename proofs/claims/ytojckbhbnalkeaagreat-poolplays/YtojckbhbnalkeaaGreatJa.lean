/-
  The document's pool in memory: its frames in a row of structs.
-/
import Derived.Test.YtojckbhbnalkeaaGreatNi
import Derived.Test.YtojckbhbnalkeaaGreatIu
namespace Go.Proofs.YtojckbhbnalkeaaGreat.Oct
open Go.RowKit

theorem infoRF : (Tryz.prog.info? 81).map (fun i => (i.zero.map (·.cells.size), i.size, i.bytes)) = some (some 4, 4, 48) := by kernel_rfl
theorem partsRF : ∃ i z, Tryz.prog.info? 81 = some i ∧ i.zero = some z ∧ i.size = 4 ∧ i.bytes = 48 ∧ z.cells.size = 4 := by
  have h := infoRF
  cases hi : Tryz.prog.info? 81 with
  | none => rw [hi] at h; simp at h
  | some i =>
    rw [hi] at h
    simp only [Option.map_some, Option.some.injEq, Prod.mk.injEq] at h
    cases hz : i.zero with
    | none => rw [hz] at h; simp at h
    | some z =>
      rw [hz] at h
      simp only [Option.map_some, Option.some.injEq] at h
      exact ⟨i, z, rfl, hz, h.2.1, h.2.2, h.1⟩

/-- A frame of the document's, and where its bytes lie. -/
structure RF where
  f : Fr
  g : Nat
  c : Nat
def rf0 : RF := ⟨fr0, 0, 0⟩
def RF.bv (x : RF) : Value := .slice (some ⟨x.g, 0, none⟩) 256 x.c
def fcells (x : RF) : List Value := [.int .i64 x.f.page, .int .i64 x.f.pins, .bool x.f.dirty, x.bv]
def kcells (K : List RF) : List Value := K.flatMap fcells

theorem kcells_len (K : List RF) : (kcells K).length = K.length * 4 := by
  induction K with
  | nil => rfl
  | cons x K ih => unfold kcells at ih ⊢; rw [List.flatMap_cons, List.length_append, ih]; simp [fcells]; omega
theorem kcells_append (K K' : List RF) : kcells (K ++ K') = kcells K ++ kcells K' := by simp [kcells]
theorem kcells_take (K : List RF) (i : Nat) : kcells (K.take i) = (kcells K).take (i * 4) := by
  induction K generalizing i with
  | nil => simp [kcells]
  | cons x K ih =>
    cases i with
    | zero => simp [kcells]
    | succ i =>
      have := ih i
      unfold kcells at this ⊢
      rw [List.take_succ_cons, List.flatMap_cons, List.flatMap_cons, this, List.take_append, show (fcells x).length = 4 from rfl, List.take_of_length_le (show (fcells x).length ≤ (i + 1) * 4 by show 4 ≤ _; omega), show (i + 1) * 4 - 4 = i * 4 by omega]
theorem kcells_drop (K : List RF) (i : Nat) : kcells (K.drop i) = (kcells K).drop (i * 4) := by
  induction K generalizing i with
  | nil => simp [kcells]
  | cons x K ih =>
    cases i with
    | zero => simp [kcells]
    | succ i =>
      have := ih i
      unfold kcells at this ⊢
      rw [List.drop_succ_cons, List.flatMap_cons, this, List.drop_append, show (fcells x).length = 4 from rfl, List.drop_of_length_le (show (fcells x).length ≤ (i + 1) * 4 by show 4 ≤ _; omega), show (i + 1) * 4 - 4 = i * 4 by omega]
      rfl
theorem kcells_at (K : List RF) (i j : Nat) (hi : i < K.length) (hj : j < 4) : (kcells K)[i * 4 + j]? = (fcells (K.getD i rf0))[j]? := by
  induction K generalizing i with
  | nil => simp at hi
  | cons x K ih =>
    unfold kcells at ih ⊢
    rw [List.flatMap_cons]
    cases i with
    | zero => rw [Nat.zero_mul, Nat.zero_add, List.getElem?_append_left (show j < (fcells x).length from hj)]; rfl
    | succ i =>
      rw [List.getElem?_append_right (show (fcells x).length ≤ (i + 1) * 4 + j by show 4 ≤ _; omega), show (i + 1) * 4 + j - (fcells x).length = i * 4 + j by show (i + 1) * 4 + j - 4 = _; omega, ih i (by simpa using hi)]
      rfl
theorem kcells_set (K : List RF) (i j : Nat) (x : RF) (v : Value) (hi : i < K.length) (hj : j < 4) (h : fcells x = (fcells (K.getD i rf0)).set j v) : kcells (K.set i x) = (kcells K).set (i * 4 + j) v := by
  induction K generalizing i with
  | nil => simp at hi
  | cons y K ih =>
    cases i with
    | zero =>
      unfold kcells
      rw [List.set_cons_zero, List.flatMap_cons, List.flatMap_cons, h, Nat.zero_mul, Nat.zero_add, List.set_append_left _ _ (show j < (fcells y).length from hj)]
      rfl
    | succ i =>
      have := ih i (by simpa using hi) h
      unfold kcells at this ⊢
      rw [List.set_cons_succ, List.flatMap_cons, List.flatMap_cons, List.set_append_right _ _ (show (fcells y).length ≤ (i + 1) * 4 + j by show 4 ≤ _; omega), show (i + 1) * 4 + j - (fcells y).length = i * 4 + j by show (i + 1) * 4 + j - 4 = _; omega, this]
theorem kcells_one (K : List RF) : ∀ u ∈ kcells K, u.oneCell' = true := by
  intro u hu
  unfold kcells at hu
  obtain ⟨x, _, hx⟩ := List.mem_flatMap.1 hu
  simp [fcells, RF.bv] at hx
  rcases hx with rfl | rfl | rfl | rfl <;> rfl

/-- The document's pool, block by block. -/
structure RPC (w : World) (p q : Nat) (Fd : Nat → Prop) (vL : Value) (K : List RF) (D : Dv) (N : Nat) : Prop where
  cells : w.heap[p]? = some (.cells #[.pointer (some ⟨q, 0, none⟩), .int .i64 N, vL] 75 (0, 0))
  dev : RD w q Fd D
  row : w.ownsRow 0 81 4 vL K.length (kcells K)
  fr : ∀ x ∈ K, Own 0 w x.bv x.f.b ∧ x.f.b.length = 256
  fx : ∀ x ∈ K, x.g ≠ p ∧ ¬ Fd x.g ∧ vL.ownBlock ≠ some x.g
  dp : ¬ Fd p
  dL : ∀ g, vL.ownBlock = some g → ¬ Fd g ∧ g ≠ p

def footQ (p : Nat) (Fd : Nat → Prop) (vL : Value) (K : List RF) (k : Nat) : Prop := k = p ∨ Fd k ∨ vL.ownBlock = some k ∨ ∃ x ∈ K, x.g = k

/-- Its blocks are among F. -/
def RP (w : World) (p q : Nat) (F : Nat → Prop) (D : Dv) (N : Nat) (L : List Fr) : Prop :=
  (∀ k, F k → k < w.heap.size) ∧ ∃ Fd vL K, RPC w p q Fd vL K D N ∧ K.map (·.f) = L ∧ ∀ k, footQ p Fd vL K k → F k

section
variable {w w' : World} {p q : Nat} {Fd F : Nat → Prop} {vL : Value} {K : List RF} {D : Dv} {N : Nat} {L : List Fr}

theorem RPC.keep (h : RPC w p q Fd vL K D N) (hs : w.heap.size ≤ w'.heap.size) (k : ∀ g, footQ p Fd vL K g → w'.heap[g]? = w.heap[g]?) : RPC w' p q Fd vL K D N :=
  { h with
    cells := (k p (.inl rfl)).trans h.cells
    dev := h.dev.keep hs (fun g hg => k g (.inr (.inl hg)))
    row := owns_keep h.row (fun g hg => k g (.inr (.inr (.inl hg))))
    fr := fun x hx => ⟨(h.fr x hx).1.kept (k x.g (.inr (.inr (.inr ⟨x, hx, rfl⟩)))), (h.fr x hx).2⟩ }

theorem RPC.lt (h : RPC w p q Fd vL K D N) : ∀ k, footQ p Fd vL K k → k < w.heap.size := fun k hk => by
  rcases hk with rfl | hk | hk | ⟨x, hx, rfl⟩
  · exact (Array.getElem?_eq_some_iff.1 h.cells).1
  · exact h.dev.2.1 k hk
  · exact (World.ownsRow.lt h.row k hk).2
  · exact (h.fr x hx).1.lt2.2

theorem RP.keep (h : RP w p q F D N L) (hs : w.heap.size ≤ w'.heap.size) (k : ∀ g, F g → w'.heap[g]? = w.heap[g]?) : RP w' p q F D N L := by
  obtain ⟨h1, Fd, vL, K, h2, h3, h4⟩ := h
  exact ⟨fun g hg => Nat.lt_of_lt_of_le (h1 g hg) hs, Fd, vL, K, h2.keep hs (fun g hg => k g (h4 g hg)), h3, h4⟩
theorem RP.ch {G : Nat → Prop} (h : RP w p q F D N L) (hc : Ch w.heap.size G w w') (hd : ∀ k, F k → ¬ G k) : RP w' p q F D N L :=
  h.keep hc.size (fun g hg => hc.block g (h.1 g hg) (hd g hg))
theorem RP.below (h : RP w p q F D N L) (hc : Below w.heap.size w w') : RP w' p q F D N L :=
  h.ch (Ch.of (fun _ => False) hc) (fun _ _ h => h)

theorem RPC.at (h : RPC w p q Fd vL K D N) : w.cell? ⟨p, 0, none⟩ = some (.pointer (some ⟨q, 0, none⟩)) ∧ w.cell? ⟨p, 1, none⟩ = some (.int .i64 N) ∧ w.cell? ⟨p, 2, none⟩ = some vL ∧ ∀ i, w.frozen? ⟨p, i, none⟩ = false := by
  have hc := h.cells
  refine ⟨?_, ?_, ?_, fun i => ?_⟩
  all_goals first | (rw [cell_of_row w p _ _ _ (0, 0) hc]; rfl) | skip
  unfold World.frozen?
  rw [hc]
  simp

/-- The row of frames, opened. -/
theorem RPC.vl (h : RPC w p q Fd vL K D N) : ∃ a cap, vL = .slice a K.length cap ∧ K.length ≤ cap ∧ cap ≤ maxLen ∧ (a = none → K.length = 0 ∧ cap = 0) := by
  rcases h.row.2 with ⟨h1, h2⟩ | ⟨g, cap, cur, h1, h2, h3, h4, h5, h6, h7⟩
  · exact ⟨none, 0, by rw [h1, h2], by omega, by simp [maxLen], fun _ => ⟨h2, rfl⟩⟩
  · exact ⟨some ⟨g, 0, none⟩, cap, h1, h4, h5, fun e => by cases e⟩

theorem RPC.opened (h : RPC w p q Fd vL K D N) (hk : 0 < K.length) : ∃ g cap, vL = .slice (some ⟨g, 0, none⟩) K.length cap ∧ K.length ≤ cap ∧ cap ≤ maxLen ∧ g < w.heap.size ∧ (∀ i, w.frozen? ⟨g, i, none⟩ = false) ∧
    ∀ i, i < K.length → w.cell? ⟨g, i * 4, none⟩ = some (.int .i64 (K.getD i rf0).f.page) ∧ w.cell? ⟨g, i * 4 + 1, none⟩ = some (.int .i64 (K.getD i rf0).f.pins) ∧ w.cell? ⟨g, i * 4 + 2, none⟩ = some (.bool (K.getD i rf0).f.dirty) ∧ w.cell? ⟨g, i * 4 + 3, none⟩ = some (K.getD i rf0).bv := by
  rcases h.row.2 with ⟨h1, h2⟩ | ⟨g, cap, cur, h1, h2, h3, h4, h5, h6, h7⟩
  · omega
  · refine ⟨g, cap, h1, h4, h5, (Array.getElem?_eq_some_iff.1 h3).1, fun i => ?_, fun i hi => ?_⟩
    · unfold World.frozen?
      rw [h3]
      simp
    · have e : ∀ j, j < 4 → w.cell? ⟨g, i * 4 + j, none⟩ = (fcells (K.getD i rf0))[j]? := fun j hj => by
        rw [cell_of_row w g _ _ _ (0, 0) h3, ← kcells_at K i j hi hj, ← h7, List.getElem?_take, if_pos (by omega), Array.getElem?_toList]
      exact ⟨e 0 (by omega), e 1 (by omega), e 2 (by omega), e 3 (by omega)⟩

/-- A field of a frame is set. -/
theorem RPC.setF {g cap : Nat} (h : RPC w p q Fd (.slice (some ⟨g, 0, none⟩) K.length cap) K D N) {i j : Nat} (hi : i < K.length) (hj : j < 4) (x : RF) (v : Value) (hx : fcells x = (fcells (K.getD i rf0)).set j v) (hown : Own 0 w x.bv x.f.b ∧ x.f.b.length = 256) (hfx : x.g ≠ p ∧ ¬ Fd x.g ∧ x.g ≠ g) :
    RPC (w.setCell ⟨g, i * 4 + j, none⟩ v) p q Fd (.slice (some ⟨g, 0, none⟩) K.length cap) (K.set i x) D N := by
  have hdl := h.dL g rfl
  have kk : ∀ k, k ≠ g → (w.setCell ⟨g, i * 4 + j, none⟩ v).heap[k]? = w.heap[k]? := fun k hk => Below.heap_setCell w ⟨g, i * 4 + j, none⟩ v k hk
  refine ⟨(kk p (fun e => hdl.2 e.symm)).trans h.cells, h.dev.keep (by rw [size_setCell]; exact Nat.le_refl _) (fun k hk => kk k (fun e => hdl.1 (e ▸ hk))), ?_, fun y hy => ?_, fun y hy => ?_, h.dp, h.dL⟩
  · rcases h.row.2 with ⟨h1, h2⟩ | ⟨g', cap', cur, h1, h2, h3, h4, h5, h6, h7⟩
    · exact absurd h1 (by simp)
    · simp only [Value.slice.injEq, Option.some.injEq, Addr.mk.injEq, and_true, true_and] at h1
      obtain ⟨rfl, rfl⟩ := h1
      refine ⟨by rw [kcells_len, List.length_set], .inr ⟨g, cap, _, by rw [List.length_set], h2, setCell_heap w g _ v cur _ _ h3, by rw [List.length_set]; exact h4, h5, by simpa using h6, ?_⟩⟩
      rw [kcells_set K i j x v hi hj hx, ← h7, List.length_set, Array.toList_setIfInBounds, List.take_set]
  · rcases List.mem_or_eq_of_mem_set hy with hy | rfl
    · exact ⟨(h.fr y hy).1.kept (kk y.g (fun e => (h.fx y hy).2.2 (by rw [e]; rfl))), (h.fr y hy).2⟩
    · exact ⟨hown.1.kept (kk _ hfx.2.2), hown.2⟩
  · rcases List.mem_or_eq_of_mem_set hy with hy | rfl
    · exact h.fx y hy
    · exact ⟨hfx.1, hfx.2.1, fun e => hfx.2.2 (by simpa [Value.ownBlock] using e.symm)⟩

/-- The row of frames is another. -/
theorem RPC.setL {w2 : World} (h : RPC w p q Fd vL K D N) {K' : List RF} {v : Value} (hs : w.heap.size ≤ w2.heap.size) (hk : ∀ k, k < w.heap.size → vL.ownBlock ≠ some k → w2.heap[k]? = w.heap[k]?) (hrow : w2.ownsRow 0 81 4 v K'.length (kcells K')) (hv : ∀ g, v.ownBlock = some g → vL.ownBlock = some g ∨ w.heap.size ≤ g)
    (hfr : ∀ x ∈ K', Own 0 w2 x.bv x.f.b ∧ x.f.b.length = 256) (hfx : ∀ x ∈ K', x.g ≠ p ∧ ¬ Fd x.g ∧ v.ownBlock ≠ some x.g) :
    RPC (w2.setCell ⟨p, 2, none⟩ v) p q Fd v K' D N := by
  have hlt := h.lt
  have kk : ∀ k, k ≠ p → (w2.setCell ⟨p, 2, none⟩ v).heap[k]? = w2.heap[k]? := fun k hk => Below.heap_setCell w2 ⟨p, 2, none⟩ v k hk
  have hpv : vL.ownBlock ≠ some p := fun e => (h.dL p e).2 rfl
  have hvp : v.ownBlock ≠ some p := fun e => by
    rcases hv p e with e | e
    · exact hpv e
    · have := hlt p (.inl rfl); omega
  refine ⟨?_, ?_, ?_, fun x hx => ⟨(hfr x hx).1.kept (kk x.g (hfx x hx).1), (hfr x hx).2⟩, hfx, h.dp, fun g hg => ?_⟩
  · rw [setCell_heap w2 p 2 v _ _ _ ((hk p (hlt p (.inl rfl)) hpv).trans h.cells)]
    rfl
  · refine h.dev.keep (by rw [size_setCell]; exact hs) (fun k hk' => (kk k (fun e => h.dp (e ▸ hk'))).trans (hk k (hlt k (.inr (.inl hk'))) (fun e => (h.dL k e).1 hk')))
  · exact owns_keep hrow (fun g hg => kk g (fun e => hvp (e ▸ hg)))
  · rcases hv g hg with e | e
    · exact h.dL g e
    · exact ⟨fun e2 => by have := hlt g (.inr (.inl e2)); omega, fun e2 => hvp (e2 ▸ hg)⟩

/-- The device has gone on. -/
theorem RPC.step {Fd' : Nat → Prop} {D' : Dv} (h : RPC w p q Fd vL K D N) (hd : RD w' q Fd' D') (st : Step Fd Fd' w w') : RPC w' p q Fd' vL K D' N := by
  have hlt := h.lt
  have kk : ∀ k, footQ p Fd vL K k → ¬ Fd k → w'.heap[k]? = w.heap[k]? := fun k hk hn => st.1.block k (hlt k hk) hn
  have nn : ∀ k, footQ p Fd vL K k → ¬ Fd k → ¬ Fd' k := fun k hk hn e => by
    rcases st.2 k e with e | e
    · exact hn e
    · have := hlt k hk; omega
  refine ⟨(kk p (.inl rfl) h.dp).trans h.cells, hd, owns_keep h.row (fun g hg => kk g (.inr (.inr (.inl hg))) (h.dL g hg).1), fun x hx => ⟨(h.fr x hx).1.kept (kk x.g (.inr (.inr (.inr ⟨x, hx, rfl⟩))) (h.fx x hx).2.1), (h.fr x hx).2⟩, fun x hx => ⟨(h.fx x hx).1, nn x.g (.inr (.inr (.inr ⟨x, hx, rfl⟩))) (h.fx x hx).2.1, (h.fx x hx).2.2⟩, nn p (.inl rfl) h.dp, fun g hg => ⟨nn g (.inr (.inr (.inl hg))) (h.dL g hg).1, (h.dL g hg).2⟩⟩
end
end Go.Proofs.YtojckbhbnalkeaaGreat.Oct

/-
  The document's pool: find, Pinned, NewPool.
-/
namespace Go.Proofs.YtojckbhbnalkeaaGreat.Oct
open Go.RowKit

theorem kmap_getD (K : List RF) (i : Nat) : (K.map (·.f)).getD i fr0 = (K.getD i rf0).f := by
  rw [List.getD_eq_getElem?_getD, List.getD_eq_getElem?_getD, List.getElem?_map]
  cases K[i]? <;> rfl

theorem fiP_at {L : List Fr} {x : Int} {k : Nat} (hk : k < L.length) (h1 : ∀ j, j < k → ((L.getD j fr0).page : Int) ≠ x) (h2 : ((L.getD k fr0).page : Int) = x) : fiP L x = k := by
  have hx : ∃ f ∈ L, (f.page : Int) = x := ⟨_, getD_memF hk, h2⟩
  obtain ⟨e1, e2⟩ := fiP_some hx
  rcases Nat.lt_trichotomy (fiP L x) k with h | h | h
  · exact absurd e2 (h1 _ h)
  · exact h
  · exfalso
    have := List.not_of_lt_findIdx (p := fun f : Fr => decide ((f.page : Int) = x)) (xs := L) (i := k) h
    rw [List.getD_eq_getElem?_getD, List.getElem?_eq_getElem hk, Option.getD_some] at h2
    simp [h2] at this
theorem fiP_not {L : List Fr} {x : Int} (h1 : ∀ j, j < L.length → ((L.getD j fr0).page : Int) ≠ x) : ¬ fiP L x < L.length := by
  refine fiP_none (fun f hf e => ?_)
  obtain ⟨j, hj, e1⟩ := List.getElem_of_mem hf
  refine h1 j hj ?_
  rw [List.getD_eq_getElem?_getD, List.getElem?_eq_getElem hj, Option.getD_some, e1]
  exact e

def fdV (L : List Fr) (x : Int) : Int := if fiP L x < L.length then (fiP L x : Int) else -1
theorem fdV_yes {L : List Fr} {x : Int} (h : fiP L x < L.length) : fdV L x = (fiP L x : Int) := if_pos h
theorem fdV_no {L : List Fr} {x : Int} (h : ¬ fiP L x < L.length) : fdV L x = -1 := if_neg h

section
variable {w : World} {p q : Nat} {Fd F : Nat → Prop} {vL : Value} {K : List RF} {D : Dv} {N : Nat}

set_option maxHeartbeats 1000000 in
theorem rfind_any (h : RPC w p q Fd vL K D N) (x : Int) :
    Calls Tryz.prog 48 #[.pointer (some ⟨p, 0, none⟩), .int .i64 x] w fun e w' => e = .returned (.int .i64 (fdV (K.map (·.f)) x)) ∧ w = w' := by
  obtain ⟨c0, c1, c2, z⟩ := h.at
  obtain ⟨a, cap, rfl, hle, hmx, hnil⟩ := h.vl
  unfold maxLen at hmx
  have HP : Hid (RPC w p q Fd (.slice a K.length cap) K D N) := h
  have ht : ∀ (b : Int), b = fdV (K.map (·.f)) x → Ending.returned (.int .i64 b) = .returned (.int .i64 (fdV (K.map (·.f)) x)) := fun b h => by rw [h]
  clear h c0 c1 z
  go_enter Tryz.func48, Tryz.ntmps48
  go_wp2
  go_loop [5] (fun i => ∃ k : Nat, k ≤ K.length ∧ i = .int .i64 k ∧ Hid (∀ j, j < k → ((K.getD j rf0).f.page : Int) ≠ x)) (fun i => K.length - (intOf i).toNat)
  case atStart => exact ⟨0, Nat.zero_le _, rfl, fun j hj => by omega⟩
  case round =>
    obtain ⟨k, hk, rfl, hall⟩ := hrel
    by_cases hlt : k < K.length
    · obtain ⟨g, cap', hv, -, -, -, -, hcells⟩ := HP.out.opened (by omega)
      simp only [Value.slice.injEq, true_and] at hv
      obtain ⟨rfl, -⟩ := hv
      have d0 := (hcells k hlt).1
      clear hcells
      by_cases hx : ((K.getD k rf0).f.page : Int) = x
      · have HK : Hid ((k : Int) = fdV (K.map (·.f)) x) := by
          have e := fiP_at (L := K.map (·.f)) (x := x) (k := k) (by simpa using hlt) (fun j hj => by rw [kmap_getD]; exact hall.out j hj) (by rw [kmap_getD]; exact hx)
          show _ = _
          rw [fdV_yes (by rw [e]; simpa using hlt), e]
        rw [hx] at d0
        clear hall hx
        go_wp2
        go_ret
        exact ⟨ht _ HK.out, rfl⟩
      · have HN : Hid (∀ j, j < k + 1 → ((K.getD j rf0).f.page : Int) ≠ x) := fun j hj => by
          by_cases hjk : j = k
          · rw [hjk]; exact hx
          · exact hall.out j (by omega)
        obtain ⟨pg, hpg⟩ : ∃ pg : Nat, (K.getD k rf0).f.page = pg := ⟨_, rfl⟩
        rw [hpg] at d0 hx
        clear hall hpg
        go_wp2
        go_round
        case rel => exact ⟨k + 1, by omega, by go_num, HN⟩
        case measure => simp [intOf]; omega
    · have hk' : k = K.length := by omega
      subst hk'
      have HK : Hid ((-1 : Int) = fdV (K.map (·.f)) x) := by
        show _ = _
        rw [fdV_no (fiP_not (fun j hj => by rw [kmap_getD]; exact hall.out j (by simpa using hj)))]
      clear hall
      go_wp2
      go_ret
      exact ⟨ht _ HK.out, rfl⟩

theorem pin_take (K : List RF) (k : Nat) (hk : k < K.length) : (((K.map (·.f)).take (k + 1)).filter fitP).length = (((K.map (·.f)).take k).filter fitP).length + if 0 < (K.getD k rf0).f.pins then 1 else 0 := by
  have hl : k < (K.map (·.f)).length := by simpa using hk
  rw [List.take_add_one, List.getElem?_eq_getElem hl, List.filter_append, List.length_append]
  have : (K.map (·.f))[k] = (K.getD k rf0).f := by rw [← kmap_getD, List.getD_eq_getElem?_getD, List.getElem?_eq_getElem hl, Option.getD_some]
  rw [this]
  obtain ⟨ff, hff⟩ : ∃ ff, (K.getD k rf0).f = ff := ⟨_, rfl⟩
  rw [hff]
  by_cases h : 0 < ff.pins
  · have e : fitP ff = true := decide_eq_true h
    rw [if_pos h, show (some ff).toList = [ff] from rfl, List.filter_cons_of_pos e]; rfl
  · have e : ¬ fitP ff = true := by unfold fitP; simpa using h
    rw [if_neg h, show (some ff).toList = [ff] from rfl, List.filter_cons_of_neg e]; rfl

set_option maxHeartbeats 1000000 in
theorem rPinned_any (h : RPC w p q Fd vL K D N) :
    Calls Tryz.prog 33 #[.pointer (some ⟨p, 0, none⟩)] w fun e w' => e = .returned (.int .i64 ((K.map (·.f)).filter fitP).length) ∧ w = w' := by
  obtain ⟨c0, c1, c2, z⟩ := h.at
  obtain ⟨a, cap, rfl, hle, hmx, hnil⟩ := h.vl
  unfold maxLen at hmx
  have HP : Hid (RPC w p q Fd (.slice a K.length cap) K D N) := h
  clear h c0 c1 z
  go_enter Tryz.func33, Tryz.ntmps33
  go_wp2
  go_loop [3, 4] (fun v i => ∃ k n : Nat, k ≤ K.length ∧ i = .int .i64 k ∧ v = .int .i64 n ∧ n ≤ k ∧ Hid (n = (((K.map (·.f)).take k).filter fitP).length)) (fun _ i => K.length - (intOf i).toNat)
  case atStart => exact ⟨0, 0, Nat.zero_le _, rfl, rfl, Nat.le_refl _, rfl⟩
  case round =>
    obtain ⟨k, n, hk, rfl, rfl, hnk, hall⟩ := hrel
    by_cases hlt : k < K.length
    · obtain ⟨g, cap', hv, -, -, -, -, hcells⟩ := HP.out.opened (by omega)
      simp only [Value.slice.injEq, true_and] at hv
      obtain ⟨rfl, -⟩ := hv
      have d1 := (hcells k hlt).2.1
      have HT := pin_take K k hlt
      rw [← hall.out] at HT
      clear hcells
      obtain ⟨m, hm⟩ : ∃ m : Nat, (K.getD k rf0).f.pins = m := ⟨_, rfl⟩
      rw [hm] at d1 HT
      clear hm hall
      by_cases h0 : 0 < m
      · rw [if_pos h0] at HT
        have HT' : Hid (n + 1 = (((K.map (·.f)).take (k + 1)).filter fitP).length) := HT.symm
        clear HT
        go_wp2
        go_round
        case rel => exact ⟨k + 1, n + 1, by omega, by go_num, by go_num, by omega, HT'⟩
        case measure => simp [intOf]; omega
      · rw [if_neg h0] at HT
        have HT' : Hid (n = (((K.map (·.f)).take (k + 1)).filter fitP).length) := HT.symm
        clear HT
        go_wp2
        go_round
        case rel => exact ⟨k + 1, n, by omega, by go_num, rfl, by omega, HT'⟩
        case measure => simp [intOf]; omega
    · have hk' : k = K.length := by omega
      subst hk'
      have e : Hid (((K.map (·.f)).filter fitP).length = n) := by
        have h1 := hall.out
        rw [List.take_of_length_le (by simp)] at h1
        exact h1.symm
      clear hall
      go_wp2
      go_ret
      exact ⟨by rw [e.out]; rfl, rfl⟩
end

theorem rNewPool_no (q : Option Addr) (n : Int) (w : World) (h : ¬ (8 ≤ n ∧ n ≤ 4096)) : Calls Tryz.prog 9 #[.pointer q, .int .i64 n] w fun e w' => e = .returned (.tuple #[.pointer none, .int .i64 1]) ∧ w = w' := by
  cases q with
  | none =>
    go_enter Tryz.func9, Tryz.ntmps9
    go_wp2
    go_ret2
    exact ⟨rfl, rfl⟩
  | some q =>
    by_cases h8 : n < 8
    · go_enter Tryz.func9, Tryz.ntmps9
      go_wp2
      go_ret2
      exact ⟨rfl, rfl⟩
    · have h4 : 4096 < n := by omega
      go_enter Tryz.func9, Tryz.ntmps9
      go_wp2
      go_ret2
      exact ⟨rfl, rfl⟩

theorem rNewPool_yes {w : World} {q : Nat} {Fd : Nat → Prop} {D : Dv} (hd : RD w q Fd D) (n : Nat) (h8 : 8 ≤ n) (h4 : n ≤ 4096) : Calls Tryz.prog 9 #[.pointer (some ⟨q, 0, none⟩), .int .i64 n] w fun e w' => ∃ p F, e = .returned (.tuple #[.pointer (some ⟨p, 0, none⟩), .int .i64 0]) ∧ RP w' p q F D n [] ∧ Below w.heap.size w w' ∧ (∀ k, F k → Fd k ∨ w.heap.size ≤ k) := by
  have hlt := hd.2.1
  have h8' : ¬ (n : Int) < 8 := by omega
  have h4' : ¬ (4096 : Int) < n := by omega
  have HD : Hid (RD w q Fd D) := hd
  clear hd
  go_enter Tryz.func9, Tryz.ntmps9
  go_wp2
  go_ret2
  have bel : Below w.heap.size w (w.alloc (.cells #[.pointer (some ⟨q, 0, none⟩), .int .i64 n, .slice none 0 0] 75)) := (Below.refl _ w).alloc (Nat.le_refl _) _
  have hC : RPC (w.alloc (.cells #[.pointer (some ⟨q, 0, none⟩), .int .i64 n, .slice none 0 0] 75)) w.heap.size q Fd (.slice none 0 0) [] D n :=
    ⟨heap_alloc_new w _, HD.out.below bel, World.ownsRow_nil _ _ _ _, fun x hx => (by cases hx), fun x hx => (by cases hx), fun e => (by have := hlt _ e; omega), fun g hg => by simp [Value.ownBlock] at hg⟩
  refine ⟨w.heap.size, rfl, fun k => Fd k ∨ k = w.heap.size, ⟨fun k hk => ?_, Fd, .slice none 0 0, [], hC, rfl, fun k hk => ?_⟩, bel, fun k hk => ?_⟩
  · rcases hk with hk | hk
    · have := hlt k hk; simp; omega
    · simp; omega
  · rcases hk with hk | hk | hk | ⟨x, hx, _⟩
    · exact .inr hk
    · exact .inl hk
    · simp [Value.ownBlock] at hk
    · cases hx
  · rcases hk with hk | hk
    · exact .inl hk
    · exact .inr (by omega)
end Go.Proofs.YtojckbhbnalkeaaGreat.Oct
