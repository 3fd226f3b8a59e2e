/-
  Pages that were used, in their order, plainly.
-/
import Derived.Test.YtojckbhbnalkeaaIu
namespace Go.Proofs.Ytojckbhbnalkeaa.Oct
open Go.RowKit

theorem fiP_snoc {X : List Fr} {f : Fr} (h : ∀ g ∈ X, g.page ≠ f.page) : fiP (X ++ [f]) f.page = X.length := by
  unfold fiP
  rw [List.findIdx_append]
  have e : List.findIdx (fun g => decide ((g.page : Int) = (f.page : Int))) X = X.length := List.findIdx_eq_length.2 (fun g hg => by have := h g hg; simp; omega)
  rw [e, if_neg (by omega)]
  simp

/-- A frame at the end that has one pin is unpinned. -/
theorem un_snoc {X : List Fr} {f : Fr} (h : ∀ g ∈ X, g.page ≠ f.page) (hp : f.pins = 1) : unE (X ++ [f]) f.page = 0 ∧ unL (X ++ [f]) f.page = X ++ [{ f with pins := 0 }] := by
  have e := fiP_snoc h
  have hg : (X ++ [f]).getD X.length fr0 = f := by simp [List.getD_eq_getElem?_getD]
  have hb : pinB (X ++ [f]) f.page = true := by
    unfold pinB
    rw [e, hg, hp]
    simp
  refine ⟨by unfold unE; rw [if_pos hb], ?_⟩
  unfold unL
  rw [if_pos hb, e, hg, List.set_append_right _ _ (Nat.le_refl _), hp]
  simp

/-- Frames that are clean and without pins. -/
structure OrdI (D : Dv) (L : List Fr) (c : Nat) : Prop where
  well : Well D
  n : D.n = 32
  ops : D.ops ≤ c
  since : D.since = []
  len : L.length ≤ 8
  pins : ∀ f ∈ L, f.pins = 0 ∧ f.dirty = false
  nd : (L.map (·.page)).Nodup

/-- The pages, the one that was used last first. -/
def usedP (L : List Fr) : List Int := (L.map fun f => (f.page : Int)).reverse

theorem usedP_snoc (X : List Fr) (f : Fr) : usedP (X ++ [f]) = (f.page : Int) :: usedP X := by simp [usedP]

/-- What is used next. -/
def nextU (us : List Int) (n : Int) : List Int := n :: (us.filter (fun x => decide (x ≠ n))).take 7

theorem filter_erase {L : List Fr} (hn : (L.map (·.page)).Nodup) {i : Nat} (hi : i < L.length) : L.filter (fun g => decide (g.page ≠ (L.getD i fr0).page)) = L.eraseIdx i := by
  induction L generalizing i with
  | nil => simp at hi
  | cons b r ih =>
    simp only [List.map_cons, List.nodup_cons] at hn
    cases i with
    | zero =>
      simp only [List.getD_cons_zero, List.filter_cons, ne_eq, not_true_eq_false, decide_false, Bool.false_eq_true, if_false, List.eraseIdx_cons_zero]
      exact List.filter_eq_self.2 (fun g hg => by simp only [decide_eq_true_eq]; exact fun e => hn.1 (e ▸ List.mem_map_of_mem hg))
    | succ i =>
      have hi' : i < r.length := by simpa using hi
      have hne : b.page ≠ (r.getD i fr0).page := fun e => hn.1 (by rw [e]; exact List.mem_map_of_mem (getD_memF hi'))
      simp only [List.getD_cons_succ, List.filter_cons, ne_eq, hne, not_false_eq_true, decide_true, if_true, List.eraseIdx_cons_succ]
      rw [← ih hn.2 hi']

theorem usedP_filter (L : List Fr) (n : Nat) : (usedP L).filter (fun x => decide (x ≠ (n : Int))) = usedP (L.filter (fun g => decide (g.page ≠ n))) := by
  unfold usedP
  rw [List.filter_reverse, List.filter_map]
  congr 2
  have : (fun x : Int => decide (x ≠ (n : Int))) ∘ (fun f : Fr => (f.page : Int)) = fun g : Fr => decide (g.page ≠ n) := by
    funext g
    simp only [Function.comp, decide_eq_decide]
    omega
  rw [this]

theorem usedP_len (L : List Fr) : (usedP L).length = L.length := by simp [usedP]

/-- One page is pinned and unpinned: X, the frames that were there and stay; b, its bytes. -/
theorem OrdI.step {D : Dv} {L : List Fr} {c : Nat} (h : OrdI D L c) (n : Nat) : usE D 8 L n true = 0 ∧ ∃ X f, pnL D 8 L n = X ++ [f] ∧ f.page = n ∧ f.pins = 1 ∧ (∀ g ∈ X, g.page ≠ f.page) ∧ OrdI (usD D 8 L n true) (X ++ [{ f with pins := 0 }]) (c + 1) ∧ usedP (X ++ [{ f with pins := 0 }]) = nextU (usedP L) n := by
  have hread := readD_ops D
  by_cases hf : fiP L n < L.length
  · have hx : ∃ f ∈ L, (f.page : Int) = n := by
      have := List.findIdx_getElem (w := hf)
      simp only [decide_eq_true_eq] at this
      exact ⟨_, List.getElem_mem hf, this⟩
    have hpage : (L.getD (fiP L n) fr0).page = n := by have := (fiP_some hx).2; omega
    obtain ⟨e1, e2, _⟩ := use_yes (D := D) (N := 8) (rd := true) hf
    have hnd : ∀ g ∈ L.eraseIdx (fiP L n), g.page ≠ n := fun g hg => by
      rw [← filter_erase h.nd hf, List.mem_filter] at hg
      have := hg.2
      rw [hpage] at this
      simpa using this
    obtain ⟨q1, q2⟩ := h.pins _ (getD_memF hf)
    refine ⟨e1, L.eraseIdx (fiP L n), _, (pn_yes hf).1, hpage, by show (L.getD _ fr0).pins + 1 = 1; rw [q1], fun g hg => by rw [show (Fr.page _) = n from hpage]; exact hnd g hg, ⟨?_, ?_, ?_, ?_, ?_, ?_, ?_⟩, ?_⟩
    · rw [e2]; exact h.well
    · rw [e2]; exact h.n
    · rw [e2]; have := h.ops; omega
    · rw [e2]; exact h.since
    · rw [List.length_append, List.length_eraseIdx_of_lt hf]; have := h.len; simp; omega
    · intro g hg
      rcases List.mem_append.1 hg with hg | hg
      · exact h.pins g (List.mem_of_mem_eraseIdx hg)
      · simp at hg; rw [hg]; exact ⟨rfl, by simpa using q2⟩
    · have hp := erase_perm L fr0 (fiP L n) hf
      have e3 : ((L.eraseIdx (fiP L n) ++ [({ L.getD (fiP L n) fr0 with pins := 0 } : Fr)]).map (·.page)) = (L.eraseIdx (fiP L n) ++ [L.getD (fiP L n) fr0]).map (·.page) := by simp
      exact e3 ▸ (hp.map _).nodup_iff.2 h.nd
    · rw [usedP_snoc]
      show ((L.getD (fiP L n) fr0).page : Int) :: _ = _
      unfold nextU
      have e4 := filter_erase h.nd hf
      rw [hpage] at e4
      rw [hpage, usedP_filter, e4, List.take_of_length_le]
      rw [usedP_len, List.length_eraseIdx_of_lt hf]
      have := h.len
      omega
  · have hnn : ∀ g ∈ L, g.page ≠ n := fun g hg e => hf (fiP_some ⟨g, hg, by rw [e]⟩).1
    have hfil : (usedP L).filter (fun x => decide (x ≠ (n : Int))) = usedP L := by
      rw [usedP_filter, List.filter_eq_self.2 (fun g hg => by simpa using hnn g hg)]
    by_cases hl : L.length < 8
    · obtain ⟨e1, e2, e3⟩ := use_room (D := D) (N := 8) (rd := true) hf hl h.well.tells
      rw [if_pos rfl] at e2
      refine ⟨e1, L, ⟨n, fst0 D n true, false, 1⟩, ?_, rfl, rfl, hnn, ⟨?_, ?_, ?_, ?_, ?_, ?_, ?_⟩, ?_⟩
      · unfold pnL; rw [if_pos e1, e3, lastUp_snoc]
      · rw [e2]; exact h.well.read
      · rw [e2, readD_n]; exact h.n
      · rw [e2]; have := h.ops; omega
      · rw [e2, hread.2]; exact h.since
      · simp; omega
      · intro g hg
        rcases List.mem_append.1 hg with hg | hg
        · exact h.pins g hg
        · simp at hg; rw [hg]; exact ⟨rfl, rfl⟩
      · rw [List.map_append]
        refine List.nodup_append.2 ⟨h.nd, by simp, fun a ha b hb => ?_⟩
        simp at hb
        subst hb
        obtain ⟨g, hg, rfl⟩ := List.mem_map.1 ha
        exact hnn g hg
      · rw [usedP_snoc]
        unfold nextU
        rw [hfil, List.take_of_length_le (by rw [usedP_len]; omega)]
    · have h8 : L.length = 8 := by have := h.len; omega
      have h0 : nuP L 0 = 0 := nuP_hit (by omega) (h.pins _ (getD_memF (by omega))).1
      obtain ⟨e1, e2, e3⟩ := use_leave (D := D) (N := 8) (rd := true) hf hl (by omega) h.well
      rw [h0] at e2 e3
      have ed : evD D (L.getD 0 fr0) = D := by unfold evD; rw [if_neg (by rw [(h.pins _ (getD_memF (by omega))).2]; simp)]
      rw [if_pos rfl, ed] at e2
      rw [ed] at e3
      refine ⟨e1, L.eraseIdx 0, ⟨n, fst0 D n true, false, 1⟩, ?_, rfl, rfl, fun g hg => hnn g (List.mem_of_mem_eraseIdx hg), ⟨?_, ?_, ?_, ?_, ?_, ?_, ?_⟩, ?_⟩
      · unfold pnL; rw [if_pos e1, e3, lastUp_snoc]
      · rw [e2]; exact h.well.read
      · rw [e2, readD_n]; exact h.n
      · rw [e2]; have := h.ops; omega
      · rw [e2, hread.2]; exact h.since
      · rw [List.length_append, List.length_eraseIdx_of_lt (by omega)]; simp; omega
      · intro g hg
        rcases List.mem_append.1 hg with hg | hg
        · exact h.pins g (List.mem_of_mem_eraseIdx hg)
        · simp at hg; rw [hg]; exact ⟨rfl, rfl⟩
      · rw [List.map_append, map_erase]
        refine List.nodup_append.2 ⟨h.nd.sublist (List.eraseIdx_sublist _ _), by simp, fun a ha b hb => ?_⟩
        simp at hb
        subst hb
        obtain ⟨g, hg, rfl⟩ := List.mem_map.1 (List.mem_of_mem_eraseIdx ha)
        exact hnn g hg
      · rw [usedP_snoc]
        unfold nextU
        rw [hfil]
        congr 1
        cases L with
        | nil => simp at h8
        | cons b r =>
          have hr : r.length = 7 := by simpa using h8
          have e4 : usedP (b :: r) = usedP r ++ [(b.page : Int)] := by simp [usedP]
          rw [e4, List.take_append_of_le_length (by rw [usedP_len]; omega), List.take_of_length_le (by rw [usedP_len]; omega)]
          rfl

/-- The list on its way. -/
def nxK (us : List Int) (n : Int) (k : Nat) : List Int := n :: (us.take k).filter (fun x => decide (x ≠ n))

theorem nxK_yes {us : List Int} {n : Int} {k : Nat} (hk : k < us.length) (h : us.getD k 0 ≠ n) : nxK us n (k + 1) = nxK us n k ++ [us.getD k 0] := by
  unfold nxK
  rw [List.take_add_one, List.getElem?_eq_getElem hk, List.filter_append]
  rw [List.getD_eq_getElem?_getD, List.getElem?_eq_getElem hk, Option.getD_some] at h ⊢
  simp [h]
theorem nxK_no {us : List Int} {n : Int} {k : Nat} (hk : k < us.length) (h : us.getD k 0 = n) : nxK us n (k + 1) = nxK us n k := by
  unfold nxK
  rw [List.take_add_one, List.getElem?_eq_getElem hk, List.filter_append]
  rw [List.getD_eq_getElem?_getD, List.getElem?_eq_getElem hk, Option.getD_some] at h
  simp [h]
theorem nxK_all {us : List Int} {n : Int} (h : (nxK us n us.length).length ≤ 8) : nxK us n us.length = nextU us n := by
  unfold nxK nextU at *
  rw [List.take_length] at h ⊢
  rw [List.take_of_length_le (by simpa using h)]
theorem nxK_full {us : List Int} {n : Int} {k : Nat} (h : (nxK us n k).length = 8) : nxK us n k = nextU us n := by
  unfold nxK nextU at *
  congr 1
  have h7 : ((us.take k).filter (fun x => decide (x ≠ n))).length = 7 := by simpa using h
  have e : us.filter (fun x => decide (x ≠ n)) = (us.take k).filter (fun x => decide (x ≠ n)) ++ (us.drop k).filter (fun x => decide (x ≠ n)) := by rw [← List.filter_append, List.take_append_drop]
  rw [e, List.take_append_of_le_length (by omega)]
  exact (List.take_of_length_le (by omega)).symm
end Go.Proofs.Ytojckbhbnalkeaa.Oct
