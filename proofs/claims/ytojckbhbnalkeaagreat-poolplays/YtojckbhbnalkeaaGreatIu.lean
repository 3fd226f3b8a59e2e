/-
  Frames that are all pinned, plainly; what use does to frames, plainly.
-/
import Derived.Test.YtojckbhbnalkeaaGreatIq
namespace Go.Proofs.YtojckbhbnalkeaaGreat.Oct
open Go.RowKit

theorem fiP_some {L : List Fr} {x : Int} (h : ∃ f ∈ L, (f.page : Int) = x) : fiP L x < L.length ∧ ((L.getD (fiP L x) fr0).page : Int) = x := by
  obtain ⟨f, hf, hx⟩ := h
  have h1 : fiP L x < L.length := List.findIdx_lt_length.2 ⟨f, hf, by simpa using hx⟩
  refine ⟨h1, ?_⟩
  have := List.findIdx_getElem (w := h1)
  simp only [decide_eq_true_eq] at this
  rw [List.getD_eq_getElem?_getD, List.getElem?_eq_getElem h1, Option.getD_some]
  exact this

theorem getD_memF {L : List Fr} {i : Nat} (hi : i < L.length) : L.getD i fr0 ∈ L := by
  rw [List.getD_eq_getElem?_getD, List.getElem?_eq_getElem hi, Option.getD_some]
  exact List.getElem_mem hi

theorem nuP_all {L : List Fr} (h : ∀ f ∈ L, f.pins ≠ 0) : nuP L 0 = L.length := by
  unfold nuP
  rw [List.drop_zero, Nat.zero_add]
  exact List.findIdx_eq_length.2 (fun f hf => by simpa using h f hf)

theorem evS_none {L : List Fr} (h : nuP L 0 = L.length) (n : Nat) (D : Dv) : evS n D L = (0, D, L) := by
  cases n with
  | zero => rfl
  | succ n =>
    show (if nuP L 0 < L.length then _ else _) = _
    rw [if_neg (by omega)]

/-- What use leaves of frames where the page is there. -/
theorem use_yes {D : Dv} {N : Nat} {L : List Fr} {pg : Nat} {rd : Bool} (h : fiP L pg < L.length) : usE D N L pg rd = 0 ∧ usD D N L pg rd = D ∧ usL D N L pg rd = L.eraseIdx (fiP L pg) ++ [L.getD (fiP L pg) fr0] := by
  refine ⟨?_, ?_, ?_⟩
  · unfold usE; rw [if_pos h]
  · unfold usD; rw [if_pos h]
  · unfold usL; rw [if_pos h]

theorem pn_yes {D : Dv} {N : Nat} {L : List Fr} {pg : Nat} (h : fiP L pg < L.length) : pnL D N L pg = L.eraseIdx (fiP L pg) ++ [{ L.getD (fiP L pg) fr0 with pins := (L.getD (fiP L pg) fr0).pins + 1 }] ∧ pnB D N L pg = (L.getD (fiP L pg) fr0).b := by
  obtain ⟨e1, _, e3⟩ := use_yes (D := D) (N := N) (rd := true) h
  refine ⟨?_, ?_⟩
  · unfold pnL; rw [if_pos e1, e3, lastUp_snoc]
  · unfold pnB; rw [e3]; simp

theorem pt_yes {D : Dv} {N : Nat} {L : List Fr} {pg : Nat} (h : fiP L pg < L.length) (b : List Int) : ptL D N L pg b = L.eraseIdx (fiP L pg) ++ [{ L.getD (fiP L pg) fr0 with b := b, dirty := true }] := by
  obtain ⟨e1, _, e3⟩ := use_yes (D := D) (N := N) (rd := false) h
  unfold ptL; rw [if_pos e1, e3, lastUp_snoc]

/-- .. where it is not, and there is room. -/
theorem use_room {D : Dv} {N : Nat} {L : List Fr} {pg : Nat} {rd : Bool} (h : ¬ fiP L pg < L.length) (hl : L.length < N) (ht : tellsD D = true) :
    usE D N L pg rd = 0 ∧ usD D N L pg rd = (if rd = true then readD D else D) ∧ usL D N L pg rd = L ++ [⟨pg, fst0 D pg rd, false, 0⟩] := by
  have e0 : tkE D N L = 0 := by unfold tkE; rw [if_pos hl]
  have eD : tkD D N L = D := by unfold tkD; rw [if_pos hl]
  have e1 : usE D N L pg rd = 0 := by unfold usE; rw [if_neg h, if_pos e0, eD, if_neg (by rw [ht]; simp)]
  refine ⟨e1, ?_, ?_⟩
  · unfold usD; rw [if_neg h, if_pos e0, eD]
  · unfold usL; rw [if_neg h, if_pos e1, eD]; unfold tkL; rw [if_pos hl]

/-- .. where it is not, and one leaves. -/
theorem use_leave {D : Dv} {N : Nat} {L : List Fr} {pg : Nat} {rd : Bool} (h : ¬ fiP L pg < L.length) (hl : ¬ L.length < N) (hn : nuP L 0 < L.length) (hw : Well D) :
    usE D N L pg rd = 0 ∧ usD D N L pg rd = (if rd = true then readD (evD D (L.getD (nuP L 0) fr0)) else evD D (L.getD (nuP L 0) fr0)) ∧ usL D N L pg rd = L.eraseIdx (nuP L 0) ++ [⟨pg, fst0 (evD D (L.getD (nuP L 0) fr0)) pg rd, false, 0⟩] := by
  have ee : evE D (L.getD (nuP L 0) fr0) = 0 := by
    unfold evE; split
    · exact hw.says
    · rfl
  have e0 : tkE D N L = 0 := by unfold tkE; rw [if_neg hl, if_pos hn, ee]
  have eD : tkD D N L = evD D (L.getD (nuP L 0) fr0) := by unfold tkD; rw [if_neg hl, if_pos hn]
  have ht : tellsD (evD D (L.getD (nuP L 0) fr0)) = true := by
    unfold evD; split
    · exact (hw.write _ _).tells
    · exact hw.tells
  have e1 : usE D N L pg rd = 0 := by unfold usE; rw [if_neg h, if_pos e0, eD, if_neg (by rw [ht]; simp)]
  refine ⟨e1, ?_, ?_⟩
  · unfold usD; rw [if_neg h, if_pos e0, eD]
  · unfold usL; rw [if_neg h, if_pos e1, eD]; unfold tkL; rw [if_neg hl, if_pos hn, if_pos ee]

/-- .. where all have pins. -/
theorem use_full6 {D : Dv} {N : Nat} {L : List Fr} {pg : Nat} {rd : Bool} (h : ¬ fiP L pg < L.length) (hl : ¬ L.length < N) (hn : nuP L 0 = L.length) : usE D N L pg rd = 6 ∧ usD D N L pg rd = D ∧ usL D N L pg rd = L := by
  have e0 : tkE D N L = 6 := by unfold tkE; rw [if_neg hl, if_neg (by omega)]
  have eD : tkD D N L = D := by unfold tkD; rw [if_neg hl, if_neg (by omega)]
  have e1 : usE D N L pg rd = 6 := by unfold usE; rw [if_neg h, if_neg (by rw [e0]; decide), e0]
  refine ⟨e1, ?_, ?_⟩
  · unfold usD; rw [if_neg h, if_neg (by rw [e0]; decide), eD]
  · unfold usL; rw [if_neg h, if_neg (by rw [e1]; decide)]; unfold tkL; rw [if_neg hl, if_neg (by omega)]

/-- All of k pages are there, each with a pin. -/
structure FullI (D : Dv) (k : Nat) (L : List Fr) (c : Nat) : Prop where
  well : Well D
  n : D.n = 20
  ops : D.ops ≤ k
  since : D.since = []
  len : L.length = k
  pins : ∀ f ∈ L, 1 ≤ f.pins ∧ f.pins ≤ c
  pages : ∀ x : Nat, (∃ f ∈ L, f.page = x) ↔ x < k

theorem FullI.nu {D : Dv} {k : Nat} {L : List Fr} {c : Nat} (h : FullI D k L c) : nuP L 0 = L.length := nuP_all (fun f hf => by have := (h.pins f hf).1; omega)
theorem FullI.yes {D : Dv} {k : Nat} {L : List Fr} {c : Nat} (h : FullI D k L c) {n : Nat} (hn : n < k) : fiP L n < L.length := by
  obtain ⟨f, hf, e⟩ := (h.pages n).2 hn
  exact (fiP_some ⟨f, hf, by rw [e]⟩).1
theorem FullI.no {D : Dv} {k : Nat} {L : List Fr} {c : Nat} (h : FullI D k L c) {n : Nat} (hn : k ≤ n) : ¬ fiP L n < L.length :=
  fiP_none (fun f hf e => by have := (h.pages n).1 ⟨f, hf, by omega⟩; omega)

/-- A frame of them turns, and goes to the end. -/
theorem FullI.turn {D : Dv} {k : Nat} {L : List Fr} {c : Nat} (h : FullI D k L c) {i : Nat} (hi : i < L.length) (f : Fr) (hp : f.page = (L.getD i fr0).page) (h1 : 1 ≤ f.pins) (h2 : f.pins ≤ c + 1) : FullI D k (L.eraseIdx i ++ [f]) (c + 1) := by
  have hperm := erase_perm L fr0 i hi
  refine ⟨h.well, h.n, h.ops, h.since, ?_, fun g hg => ?_, fun x => ?_⟩
  · rw [List.length_append, List.length_eraseIdx_of_lt hi, h.len]
    simp
    have := h.len
    omega
  · rcases List.mem_append.1 hg with hg | hg
    · have := h.pins g (List.mem_of_mem_eraseIdx hg); omega
    · simp at hg; rw [hg]; omega
  · rw [← h.pages x]
    constructor
    · rintro ⟨g, hg, e⟩
      rcases List.mem_append.1 hg with hg | hg
      · exact ⟨g, List.mem_of_mem_eraseIdx hg, e⟩
      · simp at hg
        exact ⟨L.getD i fr0, getD_memF hi, by rw [← hp, ← hg]; exact e⟩
    · rintro ⟨g, hg, e⟩
      rcases List.mem_append.1 (hperm.mem_iff.2 hg) with hg | hg
      · exact ⟨g, List.mem_append_left _ hg, e⟩
      · simp only [List.mem_singleton] at hg
        exact ⟨f, by simp, by rw [hp, ← hg]; exact e⟩

theorem FullI.pin {D : Dv} {k : Nat} {L : List Fr} {c : Nat} (h : FullI D k L c) {n : Nat} (hn : n < k) (N : Nat) : usE D N L n true = 0 ∧ usD D N L n true = D ∧ FullI D k (pnL D N L n) (c + 1) := by
  have hf := h.yes hn
  obtain ⟨e1, e2, _⟩ := use_yes (D := D) (N := N) (rd := true) hf
  refine ⟨e1, e2, ?_⟩
  rw [(pn_yes hf).1]
  have := h.pins _ (getD_memF hf)
  exact h.turn hf _ rfl (by show 1 ≤ _ + 1; omega) (by show _ + 1 ≤ c + 1; omega)
theorem FullI.put {D : Dv} {k : Nat} {L : List Fr} {c : Nat} (h : FullI D k L c) {n : Nat} (hn : n < k) (N : Nat) (b : List Int) : usE D N L n false = 0 ∧ usD D N L n false = D ∧ FullI D k (ptL D N L n b) (c + 1) := by
  have hf := h.yes hn
  obtain ⟨e1, e2, _⟩ := use_yes (D := D) (N := N) (rd := false) hf
  refine ⟨e1, e2, ?_⟩
  rw [pt_yes hf]
  have := h.pins _ (getD_memF hf)
  exact h.turn hf _ rfl (by show 1 ≤ (L.getD _ fr0).pins; omega) (by show (L.getD _ fr0).pins ≤ c + 1; omega)
theorem FullI.out {D : Dv} {k : Nat} {L : List Fr} {c : Nat} (h : FullI D k L c) {n : Nat} (hn : k ≤ n) (b : List Int) : usE D k L n true = 6 ∧ usD D k L n true = D ∧ pnL D k L n = L ∧ usE D k L n false = 6 ∧ usD D k L n false = D ∧ ptL D k L n b = L := by
  have hf := h.no hn
  have hl : ¬ L.length < k := by rw [h.len]; omega
  obtain ⟨a1, a2, a3⟩ := use_full6 (D := D) (rd := true) hf hl h.nu
  obtain ⟨b1, b2, b3⟩ := use_full6 (D := D) (rd := false) hf hl h.nu
  refine ⟨a1, a2, ?_, b1, b2, ?_⟩
  · unfold pnL; rw [if_neg (by rw [a1]; decide), a3]
  · unfold ptL; rw [if_neg (by rw [b1]; decide), b3]
theorem FullI.first {D : Dv} {k : Nat} {L : List Fr} {c : Nat} (h : FullI D k L c) (hc : 1 ≤ c) {N : Nat} (hk : k < N) : usE D N L k true = 0 ∧ usD D N L k true = readD D ∧ FullI (readD D) (k + 1) (pnL D N L k) c := by
  have hf := h.no (Nat.le_refl k)
  obtain ⟨e1, e2, e3⟩ := use_room (D := D) (N := N) (rd := true) hf (by rw [h.len]; exact hk) h.well.tells
  rw [if_pos rfl] at e2
  refine ⟨e1, e2, h.well.read, by rw [readD_n]; exact h.n, by have := (readD_ops D).1; have := h.ops; omega, by rw [(readD_ops D).2]; exact h.since, ?_, ?_, ?_⟩
  all_goals (unfold pnL; rw [if_pos e1, e3, lastUp_snoc])
  · simp [h.len]
  · intro f hf
    rcases List.mem_append.1 hf with hf | hf
    · exact h.pins f hf
    · simp at hf; rw [hf]; exact ⟨by simp, by simpa using hc⟩
  · intro x
    constructor
    · rintro ⟨f, hf, e⟩
      rcases List.mem_append.1 hf with hf | hf
      · have := (h.pages x).1 ⟨f, hf, e⟩; omega
      · simp at hf; rw [hf] at e; simp at e; omega
    · intro hx
      by_cases hxk : x < k
      · obtain ⟨f, hf, e⟩ := (h.pages x).2 hxk
        exact ⟨f, List.mem_append_left _ hf, e⟩
      · exact ⟨⟨k, fst0 D k true, false, 0 + 1⟩, List.mem_append_right _ (by simp), by show k = x; omega⟩
theorem FullI.forget {D : Dv} {k : Nat} {L : List Fr} {c : Nat} (h : FullI D k L c) (n : Nat) : fgB L n = false ∧ fgL L n = L := by
  have e : fgB L n = false := by
    unfold fgB
    by_cases hf : fiP L n < L.length
    · have := h.pins _ (getD_memF hf)
      simp only [decide_eq_true hf, Bool.true_and, decide_eq_false_iff_not]
      omega
    · simp [hf]
  exact ⟨e, by unfold fgL; rw [if_neg (by rw [e]; simp)]⟩
theorem FullI.res {D : Dv} {k : Nat} {L : List Fr} {c : Nat} (h : FullI D k L c) : (pgsP L fitA).length = k ∧ (L.filter fitP).length = k := by
  refine ⟨?_, ?_⟩
  · rw [pgsP_len, show List.filter fitA L = L from List.filter_eq_self.2 (fun f _ => rfl)]; exact h.len
  · rw [List.filter_eq_self.2 (fun f hf => by have := (h.pins f hf).1; simp [fitP]; omega)]; exact h.len

theorem and15 (z : Int) : ∃ n : Nat, n ≤ 15 ∧ bits .and .i64 z 15 = (n : Int) := by
  refine ⟨(BitVec.ofInt 64 z).toNat &&& 15, Nat.and_le_right, ?_⟩
  show IntKind.i64.wrap ((BitVec.ofInt 64 z &&& BitVec.ofInt 64 15).toNat : Int) = _
  have e : (BitVec.ofInt 64 15).toNat = 15 := by decide
  rw [BitVec.toNat_and, e, IntKind.wrap_i64]
  have : (BitVec.ofInt 64 z).toNat &&& 15 ≤ 15 := Nat.and_le_right
  omega
end Go.Proofs.YtojckbhbnalkeaaGreat.Oct

/-
  Pages that were used, in their order, plainly.
-/
namespace Go.Proofs.YtojckbhbnalkeaaGreat.Oct
open Go.RowKit

theorem fiP_snoc {X : List Fr} {f : Fr} (h : ∀ g ∈ X, g.page ≠ f.page) : fiP (X ++ [f]) f.page = X.length := by
  unfold fiP
  rw [List.findIdx_append]
  have e : List.findIdx (fun g => decide ((g.page : Int) = (f.page : Int))) X = X.length := List.findIdx_eq_length.2 (fun g hg => by have := h g hg; simp; omega)
  rw [e, if_neg (by omega)]
  simp

/-- A frame at the end that has one pin is unpinned. -/
theorem un_snoc {X : List Fr} {f : Fr} (h : ∀ g ∈ X, g.page ≠ f.page) (hp : f.pins = 1) : unE (X ++ [f]) f.page = 0 ∧ unL (X ++ [f]) f.page = X ++ [{ f with pins := 0 }] := by
  have e := fiP_snoc h
  have hg : (X ++ [f]).getD X.length fr0 = f := by simp [List.getD_eq_getElem?_getD]
  have hb : pinB (X ++ [f]) f.page = true := by
    unfold pinB
    rw [e, hg, hp]
    simp
  refine ⟨by unfold unE; rw [if_pos hb], ?_⟩
  unfold unL
  rw [if_pos hb, e, hg, List.set_append_right _ _ (Nat.le_refl _), hp]
  simp

/-- Frames that are clean and without pins. -/
structure OrdI (D : Dv) (L : List Fr) (c : Nat) : Prop where
  well : Well D
  n : D.n = 32
  ops : D.ops ≤ c
  since : D.since = []
  len : L.length ≤ 8
  pins : ∀ f ∈ L, f.pins = 0 ∧ f.dirty = false
  nd : (L.map (·.page)).Nodup

/-- The pages, the one that was used last first. -/
def usedP (L : List Fr) : List Int := (L.map fun f => (f.page : Int)).reverse

theorem usedP_snoc (X : List Fr) (f : Fr) : usedP (X ++ [f]) = (f.page : Int) :: usedP X := by simp [usedP]

/-- What is used next. -/
def nextU (us : List Int) (n : Int) : List Int := n :: (us.filter (fun x => decide (x ≠ n))).take 7

theorem filter_erase {L : List Fr} (hn : (L.map (·.page)).Nodup) {i : Nat} (hi : i < L.length) : L.filter (fun g => decide (g.page ≠ (L.getD i fr0).page)) = L.eraseIdx i := by
  induction L generalizing i with
  | nil => simp at hi
  | cons b r ih =>
    simp only [List.map_cons, List.nodup_cons] at hn
    cases i with
    | zero =>
      simp only [List.getD_cons_zero, List.filter_cons, ne_eq, not_true_eq_false, decide_false, Bool.false_eq_true, if_false, List.eraseIdx_cons_zero]
      exact List.filter_eq_self.2 (fun g hg => by simp only [decide_eq_true_eq]; exact fun e => hn.1 (e ▸ List.mem_map_of_mem hg))
    | succ i =>
      have hi' : i < r.length := by simpa using hi
      have hne : b.page ≠ (r.getD i fr0).page := fun e => hn.1 (by rw [e]; exact List.mem_map_of_mem (getD_memF hi'))
      simp only [List.getD_cons_succ, List.filter_cons, ne_eq, hne, not_false_eq_true, decide_true, if_true, List.eraseIdx_cons_succ]
      rw [← ih hn.2 hi']

theorem usedP_filter (L : List Fr) (n : Nat) : (usedP L).filter (fun x => decide (x ≠ (n : Int))) = usedP (L.filter (fun g => decide (g.page ≠ n))) := by
  unfold usedP
  rw [List.filter_reverse, List.filter_map]
  congr 2
  have : (fun x : Int => decide (x ≠ (n : Int))) ∘ (fun f : Fr => (f.page : Int)) = fun g : Fr => decide (g.page ≠ n) := by
    funext g
    simp only [Function.comp, decide_eq_decide]
    omega
  rw [this]

theorem usedP_len (L : List Fr) : (usedP L).length = L.length := by simp [usedP]

/-- One page is pinned and unpinned: X, the frames that were there and stay; b, its bytes. -/
theorem OrdI.step {D : Dv} {L : List Fr} {c : Nat} (h : OrdI D L c) (n : Nat) : usE D 8 L n true = 0 ∧ ∃ X f, pnL D 8 L n = X ++ [f] ∧ f.page = n ∧ f.pins = 1 ∧ (∀ g ∈ X, g.page ≠ f.page) ∧ OrdI (usD D 8 L n true) (X ++ [{ f with pins := 0 }]) (c + 1) ∧ usedP (X ++ [{ f with pins := 0 }]) = nextU (usedP L) n := by
  have hread := readD_ops D
  by_cases hf : fiP L n < L.length
  · have hx : ∃ f ∈ L, (f.page : Int) = n := by
      have := List.findIdx_getElem (w := hf)
      simp only [decide_eq_true_eq] at this
      exact ⟨_, List.getElem_mem hf, this⟩
    have hpage : (L.getD (fiP L n) fr0).page = n := by have := (fiP_some hx).2; omega
    obtain ⟨e1, e2, _⟩ := use_yes (D := D) (N := 8) (rd := true) hf
    have hnd : ∀ g ∈ L.eraseIdx (fiP L n), g.page ≠ n := fun g hg => by
      rw [← filter_erase h.nd hf, List.mem_filter] at hg
      have := hg.2
      rw [hpage] at this
      simpa using this
    obtain ⟨q1, q2⟩ := h.pins _ (getD_memF hf)
    refine ⟨e1, L.eraseIdx (fiP L n), _, (pn_yes hf).1, hpage, by show (L.getD _ fr0).pins + 1 = 1; rw [q1], fun g hg => by rw [show (Fr.page _) = n from hpage]; exact hnd g hg, ⟨?_, ?_, ?_, ?_, ?_, ?_, ?_⟩, ?_⟩
    · rw [e2]; exact h.well
    · rw [e2]; exact h.n
    · rw [e2]; have := h.ops; omega
    · rw [e2]; exact h.since
    · rw [List.length_append, List.length_eraseIdx_of_lt hf]; have := h.len; simp; omega
    · intro g hg
      rcases List.mem_append.1 hg with hg | hg
      · exact h.pins g (List.mem_of_mem_eraseIdx hg)
      · simp at hg; rw [hg]; exact ⟨rfl, by simpa using q2⟩
    · have hp := erase_perm L fr0 (fiP L n) hf
      have e3 : ((L.eraseIdx (fiP L n) ++ [({ L.getD (fiP L n) fr0 with pins := 0 } : Fr)]).map (·.page)) = (L.eraseIdx (fiP L n) ++ [L.getD (fiP L n) fr0]).map (·.page) := by simp
      exact e3 ▸ (hp.map _).nodup_iff.2 h.nd
    · rw [usedP_snoc]
      show ((L.getD (fiP L n) fr0).page : Int) :: _ = _
      unfold nextU
      have e4 := filter_erase h.nd hf
      rw [hpage] at e4
      rw [hpage, usedP_filter, e4, List.take_of_length_le]
      rw [usedP_len, List.length_eraseIdx_of_lt hf]
      have := h.len
      omega
  · have hnn : ∀ g ∈ L, g.page ≠ n := fun g hg e => hf (fiP_some ⟨g, hg, by rw [e]⟩).1
    have hfil : (usedP L).filter (fun x => decide (x ≠ (n : Int))) = usedP L := by
      rw [usedP_filter, List.filter_eq_self.2 (fun g hg => by simpa using hnn g hg)]
    by_cases hl : L.length < 8
    · obtain ⟨e1, e2, e3⟩ := use_room (D := D) (N := 8) (rd := true) hf hl h.well.tells
      rw [if_pos rfl] at e2
      refine ⟨e1, L, ⟨n, fst0 D n true, false, 1⟩, ?_, rfl, rfl, hnn, ⟨?_, ?_, ?_, ?_, ?_, ?_, ?_⟩, ?_⟩
      · unfold pnL; rw [if_pos e1, e3, lastUp_snoc]
      · rw [e2]; exact h.well.read
      · rw [e2, readD_n]; exact h.n
      · rw [e2]; have := h.ops; omega
      · rw [e2, hread.2]; exact h.since
      · simp; omega
      · intro g hg
        rcases List.mem_append.1 hg with hg | hg
        · exact h.pins g hg
        · simp at hg; rw [hg]; exact ⟨rfl, rfl⟩
      · rw [List.map_append]
        refine List.nodup_append.2 ⟨h.nd, by simp, fun a ha b hb => ?_⟩
        simp at hb
        subst hb
        obtain ⟨g, hg, rfl⟩ := List.mem_map.1 ha
        exact hnn g hg
      · rw [usedP_snoc]
        unfold nextU
        rw [hfil, List.take_of_length_le (by rw [usedP_len]; omega)]
    · have h8 : L.length = 8 := by have := h.len; omega
      have h0 : nuP L 0 = 0 := nuP_hit (by omega) (h.pins _ (getD_memF (by omega))).1
      obtain ⟨e1, e2, e3⟩ := use_leave (D := D) (N := 8) (rd := true) hf hl (by omega) h.well
      rw [h0] at e2 e3
      have ed : evD D (L.getD 0 fr0) = D := by unfold evD; rw [if_neg (by rw [(h.pins _ (getD_memF (by omega))).2]; simp)]
      rw [if_pos rfl, ed] at e2
      rw [ed] at e3
      refine ⟨e1, L.eraseIdx 0, ⟨n, fst0 D n true, false, 1⟩, ?_, rfl, rfl, fun g hg => hnn g (List.mem_of_mem_eraseIdx hg), ⟨?_, ?_, ?_, ?_, ?_, ?_, ?_⟩, ?_⟩
      · unfold pnL; rw [if_pos e1, e3, lastUp_snoc]
      · rw [e2]; exact h.well.read
      · rw [e2, readD_n]; exact h.n
      · rw [e2]; have := h.ops; omega
      · rw [e2, hread.2]; exact h.since
      · rw [List.length_append, List.length_eraseIdx_of_lt (by omega)]; simp; omega
      · intro g hg
        rcases List.mem_append.1 hg with hg | hg
        · exact h.pins g (List.mem_of_mem_eraseIdx hg)
        · simp at hg; rw [hg]; exact ⟨rfl, rfl⟩
      · rw [List.map_append, map_erase]
        refine List.nodup_append.2 ⟨h.nd.sublist (List.eraseIdx_sublist _ _), by simp, fun a ha b hb => ?_⟩
        simp at hb
        subst hb
        obtain ⟨g, hg, rfl⟩ := List.mem_map.1 (List.mem_of_mem_eraseIdx ha)
        exact hnn g hg
      · rw [usedP_snoc]
        unfold nextU
        rw [hfil]
        congr 1
        cases L with
        | nil => simp at h8
        | cons b r =>
          have hr : r.length = 7 := by simpa using h8
          have e4 : usedP (b :: r) = usedP r ++ [(b.page : Int)] := by simp [usedP]
          rw [e4, List.take_append_of_le_length (by rw [usedP_len]; omega), List.take_of_length_le (by rw [usedP_len]; omega)]
          rfl

/-- The list on its way. -/
def nxK (us : List Int) (n : Int) (k : Nat) : List Int := n :: (us.take k).filter (fun x => decide (x ≠ n))

theorem nxK_yes {us : List Int} {n : Int} {k : Nat} (hk : k < us.length) (h : us.getD k 0 ≠ n) : nxK us n (k + 1) = nxK us n k ++ [us.getD k 0] := by
  unfold nxK
  rw [List.take_add_one, List.getElem?_eq_getElem hk, List.filter_append]
  rw [List.getD_eq_getElem?_getD, List.getElem?_eq_getElem hk, Option.getD_some] at h ⊢
  simp [h]
theorem nxK_no {us : List Int} {n : Int} {k : Nat} (hk : k < us.length) (h : us.getD k 0 = n) : nxK us n (k + 1) = nxK us n k := by
  unfold nxK
  rw [List.take_add_one, List.getElem?_eq_getElem hk, List.filter_append]
  rw [List.getD_eq_getElem?_getD, List.getElem?_eq_getElem hk, Option.getD_some] at h
  simp [h]
theorem nxK_all {us : List Int} {n : Int} (h : (nxK us n us.length).length ≤ 8) : nxK us n us.length = nextU us n := by
  unfold nxK nextU at *
  rw [List.take_length] at h ⊢
  rw [List.take_of_length_le (by simpa using h)]
theorem nxK_full {us : List Int} {n : Int} {k : Nat} (h : (nxK us n k).length = 8) : nxK us n k = nextU us n := by
  unfold nxK nextU at *
  congr 1
  have h7 : ((us.take k).filter (fun x => decide (x ≠ n))).length = 7 := by simpa using h
  have e : us.filter (fun x => decide (x ≠ n)) = (us.take k).filter (fun x => decide (x ≠ n)) ++ (us.drop k).filter (fun x => decide (x ≠ n)) := by rw [← List.filter_append, List.take_append_drop]
  rw [e, List.take_append_of_le_length (by omega)]
  exact (List.take_of_length_le (by omega)).symm
end Go.Proofs.YtojckbhbnalkeaaGreat.Oct
