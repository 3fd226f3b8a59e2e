/-
  Frames that are all pinned, plainly; what use does to frames, plainly.
-/
import Derived.Test.YtojckbhbnalkeaaIs
namespace Go.Proofs.Ytojckbhbnalkeaa.Oct
open Go.RowKit

theorem fiP_some {L : List Fr} {x : Int} (h : ∃ f ∈ L, (f.page : Int) = x) : fiP L x < L.length ∧ ((L.getD (fiP L x) fr0).page : Int) = x := by
  obtain ⟨f, hf, hx⟩ := h
  have h1 : fiP L x < L.length := List.findIdx_lt_length.2 ⟨f, hf, by simpa using hx⟩
  refine ⟨h1, ?_⟩
  have := List.findIdx_getElem (w := h1)
  simp only [decide_eq_true_eq] at this
  rw [List.getD_eq_getElem?_getD, List.getElem?_eq_getElem h1, Option.getD_some]
  exact this

theorem getD_memF {L : List Fr} {i : Nat} (hi : i < L.length) : L.getD i fr0 ∈ L := by
  rw [List.getD_eq_getElem?_getD, List.getElem?_eq_getElem hi, Option.getD_some]
  exact List.getElem_mem hi

theorem nuP_all {L : List Fr} (h : ∀ f ∈ L, f.pins ≠ 0) : nuP L 0 = L.length := by
  unfold nuP
  rw [List.drop_zero, Nat.zero_add]
  exact List.findIdx_eq_length.2 (fun f hf => by simpa using h f hf)

theorem evS_none {L : List Fr} (h : nuP L 0 = L.length) (n : Nat) (D : Dv) : evS n D L = (0, D, L) := by
  cases n with
  | zero => rfl
  | succ n =>
    show (if nuP L 0 < L.length then _ else _) = _
    rw [if_neg (by omega)]

/-- What use leaves of frames where the page is there. -/
theorem use_yes {D : Dv} {N : Nat} {L : List Fr} {pg : Nat} {rd : Bool} (h : fiP L pg < L.length) : usE D N L pg rd = 0 ∧ usD D N L pg rd = D ∧ usL D N L pg rd = L.eraseIdx (fiP L pg) ++ [L.getD (fiP L pg) fr0] := by
  refine ⟨?_, ?_, ?_⟩
  · unfold usE; rw [if_pos h]
  · unfold usD; rw [if_pos h]
  · unfold usL; rw [if_pos h]

theorem pn_yes {D : Dv} {N : Nat} {L : List Fr} {pg : Nat} (h : fiP L pg < L.length) : pnL D N L pg = L.eraseIdx (fiP L pg) ++ [{ L.getD (fiP L pg) fr0 with pins := (L.getD (fiP L pg) fr0).pins + 1 }] ∧ pnB D N L pg = (L.getD (fiP L pg) fr0).b := by
  obtain ⟨e1, _, e3⟩ := use_yes (D := D) (N := N) (rd := true) h
  refine ⟨?_, ?_⟩
  · unfold pnL; rw [if_pos e1, e3, lastUp_snoc]
  · unfold pnB; rw [e3]; simp

theorem pt_yes {D : Dv} {N : Nat} {L : List Fr} {pg : Nat} (h : fiP L pg < L.length) (b : List Int) : ptL D N L pg b = L.eraseIdx (fiP L pg) ++ [{ L.getD (fiP L pg) fr0 with b := b, dirty := true }] := by
  obtain ⟨e1, _, e3⟩ := use_yes (D := D) (N := N) (rd := false) h
  unfold ptL; rw [if_pos e1, e3, lastUp_snoc]

/-- .. where it is not, and there is room. -/
theorem use_room {D : Dv} {N : Nat} {L : List Fr} {pg : Nat} {rd : Bool} (h : ¬ fiP L pg < L.length) (hl : L.length < N) (ht : tellsD D = true) :
    usE D N L pg rd = 0 ∧ usD D N L pg rd = (if rd = true then readD D else D) ∧ usL D N L pg rd = L ++ [⟨pg, fst0 D pg rd, false, 0⟩] := by
  have e0 : tkE D N L = 0 := by unfold tkE; rw [if_pos hl]
  have eD : tkD D N L = D := by unfold tkD; rw [if_pos hl]
  have e1 : usE D N L pg rd = 0 := by unfold usE; rw [if_neg h, if_pos e0, eD, if_neg (by rw [ht]; simp)]
  refine ⟨e1, ?_, ?_⟩
  · unfold usD; rw [if_neg h, if_pos e0, eD]
  · unfold usL; rw [if_neg h, if_pos e1, eD]; unfold tkL; rw [if_pos hl]

/-- .. where it is not, and one leaves. -/
theorem use_leave {D : Dv} {N : Nat} {L : List Fr} {pg : Nat} {rd : Bool} (h : ¬ fiP L pg < L.length) (hl : ¬ L.length < N) (hn : nuP L 0 < L.length) (hw : Well D) :
    usE D N L pg rd = 0 ∧ usD D N L pg rd = (if rd = true then readD (evD D (L.getD (nuP L 0) fr0)) else evD D (L.getD (nuP L 0) fr0)) ∧ usL D N L pg rd = L.eraseIdx (nuP L 0) ++ [⟨pg, fst0 (evD D (L.getD (nuP L 0) fr0)) pg rd, false, 0⟩] := by
  have ee : evE D (L.getD (nuP L 0) fr0) = 0 := by
    unfold evE; split
    · exact hw.says
    · rfl
  have e0 : tkE D N L = 0 := by unfold tkE; rw [if_neg hl, if_pos hn, ee]
  have eD : tkD D N L = evD D (L.getD (nuP L 0) fr0) := by unfold tkD; rw [if_neg hl, if_pos hn]
  have ht : tellsD (evD D (L.getD (nuP L 0) fr0)) = true := by
    unfold evD; split
    · exact (hw.write _ _).tells
    · exact hw.tells
  have e1 : usE D N L pg rd = 0 := by unfold usE; rw [if_neg h, if_pos e0, eD, if_neg (by rw [ht]; simp)]
  refine ⟨e1, ?_, ?_⟩
  · unfold usD; rw [if_neg h, if_pos e0, eD]
  · unfold usL; rw [if_neg h, if_pos e1, eD]; unfold tkL; rw [if_neg hl, if_pos hn, if_pos ee]

/-- .. where all have pins. -/
theorem use_full6 {D : Dv} {N : Nat} {L : List Fr} {pg : Nat} {rd : Bool} (h : ¬ fiP L pg < L.length) (hl : ¬ L.length < N) (hn : nuP L 0 = L.length) : usE D N L pg rd = 6 ∧ usD D N L pg rd = D ∧ usL D N L pg rd = L := by
  have e0 : tkE D N L = 6 := by unfold tkE; rw [if_neg hl, if_neg (by omega)]
  have eD : tkD D N L = D := by unfold tkD; rw [if_neg hl, if_neg (by omega)]
  have e1 : usE D N L pg rd = 6 := by unfold usE; rw [if_neg h, if_neg (by rw [e0]; decide), e0]
  refine ⟨e1, ?_, ?_⟩
  · unfold usD; rw [if_neg h, if_neg (by rw [e0]; decide), eD]
  · unfold usL; rw [if_neg h, if_neg (by rw [e1]; decide)]; unfold tkL; rw [if_neg hl, if_neg (by omega)]

/-- All of k pages are there, each with a pin. -/
structure FullI (D : Dv) (k : Nat) (L : List Fr) (c : Nat) : Prop where
  well : Well D
  n : D.n = 20
  ops : D.ops ≤ k
  since : D.since = []
  len : L.length = k
  pins : ∀ f ∈ L, 1 ≤ f.pins ∧ f.pins ≤ c
  pages : ∀ x : Nat, (∃ f ∈ L, f.page = x) ↔ x < k

theorem FullI.nu {D : Dv} {k : Nat} {L : List Fr} {c : Nat} (h : FullI D k L c) : nuP L 0 = L.length := nuP_all (fun f hf => by have := (h.pins f hf).1; omega)
theorem FullI.yes {D : Dv} {k : Nat} {L : List Fr} {c : Nat} (h : FullI D k L c) {n : Nat} (hn : n < k) : fiP L n < L.length := by
  obtain ⟨f, hf, e⟩ := (h.pages n).2 hn
  exact (fiP_some ⟨f, hf, by rw [e]⟩).1
theorem FullI.no {D : Dv} {k : Nat} {L : List Fr} {c : Nat} (h : FullI D k L c) {n : Nat} (hn : k ≤ n) : ¬ fiP L n < L.length :=
  fiP_none (fun f hf e => by have := (h.pages n).1 ⟨f, hf, by omega⟩; omega)

/-- A frame of them turns, and goes to the end. -/
theorem FullI.turn {D : Dv} {k : Nat} {L : List Fr} {c : Nat} (h : FullI D k L c) {i : Nat} (hi : i < L.length) (f : Fr) (hp : f.page = (L.getD i fr0).page) (h1 : 1 ≤ f.pins) (h2 : f.pins ≤ c + 1) : FullI D k (L.eraseIdx i ++ [f]) (c + 1) := by
  have hperm := erase_perm L fr0 i hi
  refine ⟨h.well, h.n, h.ops, h.since, ?_, fun g hg => ?_, fun x => ?_⟩
  · rw [List.length_append, List.length_eraseIdx_of_lt hi, h.len]
    simp
    have := h.len
    omega
  · rcases List.mem_append.1 hg with hg | hg
    · have := h.pins g (List.mem_of_mem_eraseIdx hg); omega
    · simp at hg; rw [hg]; omega
  · rw [← h.pages x]
    constructor
    · rintro ⟨g, hg, e⟩
      rcases List.mem_append.1 hg with hg | hg
      · exact ⟨g, List.mem_of_mem_eraseIdx hg, e⟩
      · simp at hg
        exact ⟨L.getD i fr0, getD_memF hi, by rw [← hp, ← hg]; exact e⟩
    · rintro ⟨g, hg, e⟩
      rcases List.mem_append.1 (hperm.mem_iff.2 hg) with hg | hg
      · exact ⟨g, List.mem_append_left _ hg, e⟩
      · simp only [List.mem_singleton] at hg
        exact ⟨f, by simp, by rw [hp, ← hg]; exact e⟩

theorem FullI.pin {D : Dv} {k : Nat} {L : List Fr} {c : Nat} (h : FullI D k L c) {n : Nat} (hn : n < k) (N : Nat) : usE D N L n true = 0 ∧ usD D N L n true = D ∧ FullI D k (pnL D N L n) (c + 1) := by
  have hf := h.yes hn
  obtain ⟨e1, e2, _⟩ := use_yes (D := D) (N := N) (rd := true) hf
  refine ⟨e1, e2, ?_⟩
  rw [(pn_yes hf).1]
  have := h.pins _ (getD_memF hf)
  exact h.turn hf _ rfl (by show 1 ≤ _ + 1; omega) (by show _ + 1 ≤ c + 1; omega)
theorem FullI.put {D : Dv} {k : Nat} {L : List Fr} {c : Nat} (h : FullI D k L c) {n : Nat} (hn : n < k) (N : Nat) (b : List Int) : usE D N L n false = 0 ∧ usD D N L n false = D ∧ FullI D k (ptL D N L n b) (c + 1) := by
  have hf := h.yes hn
  obtain ⟨e1, e2, _⟩ := use_yes (D := D) (N := N) (rd := false) hf
  refine ⟨e1, e2, ?_⟩
  rw [pt_yes hf]
  have := h.pins _ (getD_memF hf)
  exact h.turn hf _ rfl (by show 1 ≤ (L.getD _ fr0).pins; omega) (by show (L.getD _ fr0).pins ≤ c + 1; omega)
theorem FullI.out {D : Dv} {k : Nat} {L : List Fr} {c : Nat} (h : FullI D k L c) {n : Nat} (hn : k ≤ n) (b : List Int) : usE D k L n true = 6 ∧ usD D k L n true = D ∧ pnL D k L n = L ∧ usE D k L n false = 6 ∧ usD D k L n false = D ∧ ptL D k L n b = L := by
  have hf := h.no hn
  have hl : ¬ L.length < k := by rw [h.len]; omega
  obtain ⟨a1, a2, a3⟩ := use_full6 (D := D) (rd := true) hf hl h.nu
  obtain ⟨b1, b2, b3⟩ := use_full6 (D := D) (rd := false) hf hl h.nu
  refine ⟨a1, a2, ?_, b1, b2, ?_⟩
  · unfold pnL; rw [if_neg (by rw [a1]; decide), a3]
  · unfold ptL; rw [if_neg (by rw [b1]; decide), b3]
theorem FullI.first {D : Dv} {k : Nat} {L : List Fr} {c : Nat} (h : FullI D k L c) (hc : 1 ≤ c) {N : Nat} (hk : k < N) : usE D N L k true = 0 ∧ usD D N L k true = readD D ∧ FullI (readD D) (k + 1) (pnL D N L k) c := by
  have hf := h.no (Nat.le_refl k)
  obtain ⟨e1, e2, e3⟩ := use_room (D := D) (N := N) (rd := true) hf (by rw [h.len]; exact hk) h.well.tells
  rw [if_pos rfl] at e2
  refine ⟨e1, e2, h.well.read, by rw [readD_n]; exact h.n, by have := (readD_ops D).1; have := h.ops; omega, by rw [(readD_ops D).2]; exact h.since, ?_, ?_, ?_⟩
  all_goals (unfold pnL; rw [if_pos e1, e3, lastUp_snoc])
  · simp [h.len]
  · intro f hf
    rcases List.mem_append.1 hf with hf | hf
    · exact h.pins f hf
    · simp at hf; rw [hf]; exact ⟨by simp, by simpa using hc⟩
  · intro x
    constructor
    · rintro ⟨f, hf, e⟩
      rcases List.mem_append.1 hf with hf | hf
      · have := (h.pages x).1 ⟨f, hf, e⟩; omega
      · simp at hf; rw [hf] at e; simp at e; omega
    · intro hx
      by_cases hxk : x < k
      · obtain ⟨f, hf, e⟩ := (h.pages x).2 hxk
        exact ⟨f, List.mem_append_left _ hf, e⟩
      · exact ⟨⟨k, fst0 D k true, false, 0 + 1⟩, List.mem_append_right _ (by simp), by show k = x; omega⟩
theorem FullI.forget {D : Dv} {k : Nat} {L : List Fr} {c : Nat} (h : FullI D k L c) (n : Nat) : fgB L n = false ∧ fgL L n = L := by
  have e : fgB L n = false := by
    unfold fgB
    by_cases hf : fiP L n < L.length
    · have := h.pins _ (getD_memF hf)
      simp only [decide_eq_true hf, Bool.true_and, decide_eq_false_iff_not]
      omega
    · simp [hf]
  exact ⟨e, by unfold fgL; rw [if_neg (by rw [e]; simp)]⟩
theorem FullI.res {D : Dv} {k : Nat} {L : List Fr} {c : Nat} (h : FullI D k L c) : (pgsP L fitA).length = k ∧ (L.filter fitP).length = k := by
  refine ⟨?_, ?_⟩
  · rw [pgsP_len, show List.filter fitA L = L from List.filter_eq_self.2 (fun f _ => rfl)]; exact h.len
  · rw [List.filter_eq_self.2 (fun f hf => by have := (h.pins f hf).1; simp [fitP]; omega)]; exact h.len

theorem and15 (z : Int) : ∃ n : Nat, n ≤ 15 ∧ bits .and .i64 z 15 = (n : Int) := by
  refine ⟨(BitVec.ofInt 64 z).toNat &&& 15, Nat.and_le_right, ?_⟩
  show IntKind.i64.wrap ((BitVec.ofInt 64 z &&& BitVec.ofInt 64 15).toNat : Int) = _
  have e : (BitVec.ofInt 64 15).toNat = 15 := by decide
  rw [BitVec.toNat_and, e, IntKind.wrap_i64]
  have : (BitVec.ofInt 64 z).toNat &&& 15 ≤ 15 := Nat.and_le_right
  omega
end Go.Proofs.Ytojckbhbnalkeaa.Oct
