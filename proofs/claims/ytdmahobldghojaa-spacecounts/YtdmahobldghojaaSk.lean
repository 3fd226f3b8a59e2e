/-
  Taking all pages, plainly; rows of bools.
-/
import Derived.Test.YtdmahobldghojaaSj
namespace Go.Proofs.Ytdmahobldghojaa.Oct
open Go.RowKit

/-- Two, then i, then r. -/
def fl3 {α : Type} (a b c : α) (i r : Nat) : List α := [a, a] ++ List.replicate i b ++ List.replicate r c
section
variable {α : Type} {a b c : α} {i r : Nat}
theorem fl3_len : (fl3 a b c i r).length = 2 + i + r := by simp [fl3]; omega
theorem fl3_at (h : 0 < r) : (fl3 a b c i r)[2 + i]? = some c := by
  unfold fl3
  rw [List.getElem?_append_right (by simp; omega), List.getElem?_replicate]
  simp
  omega
theorem fl3_set : (fl3 a b c i (r + 1)).set (2 + i) b = fl3 a b c (i + 1) r := by
  unfold fl3
  have hl : ([a, a] ++ List.replicate i b).length = 2 + i := by simp; omega
  rw [List.set_append_right _ _ (by omega), hl, Nat.sub_self, List.replicate_succ (n := r), List.set_cons_zero, List.replicate_succ' (n := i)]
  simp
end
theorem newS_fl3 (r : Nat) : newS (r + 2) = fl3 1 2 0 0 r := by
  simp [newS, fl3, List.replicate_succ]
theorem fl3_low {i r j : Nat} (h : j < 2 + i) : (fl3 (1 : Int) 2 0 i r).getD j 0 ≠ 0 := by
  unfold fl3
  rw [List.getD_eq_getElem?_getD, List.getElem?_append_left (by simp; omega)]
  by_cases h2 : j < 2
  · rw [List.getElem?_append_left (by simpa using h2)]
    match j, h2 with
    | 0, _ => simp
    | 1, _ => simp
  · rw [List.getElem?_append_right (by simp; omega), List.getElem?_replicate, if_pos (by simp; omega)]
    simp
theorem fl3_fr (i r : Nat) : frI (fl3 1 2 0 i (r + 1)) = 2 + i := frI_eq (by rw [fl3_len]; omega) (by rw [List.getD_eq_getElem?_getD, fl3_at (by omega)]; rfl) (fun _ h => fl3_low h)
theorem fl3_full (i : Nat) : frI (fl3 1 2 0 i 0) = (fl3 (1 : Int) 2 0 i 0).length := frI_none fun j h => fl3_low (by rw [fl3_len] at h; omega)
theorem fl3_al (i r : Nat) : alL (fl3 1 2 0 i (r + 1)) = fl3 1 2 0 (i + 1) r ∧ alN (fl3 1 2 0 i (r + 1)) = ((2 + i : Nat) : Int) ∧ alE (fl3 1 2 0 i (r + 1)) = 0 := by
  have hl : 2 + i < (fl3 (1 : Int) 2 0 i (r + 1)).length := by rw [fl3_len]; omega
  unfold alL alN alE
  rw [fl3_fr, if_pos hl, if_pos hl, if_pos hl, fl3_set]
  exact ⟨rfl, rfl, rfl⟩
theorem fl3_end (i : Nat) : alL (fl3 1 2 0 i 0) = fl3 1 2 0 i 0 ∧ alE (fl3 1 2 0 i 0) = 6 := by
  unfold alL alE
  rw [fl3_full, if_neg (Nat.lt_irrefl _), if_neg (Nat.lt_irrefl _)]
  exact ⟨rfl, rfl⟩
theorem fl3_free (i r : Nat) : (fl3 (1 : Int) 2 0 i r).count 0 = r := by
  unfold fl3
  simp [List.count_append, List.count_replicate]
theorem fl3_done (i : Nat) : trS 1 0 (fl3 1 2 0 i 0) = List.replicate (i + 2) 1 := by
  simp [trS, fl3, trZ, List.replicate_succ]

/-- All used or pending, k of them pending. -/
structure Gv (N k : Nat) (S : List Int) : Prop where
  len : S.length = N
  st : ∀ z ∈ S, z = 1 ∨ z = 3
  cn : S.count 3 = k
theorem Gv.start (N : Nat) : Gv N 0 (List.replicate N 1) := ⟨by simp, fun z hz => .inl (List.mem_replicate.1 hz).2, by simp [List.count_replicate]⟩
theorem Gv.free {N k : Nat} {S : List Int} (h : Gv N k S) : S.count 0 = 0 := by
  rw [List.count_eq_zero]
  intro e
  rcases h.st 0 e with h | h <;> omega
theorem Gv.le {N k : Nat} {S : List Int} (h : Gv N k S) : k ≤ N := by
  rw [← h.cn, ← h.len]
  exact List.count_le_length
theorem cnt_tr : ∀ {S : List Int}, (∀ z ∈ S, z = 1 ∨ z = 3) → (trS 1 0 S).count 0 = S.count 3
  | [], _ => rfl
  | z :: S, h => by
    have ih := cnt_tr (S := S) (fun y hy => h y (List.mem_cons_of_mem _ hy))
    unfold trS at ih ⊢
    rw [List.map_cons, List.count_cons, List.count_cons, ih]
    rcases h z List.mem_cons_self with rfl | rfl <;> rfl
theorem Gv.done {N k : Nat} {S : List Int} (h : Gv N k S) : (trS 1 0 S).count 0 = k := (cnt_tr h.st).trans h.cn
theorem Gv.give {N k : Nat} {S : List Int} (h : Gv N k S) (p : Int) : (gvE S p = 0 ∧ Gv N (k + 1) (gvL S p)) ∨ ((gvE S p == 0) = false ∧ gvL S p = S) := by
  unfold gvE gvL
  by_cases hb : gvB S p = true
  · rw [if_pos hb, if_pos hb]
    have hl : p.toNat < S.length := by
      unfold gvB at hb
      simp at hb
      omega
    have hm : S.getD p.toNat 0 ∈ S := by rw [List.getD_eq_getElem?_getD, List.getElem?_eq_getElem hl]; exact List.getElem_mem hl
    rcases h.st _ hm with e | e
    · rw [e, if_neg (by omega), if_pos rfl, if_neg (by omega), if_pos rfl]
      refine .inl ⟨rfl, by rw [List.length_set]; exact h.len, fun z hz => ?_, ?_⟩
      · rcases List.mem_or_eq_of_mem_set hz with hz | rfl
        · exact h.st z hz
        · exact .inr rfl
      · have hg : S[p.toNat] = 1 := by rw [List.getD_eq_getElem?_getD, List.getElem?_eq_getElem hl] at e; exact e
        rw [List.count_set hl, hg, h.cn]
        rfl
    · rw [e, if_neg (by omega), if_neg (by omega), if_neg (by omega), if_neg (by omega)]
      exact .inr ⟨rfl, rfl⟩
  · rw [if_neg hb, if_neg hb]
    exact .inr ⟨rfl, rfl⟩

theorem infoBl : (Try.prog.info? 4).map (fun i => (i.zero, i.size, i.bytes)) = some (some (.bool false), 1, 1) := by kernel_rfl
/-- The call's own row of bools. -/
def OwnB (base : Nat) (w : World) (v : Value) (bs : List Bool) : Prop := w.ownsRow base 4 1 v bs.length (bs.map Value.bool)
theorem ownB_at {base g n cap : Nat} {w : World} {bs : List Bool} (h : OwnB base w (.slice (some ⟨g, 0, none⟩) n cap) bs) : n = bs.length ∧ n ≤ cap ∧ cap ≤ maxLen ∧ g < w.heap.size ∧
    ∀ j, w.frozen? ⟨g, j, none⟩ = false ∧ (j < bs.length → w.cell? ⟨g, j, none⟩ = some (.bool (bs.getD j false)) ∧ ∀ y : Bool, OwnB base (w.setCell ⟨g, j, none⟩ (.bool y)) (.slice (some ⟨g, 0, none⟩) n cap) (bs.set j y)) := by
  have h' := h
  have hlt := (World.ownsRow.lt h g rfl).2
  obtain ⟨_, ⟨e, h0⟩ | ⟨g', cap', cur, e, hg, hc, hn, hm, hs, ht⟩⟩ := h
  · cases e
  · cases e
    refine ⟨rfl, hn, hm, hlt, fun j => ⟨World.ownsRow.frozenAt h' j, fun hj => ⟨?_, fun y => ?_⟩⟩⟩
    · rw [World.ownsRow.cellAt h' j (by omega)]; simp [hj]
    · have := World.ownsRow.stored h' j (.bool y)
      unfold OwnB
      rw [List.length_set, List.map_set]
      exact this.1
theorem OwnB.kept {base g n cap : Nat} {w w' : World} {bs : List Bool} (h : OwnB base w (.slice (some ⟨g, 0, none⟩) n cap) bs) (k : w'.heap[g]? = w.heap[g]?) : OwnB base w' (.slice (some ⟨g, 0, none⟩) n cap) bs :=
  owns_keep h (fun x hx => by simp [Value.ownBlock] at hx; rw [← hx]; exact k)
theorem made_ownB {B g N : Nat} {w : World} (h : w.ownsRow B 4 1 (.slice (some ⟨g, 0, none⟩) N N) N (madeCells (Value.bool false).cells (N * 1)).toList) : OwnB B w (.slice (some ⟨g, 0, none⟩) N N) (List.replicate N false) := by
  unfold OwnB
  rw [show (Value.bool false).cells = #[Value.bool false] from rfl, toList_madeCells_one, Nat.mul_one] at h
  rw [List.length_replicate, List.map_replicate]
  exact h
theorem rep_fl3 (r : Nat) : List.replicate (r + 2) false = fl3 false true false 0 r := by
  simp [fl3, List.replicate_succ]
end Go.Proofs.Ytdmahobldghojaa.Oct
