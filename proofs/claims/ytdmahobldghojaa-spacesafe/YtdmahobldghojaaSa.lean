/-
  Pages' states, plainly: 0 free, 1 used, 2 own, 3 pending.
-/
import Derived.Test.YtdmahobldghojaaRc
import Derived.Test.YtdmahobldghojaaRi
namespace Go.Proofs.Ytdmahobldghojaa.Oct
open Go.RowKit

/-- States of 8 to 4096 pages, the first two never free. -/
structure SpOk (S : List Int) : Prop where
  lo : 8 ≤ S.length
  hi : S.length ≤ 4096
  st : ∀ z ∈ S, 0 ≤ z ∧ z ≤ 3

def newS (n : Nat) : List Int := ((List.replicate n (0 : Int)).set 0 1).set 1 1
/-- The least free page. -/
def frI (S : List Int) : Nat := S.findIdx (· == 0)
def alE (S : List Int) : Int := if frI S < S.length then 0 else 6
def alN (S : List Int) : Int := if frI S < S.length then (frI S : Int) else 0
def alL (S : List Int) : List Int := if frI S < S.length then S.set (frI S) 2 else S
/-- Giving a page up. -/
def gvB (S : List Int) (p : Int) : Bool := decide (2 ≤ p) && decide (p < (S.length : Int))
def gvE (S : List Int) (p : Int) : Int := if gvB S p then (if S.getD p.toNat 0 = 2 then 0 else if S.getD p.toNat 0 = 1 then 0 else 10) else 1
def gvL (S : List Int) (p : Int) : List Int := if gvB S p then (if S.getD p.toNat 0 = 2 then S.set p.toNat 0 else if S.getD p.toNat 0 = 1 then S.set p.toNat 3 else S) else S
/-- Own and pending ones are others. -/
def trZ (o p z : Int) : Int := if z = 2 then o else if z = 3 then p else z
def trS (o p : Int) (S : List Int) : List Int := S.map (trZ o p)
def isB (S : List Int) (p z : Int) : Bool := decide (0 ≤ p) && (decide (p < (S.length : Int)) && (S.getD p.toNat 0 == z))
def usB (z : Int) : Bool := z == 1 || z == 2

theorem SpOk.at {S : List Int} (h : SpOk S) (i : Nat) : 0 ≤ S.getD i 0 ∧ S.getD i 0 ≤ 3 := by
  by_cases hi : i < S.length
  · rw [List.getD_eq_getElem?_getD, List.getElem?_eq_getElem hi]; exact h.st _ (List.getElem_mem hi)
  · rw [List.getD_eq_getElem?_getD, List.getElem?_eq_none (by omega)]; simp
theorem SpOk.set {S : List Int} (h : SpOk S) (i : Nat) {z : Int} (h0 : 0 ≤ z) (h3 : z ≤ 3) : SpOk (S.set i z) :=
  ⟨by rw [List.length_set]; exact h.lo, by rw [List.length_set]; exact h.hi, fun y hy => by
    rcases List.mem_or_eq_of_mem_set hy with hy | rfl
    · exact h.st y hy
    · exact ⟨h0, h3⟩⟩
theorem SpOk.map {S : List Int} (h : SpOk S) {f : Int → Int} (hf : ∀ z, 0 ≤ z → z ≤ 3 → 0 ≤ f z ∧ f z ≤ 3) : SpOk (S.map f) :=
  ⟨by rw [List.length_map]; exact h.lo, by rw [List.length_map]; exact h.hi, fun y hy => by
    obtain ⟨z, hz, rfl⟩ := List.mem_map.1 hy
    exact hf z (h.st z hz).1 (h.st z hz).2⟩
theorem newS_len (n : Nat) : (newS n).length = n := by simp [newS]
theorem newS_ok {n : Nat} (h8 : 8 ≤ n) (h4 : n ≤ 4096) : SpOk (newS n) := by
  have h : SpOk (List.replicate n (0 : Int)) := ⟨by simpa using h8, by simpa using h4, fun z hz => by rw [(List.mem_replicate.1 hz).2]; omega⟩
  exact (h.set 0 (by omega) (by omega)).set 1 (by omega) (by omega)
theorem alL_ok {S : List Int} (h : SpOk S) : SpOk (alL S) := by
  unfold alL
  split
  · exact h.set _ (by omega) (by omega)
  · exact h
theorem alL_len (S : List Int) : (alL S).length = S.length := by unfold alL; split <;> simp
theorem gvL_ok {S : List Int} (h : SpOk S) (p : Int) : SpOk (gvL S p) := by
  unfold gvL
  repeat' split
  all_goals first | exact h | exact h.set _ (by omega) (by omega)
theorem gvL_len (S : List Int) (p : Int) : (gvL S p).length = S.length := by
  unfold gvL
  repeat' split
  all_goals simp
theorem trS_ok {S : List Int} (h : SpOk S) {o p : Int} (ho : 0 ≤ o ∧ o ≤ 3) (hp : 0 ≤ p ∧ p ≤ 3) : SpOk (trS o p S) := h.map fun z h0 h3 => by
  unfold trZ
  repeat' split
  all_goals first | exact ho | exact hp | exact ⟨h0, h3⟩
theorem trS_len (o p : Int) (S : List Int) : (trS o p S).length = S.length := by simp [trS]

theorem frI_le (S : List Int) : frI S ≤ S.length := List.findIdx_le_length
theorem frI_at {S : List Int} (h : frI S < S.length) : S.getD (frI S) 0 = 0 := by
  have := List.findIdx_getElem (w := h)
  rw [List.getD_eq_getElem?_getD, List.getElem?_eq_getElem h, Option.getD_some]
  exact eq_of_beq this
theorem frI_not {S : List Int} {i : Nat} (h : i < frI S) : S.getD i 0 ≠ 0 := by
  have hl : i < S.length := Nat.lt_of_lt_of_le h (frI_le S)
  have := List.not_of_lt_findIdx h
  rw [List.getD_eq_getElem?_getD, List.getElem?_eq_getElem hl]
  simpa using this
theorem frI_eq {S : List Int} {i : Nat} (hi : i < S.length) (h0 : S.getD i 0 = 0) (h : ∀ j, j < i → S.getD j 0 ≠ 0) : frI S = i := by
  by_cases h1 : frI S < i
  · exact absurd (frI_at (by omega)) (h _ h1)
  · by_cases h2 : i < frI S
    · exact absurd h0 (frI_not h2)
    · omega
theorem frI_none {S : List Int} (h : ∀ j, j < S.length → S.getD j 0 ≠ 0) : frI S = S.length := by
  have := frI_le S
  by_cases h1 : frI S < S.length
  · exact absurd (frI_at h1) (h _ h1)
  · omega

/-! Rows of ints of one's own. -/
theorem OwnI.lt2 {base g n cap : Nat} {w : World} {zs : List Int} (h : OwnI base w (.slice (some ⟨g, 0, none⟩) n cap) zs) : base ≤ g ∧ g < w.heap.size := World.ownsRow.lt h g rfl
theorem OwnI.kept {base g n cap : Nat} {w w' : World} {zs : List Int} (h : OwnI base w (.slice (some ⟨g, 0, none⟩) n cap) zs) (k : w'.heap[g]? = w.heap[g]?) : OwnI base w' (.slice (some ⟨g, 0, none⟩) n cap) zs :=
  owns_keep h (fun x hx => by simp [Value.ownBlock] at hx; rw [← hx]; exact k)
theorem OwnI.zero {base g n cap : Nat} {w : World} {zs : List Int} (h : OwnI base w (.slice (some ⟨g, 0, none⟩) n cap) zs) : OwnI 0 w (.slice (some ⟨g, 0, none⟩) n cap) zs :=
  owns_base h (fun _ _ => Nat.zero_le _)
theorem ownI_at {base g n cap : Nat} {w : World} {zs : List Int} (h : OwnI base w (.slice (some ⟨g, 0, none⟩) n cap) zs) : n = zs.length ∧ n ≤ cap ∧ cap ≤ maxLen ∧
    ∀ j, w.frozen? ⟨g, j, none⟩ = false ∧ (j < zs.length → w.cell? ⟨g, j, none⟩ = some (.int .i64 (zs.getD j 0)) ∧ ∀ y : Int, OwnI base (w.setCell ⟨g, j, none⟩ (.int .i64 y)) (.slice (some ⟨g, 0, none⟩) n cap) (zs.set j y)) := by
  have h' := h
  obtain ⟨_, ⟨e, h0⟩ | ⟨g', cap', cur, e, hg, hc, hn, hm, hs, ht⟩⟩ := h
  · cases e
  · cases e
    refine ⟨rfl, hn, hm, fun j => ⟨World.ownsRow.frozenAt h' j, fun hj => ⟨?_, fun y => ?_⟩⟩⟩
    · rw [World.ownsRow.cellAt h' j (by omega)]; simp [hj]
    · have := World.ownsRow.stored h' j (.int .i64 y)
      unfold OwnI
      rw [List.length_set, List.map_set]
      exact this.1
theorem made_ownI {B g N : Nat} {w : World} (h : w.ownsRow B 3 1 (.slice (some ⟨g, 0, none⟩) N N) N (madeCells (Value.int .i64 0).cells (N * 1)).toList) : OwnI B w (.slice (some ⟨g, 0, none⟩) N N) (List.replicate N 0) := by
  unfold OwnI
  rw [show (Value.int .i64 0).cells = #[Value.int .i64 0] from rfl, toList_madeCells_one, Nat.mul_one] at h
  rw [List.length_replicate, List.map_replicate]
  exact h
/-- make([]int, n). -/
theorem make_i (w : World) (n : Nat) (h : n ≤ 100000) : (Instr.makeSlice 52 (.int .i64 n) (.int .i64 n)).run Try.prog w = .ok (.slice (some ⟨w.heap.size, 0, none⟩) n n) (w.alloc (.cells (madeCells (Value.int .i64 0).cells n) 3)) ∧
    OwnI w.heap.size (w.alloc (.cells (madeCells (Value.int .i64 0).cells n) 3)) (.slice (some ⟨w.heap.size, 0, none⟩) n n) (List.replicate n 0) := by
  obtain ⟨i0, hi0, hz0, hz1, hz2⟩ := info_parts info3
  refine ⟨?_, ?_⟩
  · have hr := run_make (P := Try.prog) w 52 3 i0 (.int .i64 0) Try.underlying52 hi0 hz0 .i64 .i64 n n (by omega) (by omega) (by rw [hz2]; omega) (by omega)
    rw [hz1, Nat.mul_one] at hr
    exact hr
  · have hw := World.ownsRow_lit (base := w.heap.size) (e := 3) (size := 1) w (madeCells (Value.int .i64 0).cells n) n (Nat.le_refl _) (by simp [maxLen]; omega) (by rw [size_madeCells, Nat.mul_one])
    exact made_ownI (by rw [Nat.mul_one]; exact hw)
end Go.Proofs.Ytdmahobldghojaa.Oct
