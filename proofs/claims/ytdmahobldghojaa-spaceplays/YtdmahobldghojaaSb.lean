/-
  The document's space in memory; NewSpace, Alloc, Give, Commit, Doubt, Abort, Count, Is.
-/
import Derived.Test.YtdmahobldghojaaSa
namespace Go.Proofs.Ytdmahobldghojaa.Oct
open Go.RowKit

/-- Its blocks are among F. -/
structure RSx (w : World) (m g c : Nat) (F : Nat → Prop) (S : List Int) : Prop where
  lt : ∀ k, F k → k < w.heap.size
  fm : F m
  ok : SpOk S
  cells : w.heap[m]? = some (.cells #[.slice (some ⟨g, 0, none⟩) S.length c] 65 (0, 0))
  row : OwnI 0 w (.slice (some ⟨g, 0, none⟩) S.length c) S
  ne : ¬ m = g
  fg : F g
def RS (w : World) (m : Nat) (F : Nat → Prop) (S : List Int) : Prop := ∃ g c, RSx w m g c F S

section
variable {w w' : World} {m g c : Nat} {F : Nat → Prop} {S : List Int}

theorem RSx.keep (h : RSx w m g c F S) (hs : w.heap.size ≤ w'.heap.size) (k : ∀ g, F g → w'.heap[g]? = w.heap[g]?) : RSx w' m g c F S :=
  { h with lt := fun g hg => Nat.lt_of_lt_of_le (h.lt g hg) hs, cells := (k m h.fm).trans h.cells, row := h.row.kept (k g h.fg) }
theorem RSx.ch {G : Nat → Prop} (h : RSx w m g c F S) (hc : Ch w.heap.size G w w') (hd : ∀ k, F k → ¬ G k) : RSx w' m g c F S :=
  h.keep hc.size (fun g hg => hc.block g (h.lt g hg) (hd g hg))
theorem RSx.below (h : RSx w m g c F S) (hc : Below w.heap.size w w') : RSx w' m g c F S := h.ch (Ch.of (fun _ => False) hc) (fun _ _ h => h)
theorem RS.ch {G : Nat → Prop} (h : RS w m F S) (hc : Ch w.heap.size G w w') (hd : ∀ k, F k → ¬ G k) : RS w' m F S := h.imp fun _ ⟨c, h⟩ => ⟨c, h.ch hc hd⟩
theorem RS.below (h : RS w m F S) (hc : Below w.heap.size w w') : RS w' m F S := h.imp fun _ ⟨c, h⟩ => ⟨c, h.below hc⟩
theorem RS.ok (h : RS w m F S) : SpOk S := h.elim fun _ ⟨_, h⟩ => h.ok
theorem RS.lt (h : RS w m F S) : ∀ k, F k → k < w.heap.size := h.elim fun _ ⟨_, h⟩ => h.lt

/-- What a walk wants. -/
theorem RSx.at (h : RSx w m g c F S) : w.cell? ⟨m, 0, none⟩ = some (.slice (some ⟨g, 0, none⟩) S.length c) ∧ S.length ≤ c ∧ c ≤ maxLen ∧ (∀ i, w.frozen? ⟨g, i, none⟩ = false) ∧ ∀ i, i < S.length → w.cell? ⟨g, i, none⟩ = some (.int .i64 (S.getD i 0)) := by
  obtain ⟨e, l1, l2, hat⟩ := ownI_at h.row
  exact ⟨by rw [cell_of_row w m _ _ _ (0, 0) h.cells]; rfl, l1, l2, fun i => (hat i).1, fun i hi => ((hat i).2 hi).1⟩
theorem RSx.set (h : RSx w m g c F S) (i : Nat) {y : Int} (hi : i < S.length) (y0 : 0 ≤ y) (y3 : y ≤ 3) : RSx (w.setCell ⟨g, i, none⟩ (.int .i64 y)) m g c F (S.set i y) := by
  obtain ⟨e, l1, l2, hat⟩ := ownI_at h.row
  refine ⟨fun k hk => by rw [size_setCell]; exact h.lt k hk, h.fm, h.ok.set i y0 y3, ?_, ?_, h.ne, h.fg⟩
  · rw [List.length_set]
    exact (Below.heap_setCell w ⟨g, i, none⟩ _ m h.ne).trans h.cells
  · rw [List.length_set]
    exact ((hat i).2 hi).2 y

theorem rNewSpace_no (n : Int) (w : World) (h : ¬ (8 ≤ n ∧ n ≤ 4096)) : Calls Try.prog 14 #[.int .i64 n] w fun e w' => e = .returned (.tuple #[.pointer none, .int .i64 1]) ∧ w = w' := by
  by_cases h8 : n < 8
  · clear h
    go_enter Try.func14, Try.ntmps14
    go_wp2
    go_ret2
    exact ⟨rfl, rfl⟩
  · have h4 : n > 4096 := by omega
    clear h
    go_enter Try.func14, Try.ntmps14
    go_wp2
    go_ret2
    exact ⟨rfl, rfl⟩

/-- A space that has just been laid. -/
theorem RSx.new {w w1 : World} {n g c : Nat} {S : List Int} (hS : SpOk S) (ho : OwnI w.heap.size w1 (.slice (some ⟨g, 0, none⟩) n c) S) (hb : Below w.heap.size w w1) :
    RSx (w1.alloc (.cells #[.slice (some ⟨g, 0, none⟩) n c] 65)) w1.heap.size g c (fun k => w.heap.size ≤ k ∧ k ≤ w1.heap.size) S ∧ Below w.heap.size w (w1.alloc (.cells #[.slice (some ⟨g, 0, none⟩) n c] 65)) := by
  have hl := ho.lt2
  obtain ⟨e, -⟩ := ownI_at ho
  subst e
  have hc := heap_alloc_new w1 (.cells #[.slice (some ⟨g, 0, none⟩) S.length c] 65)
  have hlt := heap_lt hc
  refine ⟨⟨fun k hk => Nat.lt_of_le_of_lt hk.2 hlt, ⟨hb.size, Nat.le_refl _⟩, hS, hc, ?_, by omega, by omega, by omega⟩, hb.alloc hb.size _⟩
  exact ho.zero.kept (((Below.refl w1.heap.size w1).alloc (Nat.le_refl _) _).block g hl.2)

set_option maxHeartbeats 1000000 in
set_option maxRecDepth 20000 in
theorem rNewSpace_yes (n : Nat) (w : World) (h8 : 8 ≤ n) (h4 : n ≤ 4096) : Calls Try.prog 14 #[.int .i64 n] w fun e w' => ∃ m F, e = .returned (.tuple #[.pointer (some ⟨m, 0, none⟩), .int .i64 0]) ∧ RS w' m F (newS n) ∧ Below w.heap.size w w' ∧ ∀ k, F k → w.heap.size ≤ k := by
  obtain ⟨i0, hi0, hz0, hz1, hz2⟩ := info_parts info3
  have hm : n ≤ maxLen := by unfold maxLen; omega
  go_enter Try.func14, Try.ntmps14
  go_wp2_with (at_make; refine wpList_make_full _ rfl _ _ 52 rfl w.heap.size 3 i0 (.int .i64 0) 1 Try.underlying52 hi0 hz0 hz1 .i64 .i64 _ _ n rfl rfl rfl rfl (by rw [hz2]; omega) hm (Nat.le_refl _) ?_; intro w1 hown1 hgrow1; have hr := RSx.new (S := List.replicate n 0) ⟨(by simpa using h8), (by simpa using h4), (fun z hz => by rw [(List.mem_replicate.1 hz).2]; omega)⟩ (made_ownI hown1) ((Below.refl _ w).grown hgrow1 (Nat.le_refl _) (by simp)); clear hown1 hgrow1; obtain ⟨w2, hw2⟩ : ∃ w2, w1.alloc (.cells #[.slice (some ⟨w.heap.size, 0, none⟩) n n] 65) = w2 := ⟨_, rfl⟩; rw [hw2] at hr; obtain ⟨hr, hb2⟩ := hr; obtain ⟨c0, l1, l2, hz, hq⟩ := hr.at; rw [List.length_replicate] at c0; have q0 := hq 0 (by simp; omega); have q1 := hq 1 (by simp; omega); have z0 := hz 0; have z1 := hz 1; have hne := hr.ne; have HR : Hid _ := hr; have HB : Hid _ := hb2; clear hr hb2 l1 l2 hz hq)
  go_ret2
  exact ⟨_, _, rfl, ⟨_, _, (HR.out.set 0 (by simp; omega) (by omega) (by omega)).set 1 (by simp; omega) (by omega) (by omega)⟩, (HB.out.setCell (Nat.le_refl _) _).setCell (Nat.le_refl _) _, fun k hk => hk.1⟩
end
end Go.Proofs.Ytdmahobldghojaa.Oct
