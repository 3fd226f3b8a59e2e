/-
  The document's New, Load, Image.
-/
import Derived.Test.YtojckbhbnalkeaaGreatCp
import Derived.Deep.RegionLaw
namespace Go.Proofs.YtojckbhbnalkeaaGreat.Oct
open Go.RowKit
attribute [local go_sem ↓] makeP_eq

/-- A device of the document's, without writes, outcomes, fuse, ops. -/
structure Rf (w wr : World) (q k1 k2 : Nat) (v1 v2 : Value) (s1 s2 : List Value) (f1 f2 : Nat → List Int) : Prop where
  cells : wr.heap[q]? = some (.cells #[v1, v2, .slice none 0 0, .slice none 0 0, .int .i64 (-1), .int .i64 0, .bool false] 58 (0, 0))
  o1 : wr.ownsRow 0 38 1 v1 k1 s1
  o2 : wr.ownsRow 0 38 1 v2 k2 s2
  p1 : Pgs wr (fun g => g = q ∨ v1.ownBlock = some g ∨ v2.ownBlock = some g) w.heap.size s1 k1 f1
  p2 : Pgs wr (fun g => g = q ∨ v1.ownBlock = some g ∨ v2.ownBlock = some g) w.heap.size s2 k2 f2
  n1 : v1.ownBlock ≠ some q
  n2 : v2.ownBlock ≠ some q
  n12 : ∀ g, v1.ownBlock = some g → v2.ownBlock ≠ some g
  lq : w.heap.size ≤ q
  l1 : ∀ g, v1.ownBlock = some g → w.heap.size ≤ g
  l2 : ∀ g, v2.ownBlock = some g → w.heap.size ≤ g
  bel : Below w.heap.size w wr

theorem Rf.qlt {w wr : World} {q k1 k2 : Nat} {v1 v2 : Value} {s1 s2 : List Value} {f1 f2 : Nat → List Int} (h : Rf w wr q k1 k2 v1 v2 s1 s2 f1 f2) : q < wr.heap.size := heap_lt h.cells

theorem Rf.at {w wr : World} {q k1 k2 : Nat} {v1 v2 : Value} {s1 s2 : List Value} {f1 f2 : Nat → List Int} (h : Rf w wr q k1 k2 v1 v2 s1 s2 f1 f2) : wr.cell? ⟨q, 0, none⟩ = some v1 ∧ wr.cell? ⟨q, 1, none⟩ = some v2 ∧ ∀ i, wr.frozen? ⟨q, i, none⟩ = false := by
  have hc := h.cells
  refine ⟨?_, ?_, fun i => ?_⟩
  · rw [cell_of_row wr q _ _ _ (0, 0) hc]; rfl
  · rw [cell_of_row wr q _ _ _ (0, 0) hc]; rfl
  · unfold World.frozen?
    rw [hc]
    simp

theorem Rf.below {w wr w2 : World} {q k1 k2 : Nat} {v1 v2 : Value} {s1 s2 : List Value} {f1 f2 : Nat → List Int} (h : Rf w wr q k1 k2 v1 v2 s1 s2 f1 f2) (hb : Below wr.heap.size wr w2) : Rf w w2 q k1 k2 v1 v2 s1 s2 f1 f2 :=
  { h with
    cells := (hb.block q h.qlt).trans h.cells
    o1 := owns_keep h.o1 (fun g hg => hb.block g (World.ownsRow.lt h.o1 g hg).2)
    o2 := owns_keep h.o2 (fun g hg => hb.block g (World.ownsRow.lt h.o2 g hg).2)
    p1 := h.p1.keep (fun g hg _ => hb.block g hg)
    p2 := h.p2.keep (fun g hg _ => hb.block g hg)
    bel := h.bel.trans (hb.mono h.bel.size) }

theorem Rf.grow1 {w wr w2 : World} {q k1 k2 g cap : Nat} {v1 v2 : Value} {s1 s2 : List Value} {f1 f2 : Nat → List Int} {Z : Array Value} (h : Rf w wr q k1 k2 v1 v2 s1 s2 f1 f2)
    (hZ : Own 0 (wr.alloc (.cells Z 5)) (.slice (some ⟨wr.heap.size, 0, none⟩) 256 256) (f1 k1))
    (hown : w2.ownsRow 0 38 1 (.slice (some ⟨g, 0, none⟩) (k1 + 1) cap) (k1 + 1) (s1 ++ [.slice (some ⟨wr.heap.size, 0, none⟩) 256 256]))
    (hgrow : ((wr.alloc (.cells Z 5)).alloc (.cells #[.slice (some ⟨wr.heap.size, 0, none⟩) 256 256] 38)).grownBy w2 v1.ownBlock) (hat : v1.ownBlock = some g ∨ g = wr.heap.size + 2) :
    Rf w (w2.setCell ⟨q, 0, none⟩ (.slice (some ⟨g, 0, none⟩) (k1 + 1) cap)) q (k1 + 1) k2 (.slice (some ⟨g, 0, none⟩) (k1 + 1) cap) v2 (s1 ++ [.slice (some ⟨wr.heap.size, 0, none⟩) 256 256]) s2 f1 f2 := by
  have hq := h.qlt
  have s2' := hgrow.size
  simp at s2'
  have k2' : ∀ b, b < wr.heap.size → v1.ownBlock ≠ some b → w2.heap[b]? = wr.heap[b]? := fun b hb hne =>
    (hgrow.block b (by simp; omega) (fun e => hne e.symm)).trans ((Below.heap_alloc _ _ _ (by simp; omega)).trans (Below.heap_alloc _ _ _ hb))
  have k3 : ∀ b, b ≠ q → (w2.setCell ⟨q, 0, none⟩ (.slice (some ⟨g, 0, none⟩) (k1 + 1) cap)).heap[b]? = w2.heap[b]? := fun b hb => Below.heap_setCell w2 ⟨q, 0, none⟩ _ b hb
  have lt1 : ∀ b, v1.ownBlock = some b → b < wr.heap.size := fun b hb => (World.ownsRow.lt h.o1 b hb).2
  have lt2 : ∀ b, v2.ownBlock = some b → b < wr.heap.size := fun b hb => (World.ownsRow.lt h.o2 b hb).2
  have hgq : g ≠ q := by rcases hat with e | e; exact fun e2 => h.n1 (e2 ▸ e); omega
  have hne : ∀ b, v2.ownBlock = some b → v1.ownBlock ≠ some b := fun b hb e => h.n12 b e hb
  have hgo : v2.ownBlock ≠ some g := fun e => by
    rcases hat with e2 | e2
    · exact hne g e e2
    · have := lt2 g e; omega
  have hM : ∀ b, b < wr.heap.size → (b = q ∨ ((Value.slice (some ⟨g, 0, none⟩) (k1 + 1) cap).ownBlock = some b) ∨ (v2.ownBlock = some b)) → (b = q ∨ v1.ownBlock = some b ∨ v2.ownBlock = some b) := fun b hb hm => by
    rcases hm with e | e | e
    · exact .inl e
    · simp [Value.ownBlock] at e
      subst e
      rcases hat with e2 | e2
      · exact .inr (.inl e2)
      · omega
    · exact .inr (.inr e)
  have hpk : ∀ b, b < wr.heap.size → ¬ (b = q ∨ v1.ownBlock = some b ∨ v2.ownBlock = some b) → (w2.setCell ⟨q, 0, none⟩ (.slice (some ⟨g, 0, none⟩) (k1 + 1) cap)).heap[b]? = wr.heap[b]? := fun b hb hm => (k3 b (fun e => hm (.inl e))).trans (k2' b hb (fun e => hm (.inr (.inl e))))
  have hN : (w2.setCell ⟨q, 0, none⟩ (.slice (some ⟨g, 0, none⟩) (k1 + 1) cap)).heap[wr.heap.size]? = (wr.alloc (.cells Z 5)).heap[wr.heap.size]? :=
    (k3 _ (by omega)).trans ((hgrow.block _ (by simp; omega) (fun e => by have := lt1 _ e.symm; omega)).trans (Below.heap_alloc _ _ _ (by simp)))
  have pk : ∀ {s : List Value} {k : Nat} {f : Nat → List Int}, Pgs wr (fun g => g = q ∨ v1.ownBlock = some g ∨ v2.ownBlock = some g) w.heap.size s k f → Pgs (w2.setCell ⟨q, 0, none⟩ (.slice (some ⟨g, 0, none⟩) (k1 + 1) cap)) (fun b => b = q ∨ ((Value.slice (some ⟨g, 0, none⟩) (k1 + 1) cap).ownBlock = some b) ∨ (v2.ownBlock = some b)) w.heap.size s k f := fun hp i hi => by
    obtain ⟨g', c', e1, e2, e3, e4⟩ := hp i hi
    exact ⟨g', c', e1, e2.kept (hpk g' e2.lt2.2 e3), fun e => e3 (hM g' e2.lt2.2 e), e4⟩
  have hnew : ∀ {k : Nat}, Pgs (w2.setCell ⟨q, 0, none⟩ (.slice (some ⟨g, 0, none⟩) (k1 + 1) cap)) (fun b => b = q ∨ ((Value.slice (some ⟨g, 0, none⟩) (k1 + 1) cap).ownBlock = some b) ∨ (v2.ownBlock = some b)) w.heap.size s1 k f1 → k = k1 → Pgs (w2.setCell ⟨q, 0, none⟩ (.slice (some ⟨g, 0, none⟩) (k1 + 1) cap)) (fun b => b = q ∨ ((Value.slice (some ⟨g, 0, none⟩) (k1 + 1) cap).ownBlock = some b) ∨ (v2.ownBlock = some b)) w.heap.size (s1 ++ [.slice (some ⟨wr.heap.size, 0, none⟩) 256 256]) (k + 1) f1 := fun hp e => by
    subst e
    refine hp.snoc (by have := h.o1.1; omega) (hZ.kept hN) (fun hm => ?_) h.bel.size rfl
    rcases hm with e | e | e
    · omega
    · simp [Value.ownBlock] at e
      rcases hat with e2 | e2
      · have := lt1 g e2; omega
      · omega
    · have := lt2 _ e; omega
  refine { h with cells := ?_, o1 := owns_keep hown (fun b hb => by simp [Value.ownBlock] at hb; subst hb; exact k3 g hgq), o2 := owns_keep h.o2 (fun b hb => (k3 b (fun e => h.n2 (e ▸ hb))).trans (k2' b (lt2 b hb) (hne b hb))), p1 := hnew (pk h.p1) rfl, p2 := pk h.p2, n1 := by simp [Value.ownBlock]; exact hgq, n12 := ?_, l1 := ?_, bel := ?_ }
  · rw [setCell_heap w2 q 0 _ _ _ _ ((k2' q hq h.n1).trans h.cells)]
    rfl
  · intro b hb; simp [Value.ownBlock] at hb; subst hb; exact hgo
  · intro b hb
    simp [Value.ownBlock] at hb
    subst hb
    rcases hat with e | e
    · exact h.l1 g e
    · have := h.bel.size; omega
  · have a1 : Below w.heap.size w ((wr.alloc (.cells Z 5)).alloc (.cells #[.slice (some ⟨wr.heap.size, 0, none⟩) 256 256] 38)) := (h.bel.alloc h.bel.size _).alloc (by have := h.bel.size; simp; omega) _
    exact (a1.grown hgrow (by have := h.bel.size; simp; omega) (fun b hb => h.l1 b hb)).setCell (p := ⟨q, 0, none⟩) h.lq _

theorem Rf.grow2 {w wr w2 : World} {q k1 k2 g cap : Nat} {v1 v2 : Value} {s1 s2 : List Value} {f1 f2 : Nat → List Int} {Z : Array Value} (h : Rf w wr q k1 k2 v1 v2 s1 s2 f1 f2)
    (hZ : Own 0 (wr.alloc (.cells Z 5)) (.slice (some ⟨wr.heap.size, 0, none⟩) 256 256) (f2 k2))
    (hown : w2.ownsRow 0 38 1 (.slice (some ⟨g, 0, none⟩) (k2 + 1) cap) (k2 + 1) (s2 ++ [.slice (some ⟨wr.heap.size, 0, none⟩) 256 256]))
    (hgrow : ((wr.alloc (.cells Z 5)).alloc (.cells #[.slice (some ⟨wr.heap.size, 0, none⟩) 256 256] 38)).grownBy w2 v2.ownBlock) (hat : v2.ownBlock = some g ∨ g = wr.heap.size + 2) :
    Rf w (w2.setCell ⟨q, 1, none⟩ (.slice (some ⟨g, 0, none⟩) (k2 + 1) cap)) q k1 (k2 + 1) v1 (.slice (some ⟨g, 0, none⟩) (k2 + 1) cap) s1 (s2 ++ [.slice (some ⟨wr.heap.size, 0, none⟩) 256 256]) f1 f2 := by
  have hq := h.qlt
  have s2' := hgrow.size
  simp at s2'
  have k2' : ∀ b, b < wr.heap.size → v2.ownBlock ≠ some b → w2.heap[b]? = wr.heap[b]? := fun b hb hne =>
    (hgrow.block b (by simp; omega) (fun e => hne e.symm)).trans ((Below.heap_alloc _ _ _ (by simp; omega)).trans (Below.heap_alloc _ _ _ hb))
  have k3 : ∀ b, b ≠ q → (w2.setCell ⟨q, 1, none⟩ (.slice (some ⟨g, 0, none⟩) (k2 + 1) cap)).heap[b]? = w2.heap[b]? := fun b hb => Below.heap_setCell w2 ⟨q, 1, none⟩ _ b hb
  have lt2 : ∀ b, v2.ownBlock = some b → b < wr.heap.size := fun b hb => (World.ownsRow.lt h.o2 b hb).2
  have lt1 : ∀ b, v1.ownBlock = some b → b < wr.heap.size := fun b hb => (World.ownsRow.lt h.o1 b hb).2
  have hgq : g ≠ q := by rcases hat with e | e; exact fun e2 => h.n2 (e2 ▸ e); omega
  have hne : ∀ b, v1.ownBlock = some b → v2.ownBlock ≠ some b := fun b hb e => h.n12 b hb e
  have hgo : v1.ownBlock ≠ some g := fun e => by
    rcases hat with e2 | e2
    · exact hne g e e2
    · have := lt1 g e; omega
  have hM : ∀ b, b < wr.heap.size → (b = q ∨ (v1.ownBlock = some b) ∨ ((Value.slice (some ⟨g, 0, none⟩) (k2 + 1) cap).ownBlock = some b)) → (b = q ∨ v1.ownBlock = some b ∨ v2.ownBlock = some b) := fun b hb hm => by
    rcases hm with e | e | e
    · exact .inl e
    · exact .inr (.inl e)
    · simp [Value.ownBlock] at e
      subst e
      rcases hat with e2 | e2
      · exact .inr (.inr e2)
      · omega
  have hpk : ∀ b, b < wr.heap.size → ¬ (b = q ∨ v1.ownBlock = some b ∨ v2.ownBlock = some b) → (w2.setCell ⟨q, 1, none⟩ (.slice (some ⟨g, 0, none⟩) (k2 + 1) cap)).heap[b]? = wr.heap[b]? := fun b hb hm => (k3 b (fun e => hm (.inl e))).trans (k2' b hb (fun e => hm (.inr (.inr e))))
  have hN : (w2.setCell ⟨q, 1, none⟩ (.slice (some ⟨g, 0, none⟩) (k2 + 1) cap)).heap[wr.heap.size]? = (wr.alloc (.cells Z 5)).heap[wr.heap.size]? :=
    (k3 _ (by omega)).trans ((hgrow.block _ (by simp; omega) (fun e => by have := lt2 _ e.symm; omega)).trans (Below.heap_alloc _ _ _ (by simp)))
  have pk : ∀ {s : List Value} {k : Nat} {f : Nat → List Int}, Pgs wr (fun g => g = q ∨ v1.ownBlock = some g ∨ v2.ownBlock = some g) w.heap.size s k f → Pgs (w2.setCell ⟨q, 1, none⟩ (.slice (some ⟨g, 0, none⟩) (k2 + 1) cap)) (fun b => b = q ∨ (v1.ownBlock = some b) ∨ ((Value.slice (some ⟨g, 0, none⟩) (k2 + 1) cap).ownBlock = some b)) w.heap.size s k f := fun hp i hi => by
    obtain ⟨g', c', e1, e2, e3, e4⟩ := hp i hi
    exact ⟨g', c', e1, e2.kept (hpk g' e2.lt2.2 e3), fun e => e3 (hM g' e2.lt2.2 e), e4⟩
  have hnew : ∀ {k : Nat}, Pgs (w2.setCell ⟨q, 1, none⟩ (.slice (some ⟨g, 0, none⟩) (k2 + 1) cap)) (fun b => b = q ∨ (v1.ownBlock = some b) ∨ ((Value.slice (some ⟨g, 0, none⟩) (k2 + 1) cap).ownBlock = some b)) w.heap.size s2 k f2 → k = k2 → Pgs (w2.setCell ⟨q, 1, none⟩ (.slice (some ⟨g, 0, none⟩) (k2 + 1) cap)) (fun b => b = q ∨ (v1.ownBlock = some b) ∨ ((Value.slice (some ⟨g, 0, none⟩) (k2 + 1) cap).ownBlock = some b)) w.heap.size (s2 ++ [.slice (some ⟨wr.heap.size, 0, none⟩) 256 256]) (k + 1) f2 := fun hp e => by
    subst e
    refine hp.snoc (by have := h.o2.1; omega) (hZ.kept hN) (fun hm => ?_) h.bel.size rfl
    rcases hm with e | e | e
    · omega
    · have := lt1 _ e; omega
    · simp [Value.ownBlock] at e
      rcases hat with e2 | e2
      · have := lt2 g e2; omega
      · omega
  refine { h with cells := ?_, o2 := owns_keep hown (fun b hb => by simp [Value.ownBlock] at hb; subst hb; exact k3 g hgq), o1 := owns_keep h.o1 (fun b hb => (k3 b (fun e => h.n1 (e ▸ hb))).trans (k2' b (lt1 b hb) (hne b hb))), p2 := hnew (pk h.p2) rfl, p1 := pk h.p1, n2 := by simp [Value.ownBlock]; exact hgq, n12 := ?_, l2 := ?_, bel := ?_ }
  · rw [setCell_heap w2 q 1 _ _ _ _ ((k2' q hq h.n2).trans h.cells)]
    rfl
  · intro b hb; simp [Value.ownBlock]; intro e; subst e; exact hgo hb
  · intro b hb
    simp [Value.ownBlock] at hb
    subst hb
    rcases hat with e | e
    · exact h.l2 g e
    · have := h.bel.size; omega
  · have a1 : Below w.heap.size w ((wr.alloc (.cells Z 5)).alloc (.cells #[.slice (some ⟨wr.heap.size, 0, none⟩) 256 256] 38)) := (h.bel.alloc h.bel.size _).alloc (by have := h.bel.size; simp; omega) _
    exact (a1.grown hgrow (by have := h.bel.size; simp; omega) (fun b hb => h.l2 b hb)).setCell (p := ⟨q, 1, none⟩) h.lq _

set_option maxRecDepth 20000 in
set_option maxHeartbeats 4000000 in
theorem rnew_no (n : Int) (w : World) (h : aB n = false) : Calls Tryz.prog 7 #[.int .i64 n] w fun e w' => e = .returned (.tuple #[.pointer none, .int .i64 1]) ∧ w = w' := by
  by_cases h1 : n < 8
  · go_enter Tryz.func7, Tryz.ntmps7
    go_wp2
    go_ret2
    exact ⟨rfl, rfl⟩
  · have h2 : 4096 < n := by simp [aB] at h; omega
    go_enter Tryz.func7, Tryz.ntmps7
    go_wp2
    go_ret2
    exact ⟨rfl, rfl⟩

set_option maxRecDepth 20000 in
set_option maxHeartbeats 4000000 in
theorem rnew_yes (n : Nat) (w : World) (h8 : 8 ≤ n) (h4 : n ≤ 4096) : Calls Tryz.prog 7 #[.int .i64 n] w fun e w' => ∃ q v1 v2 s1 s2, e = .returned (.tuple #[.pointer (some ⟨q, 0, none⟩), .int .i64 0]) ∧ Rf w w' q n n v1 v2 s1 s2 (fun _ => List.replicate 256 0) (fun _ => List.replicate 256 0) := by
  obtain ⟨i0, hi0, hz0, hz1, hz2⟩ := info_parts info28
  obtain ⟨Z, hmk, hZ⟩ := make_p
  obtain ⟨zf, hzf⟩ : ∃ zf : Nat → List Int, zf = fun _ => List.replicate 256 0 := ⟨_, rfl⟩
  have HZF : Hid (∀ (w : World) (k : Nat), Own 0 (w.alloc (.cells Z 5)) (.slice (some ⟨w.heap.size, 0, none⟩) 256 256) (zf k)) := fun w k => by rw [hzf]; exact hZ w
  rw [← hzf]
  clear hZ hzf
  have HR0 : Hid (Rf w (w.alloc (.cells #[.slice none 0 0, .slice none 0 0, .slice none 0 0, .slice none 0 0, .int .i64 (-1), .int .i64 0, .bool false] 58)) w.heap.size 0 0 (.slice none 0 0) (.slice none 0 0) [] [] zf zf) :=
    ⟨heap_alloc_new w _, World.ownsRow_nil _ _ _ _, World.ownsRow_nil _ _ _ _, fun i hi => by omega, fun i hi => by omega, by simp [Value.ownBlock], by simp [Value.ownBlock], fun g hg => by simp [Value.ownBlock] at hg, Nat.le_refl _, fun g hg => by simp [Value.ownBlock] at hg, fun g hg => by simp [Value.ownBlock] at hg, (Below.refl _ w).alloc (Nat.le_refl _) _⟩
  obtain ⟨q, hq⟩ : ∃ q, w.heap.size = q := ⟨_, rfl⟩
  rw [hq] at HR0
  go_enter Tryz.func7, Tryz.ntmps7
  go_wp2
  have HQ : Hid (w.heap.size = q) := hq
  clear hq
  go_loopw [5] (fun i wr => ∃ k : Nat, k ≤ n ∧ i = .int .i64 k ∧ ∃ v1 v2 s1 s2, Rf w wr q k k v1 v2 s1 s2 zf zf) (fun i _ => n - (intOf i).toNat)
  case atStart => exact ⟨0, Nat.zero_le _, rfl, _, _, _, _, HR0.out⟩
  case round =>
    clear HR0
    obtain ⟨k, hk, rfl, v1, v2, s1, s2, hR⟩ := hrel
    by_cases hlt : k < n
    · obtain ⟨d0, d1, z⟩ := hR.at
      have y0 := z 0
      have lq := hR.qlt
      have hp1 := hR.n1
      have HO1 : Hid (wr.ownsRow 0 38 1 v1 k s1) := hR.o1
      have HR : Hid (Rf w wr q k k v1 v2 s1 s2 zf zf) := hR
      have a0 : ∀ o, (wr.alloc o).cell? ⟨q, 0, none⟩ = some v1 := fun o => (World.cell?_alloc_lt _ _ _ lq).trans d0
      have b0 : ∀ o o', ((wr.alloc o).alloc o').cell? ⟨q, 0, none⟩ = some v1 := fun o o' => (World.cell?_alloc_lt _ _ _ (by simp; omega)).trans (a0 o)
      have HNW : Hid (∀ (j : Nat) (u : Value), ([Value.slice (some ⟨wr.heap.size, 0, none⟩) 256 256] : List Value)[j]? = some u → ((wr.alloc (.cells Z 5)).alloc (.cells #[.slice (some ⟨wr.heap.size, 0, none⟩) 256 256] 38)).drew.cell? ((⟨wr.heap.size + 1, 0, none⟩ : Addr).add j) = some u) := by
        intro j u hj
        have := World.news_of_block (w := (wr.alloc (.cells Z 5)).alloc (.cells #[.slice (some ⟨wr.heap.size, 0, none⟩) 256 256] 38)) (cs := #[.slice (some ⟨wr.heap.size, 0, none⟩) 256 256]) (t := 38) (fr := (0, 0)) (heap_alloc_new (wr.alloc (.cells Z 5)) _) j u (by simpa using hj)
        simpa using this
      have hfar : ∀ (w2 : World), ((wr.alloc (.cells Z 5)).alloc (.cells #[.slice (some ⟨wr.heap.size, 0, none⟩) 256 256] 38)).drew.grownBy w2 v1.ownBlock → w2.cell? ⟨q, 0, none⟩ = some v1 ∧ w2.frozen? ⟨q, 0, none⟩ = false := fun w2 hg => by
        have e : w2.heap[q]? = wr.heap[q]? := (hg.block q (by simp; omega) (fun e => hp1 e.symm)).trans ((Below.heap_alloc _ _ _ (by simp; omega)).trans (Below.heap_alloc wr _ q lq))
        exact ⟨(World.cell?_of_block (w := wr) (a := ⟨q, 0, none⟩) e).trans d0, (World.frozen?_of_block (w := wr) (a := ⟨q, 0, none⟩) e).trans y0⟩
      have HFR : Hid _ := hfar
      clear hR z hfar
      go_wp2_with fail
      go_region_law ((refine step_append_lies _ (by rfl) (.tmp 23) (.tmp 25) 55 (by rfl) 0 38 i0 (.slice none 0 0) 1 24 Tryz.underlying55 hi0 hz0 hz1 hz2 rfl (by omega) v1 k s1 (by rfl) (World.ownsRow.alloc (World.ownsRow.alloc HO1.out _) _) ⟨wr.heap.size + 1, 0, none⟩ 1 1 [.slice (some ⟨wr.heap.size, 0, none⟩) 256 256] (by rfl) (by rfl) HNW.out (by simp [Value.oneCell']) (by omega) (by unfold maxLen; omega) (by omega) (by simp) (wr.heap.size + 2) (by simp) ?_; intro g cap w2 hown2 hgrow hat hlt2; have hp2 := (HFR.out w2 hgrow).1; have hz2' := (HFR.out w2 hgrow).2; have HG : Hid (Rf w (w2.setCell ⟨q, 0, none⟩ (.slice (some ⟨g, 0, none⟩) (k + 1) cap)) q (k + 1) k (.slice (some ⟨g, 0, none⟩) (k + 1) cap) v2 (s1 ++ [.slice (some ⟨wr.heap.size, 0, none⟩) 256 256]) s2 zf zf) := HR.out.grow1 (HZF.out wr k) hown2 ⟨hgrow.os, hgrow.tape, hgrow.output, hgrow.size, hgrow.block⟩ hat; clear hown2 hgrow hat hlt2))
      all_goals
        go_wp2_with fail
        generalize hw3 : w2.setCell ⟨q, 0, none⟩ (.slice (some ⟨g, 0, none⟩) (k + 1) cap) = w3 at HG ⊢
        obtain ⟨e0, e1, zz⟩ := HG.out.at
        have yy1 := zz 1
        have lq3 := HG.out.qlt
        have hp12 := HG.out.n2
        have HO2 : Hid (w3.ownsRow 0 38 1 v2 k s2) := HG.out.o2
        have c1 : ∀ o, (w3.alloc o).cell? ⟨q, 1, none⟩ = some v2 := fun o => (World.cell?_alloc_lt _ _ _ lq3).trans e1
        have c2 : ∀ o o', ((w3.alloc o).alloc o').cell? ⟨q, 1, none⟩ = some v2 := fun o o' => (World.cell?_alloc_lt _ _ _ (by simp; omega)).trans (c1 o)
        have HNW2 : Hid (∀ (j : Nat) (u : Value), ([Value.slice (some ⟨w3.heap.size, 0, none⟩) 256 256] : List Value)[j]? = some u → ((w3.alloc (.cells Z 5)).alloc (.cells #[.slice (some ⟨w3.heap.size, 0, none⟩) 256 256] 38)).drew.cell? ((⟨w3.heap.size + 1, 0, none⟩ : Addr).add j) = some u) := by
          intro j u hj
          have := World.news_of_block (w := (w3.alloc (.cells Z 5)).alloc (.cells #[.slice (some ⟨w3.heap.size, 0, none⟩) 256 256] 38)) (cs := #[.slice (some ⟨w3.heap.size, 0, none⟩) 256 256]) (t := 38) (fr := (0, 0)) (heap_alloc_new (w3.alloc (.cells Z 5)) _) j u (by simpa using hj)
          simpa using this
        have hfar : ∀ (w4 : World), ((w3.alloc (.cells Z 5)).alloc (.cells #[.slice (some ⟨w3.heap.size, 0, none⟩) 256 256] 38)).drew.grownBy w4 v2.ownBlock → w4.cell? ⟨q, 1, none⟩ = some v2 ∧ w4.frozen? ⟨q, 1, none⟩ = false := fun w4 hg => by
          have e : w4.heap[q]? = w3.heap[q]? := (hg.block q (by simp; omega) (fun e => hp12 e.symm)).trans ((Below.heap_alloc _ _ _ (by simp; omega)).trans (Below.heap_alloc w3 _ q lq3))
          exact ⟨(World.cell?_of_block (w := w3) (a := ⟨q, 1, none⟩) e).trans e1, (World.frozen?_of_block (w := w3) (a := ⟨q, 1, none⟩) e).trans yy1⟩
        have HFR2 : Hid _ := hfar
        clear hfar zz hw3 a0 b0 d0 d1 y0 lq hp1 hp2 hz2' HNW HFR HO1 HR
        go_region_law ((refine step_append_lies _ (by rfl) (.tmp 33) (.tmp 35) 55 (by rfl) 0 38 i0 (.slice none 0 0) 1 24 Tryz.underlying55 hi0 hz0 hz1 hz2 rfl (by omega) v2 k s2 (by rfl) (World.ownsRow.alloc (World.ownsRow.alloc HO2.out _) _) ⟨w3.heap.size + 1, 0, none⟩ 1 1 [.slice (some ⟨w3.heap.size, 0, none⟩) 256 256] (by rfl) (by rfl) HNW2.out (by simp [Value.oneCell']) (by omega) (by unfold maxLen; omega) (by omega) (by simp) (w3.heap.size + 2) (by simp) ?_; intro g2 cap2 w4 hown4 hgrow4 hat4 hlt4; have hp4 := (HFR2.out w4 hgrow4).1; have hz4 := (HFR2.out w4 hgrow4).2; have HG4 : Hid (Rf w (w4.setCell ⟨q, 1, none⟩ (.slice (some ⟨g2, 0, none⟩) (k + 1) cap2)) q (k + 1) (k + 1) (.slice (some ⟨g, 0, none⟩) (k + 1) cap) (.slice (some ⟨g2, 0, none⟩) (k + 1) cap2) (s1 ++ [.slice (some ⟨wr.heap.size, 0, none⟩) 256 256]) (s2 ++ [.slice (some ⟨w3.heap.size, 0, none⟩) 256 256]) zf zf) := HG.out.grow2 (HZF.out w3 k) hown4 ⟨hgrow4.os, hgrow4.tape, hgrow4.output, hgrow4.size, hgrow4.block⟩ hat4; clear hown4 hgrow4 hat4 hlt4))
        all_goals
          go_wp2
          go_roundw
          case rel => exact ⟨k + 1, by omega, by go_num, _, _, _, _, HG4.out⟩
          case measure => simp [intOf]; omega
    · have e : k = n := by omega
      subst e
      go_wp2
      go_ret2
      exact ⟨q, v1, v2, s1, s2, rfl, hR⟩
end Go.Proofs.YtojckbhbnalkeaaGreat.Oct
