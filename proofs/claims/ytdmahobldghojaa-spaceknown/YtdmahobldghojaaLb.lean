/-
  The landed space in memory; its small methods.
-/
import Derived.Test.YtdmahobldghojaaLa
import Derived.Test.YtdmahobldghojaaSh
import Derived.Test.YtdmahobldghojaaRn
import Derived.Deep.RegionHeld3
import Derived.Lib.SliceRun
import Derived.StillTailTactics
namespace Go.Proofs.Ytdmahobldghojaa.Oct.Sps
open Go.RowKit

/-- Its blocks are among F. -/
structure SpX (w : World) (s a ca b cb : Nat) (F : Nat → Prop) (S : List Int) : Prop where
  lt : ∀ k, F k → k < w.heap.size
  fs : F s
  fa : F a
  fb : F b
  ok : SpOk S
  cells : w.heap[s]? = some (.cells #[.int .i64 S.length, .slice (some ⟨a, 0, none⟩) ((S.length + 7) / 8) ca, .slice (some ⟨b, 0, none⟩) ((S.length + 7) / 8) cb] 59 (0, 0))
  last : Own 0 w (.slice (some ⟨a, 0, none⟩) ((S.length + 7) / 8) ca) (lasL S)
  next : Own 0 w (.slice (some ⟨b, 0, none⟩) ((S.length + 7) / 8) cb) (bitL S)
  sa : ¬ s = a
  sb : ¬ s = b
  ab : ¬ a = b
def Spa (w : World) (s : Nat) (F : Nat → Prop) (S : List Int) : Prop := ∃ a ca b cb, SpX w s a ca b cb F S

section
variable {w w' : World} {s a ca b cb : Nat} {F : Nat → Prop} {S : List Int}

theorem SpX.keep (h : SpX w s a ca b cb F S) (hs : w.heap.size ≤ w'.heap.size) (k : ∀ g, F g → w'.heap[g]? = w.heap[g]?) : SpX w' s a ca b cb F S :=
  { h with lt := fun g hg => Nat.lt_of_lt_of_le (h.lt g hg) hs, cells := (k s h.fs).trans h.cells, last := h.last.kept (k a h.fa), next := h.next.kept (k b h.fb) }
theorem SpX.ch {G : Nat → Prop} (h : SpX w s a ca b cb F S) (hc : Ch w.heap.size G w w') (hd : ∀ k, F k → ¬ G k) : SpX w' s a ca b cb F S :=
  h.keep hc.size (fun g hg => hc.block g (h.lt g hg) (hd g hg))
theorem SpX.below (h : SpX w s a ca b cb F S) (hc : Below w.heap.size w w') : SpX w' s a ca b cb F S := h.ch (Ch.of (fun _ => False) hc) (fun _ _ h => h)

/-- What a walk wants. -/
theorem SpX.at (h : SpX w s a ca b cb F S) : w.cell? ⟨s, 0, none⟩ = some (.int .i64 S.length) ∧ w.cell? ⟨s, 1, none⟩ = some (.slice (some ⟨a, 0, none⟩) ((S.length + 7) / 8) ca) ∧ w.cell? ⟨s, 2, none⟩ = some (.slice (some ⟨b, 0, none⟩) ((S.length + 7) / 8) cb) := by
  refine ⟨?_, ?_, ?_⟩ <;> rw [cell_of_row w s _ _ _ (0, 0) h.cells] <;> rfl
theorem SpX.rowA (h : SpX w s a ca b cb F S) : Row w (some ⟨a, 0, none⟩) ca (lasL S) := (h.last.row' (lasL_bys S)).2
theorem SpX.rowB (h : SpX w s a ca b cb F S) : Row w (some ⟨b, 0, none⟩) cb (bitL S) := (h.next.row' (bitL_bys S)).2

/-- Another next set. -/
theorem SpX.next' (h : SpX w s a ca b cb F S) {S' : List Int} (hs : w.heap.size ≤ w'.heap.size) (hk : ∀ g, F g → ¬ g = b → w'.heap[g]? = w.heap[g]?) (hl : S'.length = S.length) (ok : SpOk S') (e : lasL S' = lasL S) (hn : Own 0 w' (.slice (some ⟨b, 0, none⟩) ((S.length + 7) / 8) cb) (bitL S')) : SpX w' s a ca b cb F S' :=
  { lt := fun g hg => Nat.lt_of_lt_of_le (h.lt g hg) hs, fs := h.fs, fa := h.fa, fb := h.fb, ok := ok, cells := by rw [hl]; exact (hk s h.fs h.sb).trans h.cells
    last := by rw [hl, e]; exact h.last.kept (hk a h.fa h.ab)
    next := by rw [hl]; exact hn
    sa := h.sa, sb := h.sb, ab := h.ab }
/-- Another last set. -/
theorem SpX.last' (h : SpX w s a ca b cb F S) {S' : List Int} (hs : w.heap.size ≤ w'.heap.size) (hk : ∀ g, F g → ¬ g = a → w'.heap[g]? = w.heap[g]?) (hl : S'.length = S.length) (ok : SpOk S') (e : bitL S' = bitL S) (hn : Own 0 w' (.slice (some ⟨a, 0, none⟩) ((S.length + 7) / 8) ca) (lasL S')) : SpX w' s a ca b cb F S' :=
  { lt := fun g hg => Nat.lt_of_lt_of_le (h.lt g hg) hs, fs := h.fs, fa := h.fa, fb := h.fb, ok := ok, cells := by rw [hl]; exact (hk s h.fs h.sa).trans h.cells
    last := by rw [hl]; exact hn
    next := by rw [hl, e]; exact h.next.kept (hk b h.fb (fun e => h.ab e.symm))
    sa := h.sa, sb := h.sb, ab := h.ab }

theorem made_any (h : SpX w s a ca b cb F S) : Calls Try.prog 36 #[.pointer (some ⟨s, 0, none⟩)] w fun e w' => e = .returned (.bool true) ∧ w = w' := by
  obtain ⟨c0, -, -⟩ := h.at
  have hp : 0 < S.length := by have := h.ok.lo; omega
  clear h
  go_enter Try.func36, Try.ntmps36
  go_wp2
  go_ret
  exact ⟨rfl, rfl⟩

theorem has_any (h : SpX w s a ca b cb F S) (p : Int) : Calls Try.prog 38 #[.pointer (some ⟨s, 0, none⟩), .int .i64 p] w fun e w' => e = .returned (.bool (inB S p)) ∧ w = w' := by
  obtain ⟨c0, -, -⟩ := h.at
  have hhi := h.ok.hi
  clear h
  by_cases h0 : 0 ≤ p
  · by_cases h1 : p < (S.length : Int)
    · have HE : Hid (inB S p = true) := by show _ = _; unfold inB; rw [decide_eq_true h0, decide_eq_true h1]; rfl
      go_enter Try.func38, Try.ntmps38
      go_wp2
      go_ret
      rw [HE.out]
      exact ⟨rfl, rfl⟩
    · have HE : Hid (inB S p = false) := by show _ = _; unfold inB; rw [decide_eq_true h0, decide_eq_false h1]; rfl
      go_enter Try.func38, Try.ntmps38
      go_wp2
      go_ret
      rw [HE.out]
      exact ⟨rfl, rfl⟩
  · have HE : Hid (inB S p = false) := by show _ = _; unfold inB; rw [decide_eq_false h0]; rfl
    go_enter Try.func38, Try.ntmps38
    go_wp2
    go_ret
    rw [HE.out]
    exact ⟨rfl, rfl⟩
end

/-- May there be so many pages? -/
def alwB (n : Int) : Bool := decide (8 ≤ n ∧ n ≤ 4096)
theorem allowed_any (n : Int) (w : World) : Calls Try.prog 32 #[.int .i64 n] w fun e w' => e = .returned (.bool (alwB n)) ∧ w = w' := by
  by_cases h0 : 8 ≤ n
  · by_cases h1 : n ≤ 4096
    · have HE : Hid (alwB n = true) := decide_eq_true ⟨h0, h1⟩
      go_enter Try.func32, Try.ntmps32
      go_wp2
      go_ret
      rw [HE.out]; exact ⟨rfl, rfl⟩
    · have HE : Hid (alwB n = false) := decide_eq_false (fun h => h1 h.2)
      go_enter Try.func32, Try.ntmps32
      go_wp2
      go_ret
      rw [HE.out]; exact ⟨rfl, rfl⟩
  · have HE : Hid (alwB n = false) := decide_eq_false (fun h => h0 h.1)
    go_enter Try.func32, Try.ntmps32
    go_wp2
    go_ret
    rw [HE.out]; exact ⟨rfl, rfl⟩

theorem room_any (n : Nat) (w : World) (h : n ≤ 4096) : Calls Try.prog 33 #[.int .i64 n] w fun e w' => e = .returned (.int .i64 ((n + 7) / 8 : Nat)) ∧ w = w' := by
  have hq : ((n : Int) + 7) / 8 = (((n + 7) / 8 : Nat) : Int) := by omega
  go_enter Try.func33, Try.ntmps33
  go_wp2
  go_ret
  exact ⟨rfl, rfl⟩

/-- A bit of a row. -/
theorem setHas_any (ad : Option Addr) (cap : Nat) (zs : List Int) (k : Nat) (w : World) (h : Row w ad cap zs) (hl : zs.length ≤ 1000000) (hk : k < zs.length * 8) :
    Calls Try.prog 51 #[.slice ad zs.length cap, .int .i64 k] w fun e w' => e = .returned (.bool (bitR zs k)) ∧ w = w' := by
  obtain ⟨b, off, rfl⟩ := h.some' (by omega)
  have hrow := h.cells (k / 8) (by omega)
  have hbz := h.1.at (k / 8)
  have hcap := h.2.1
  have hm := h.2.2.1
  unfold maxLen at hm
  have hand := bit_and hbz.1 hbz.2 (k % 8)
  have hkj : ((k : Int) / 8) = ((k / 8 : Nat) : Int) := by omega
  have hkr : ((k : Int) % 8) = ((k % 8 : Nat) : Int) := by omega
  have hr8 : k % 8 < 8 := by omega
  have hj : k / 8 < zs.length := by omega
  have hbit : bitR zs k = (zs.getD (k / 8) 0 / 2 ^ (k % 8) % 2 == 1) := rfl
  obtain ⟨z, hz'⟩ : ∃ z, zs.getD (k / 8) 0 = z := ⟨_, rfl⟩
  rw [hz'] at hrow hbz hand hbit
  obtain ⟨j, hj'⟩ : ∃ j, k / 8 = j := ⟨_, rfl⟩
  obtain ⟨r, hr'⟩ : ∃ r, k % 8 = r := ⟨_, rfl⟩
  rw [hj'] at hrow hkj hj
  rw [hr'] at hand hkr hr8 hbit
  have HB : Hid (bitR zs k = (z / 2 ^ r % 2 == 1)) := hbit
  clear hz' hj' hr' h hbit
  have hm01 : z / 2 ^ r % 2 = 0 ∨ z / 2 ^ r % 2 = 1 := by omega
  rcases hm01 with hm | hm
  · rw [hm] at hand
    have HB2 : Hid (bitR zs k = false) := by show _ = _; rw [HB.out, hm]; rfl
    clear hm hbz HB
    go_enter Try.func51, Try.ntmps51
    go_wp2
    go_ret
    rw [HB2.out]
    exact ⟨rfl, rfl⟩
  · rw [hm] at hand
    have HB2 : Hid (bitR zs k = true) := by show _ = _; rw [HB.out, hm]; rfl
    clear hm hbz HB
    go_enter Try.func51, Try.ntmps51
    go_wp2
    go_ret
    rw [HB2.out]
    exact ⟨rfl, rfl⟩

/-- A bit more in a row of one's own. -/
theorem setAdd_any (g n cap : Nat) (zs : List Int) (k : Nat) (w : World) (h : Own 0 w (.slice (some ⟨g, 0, none⟩) n cap) zs) (hb : Bys zs) (hl : zs.length ≤ 1000000) (hk : k < zs.length * 8) :
    Calls Try.prog 34 #[.slice (some ⟨g, 0, none⟩) n cap, .int .i64 k] w fun e w' => e = .returned (.tuple #[]) ∧ Own 0 w' (.slice (some ⟨g, 0, none⟩) n cap) (zs.set (k / 8) (bits .or .u8 (zs.getD (k / 8) 0) (2 ^ (k % 8) % 256))) ∧ Ch w.heap.size (fun x => x = g) w w' := by
  obtain ⟨hn, b1, b2, hst⟩ := own_at' h (k / 8) (by omega)
  obtain ⟨-, -, hcap, hm, -⟩ := h.cur
  unfold maxLen at hm
  have hkj : ((k : Int) / 8) = ((k / 8 : Nat) : Int) := by omega
  have hkr : ((k : Int) % 8) = ((k % 8 : Nat) : Int) := by omega
  have hr8 : k % 8 < 8 := by omega
  have hj : k / 8 < n := by omega
  have HS : Hid (∀ y : Int, Own 0 (w.setCell ⟨g, k / 8, none⟩ (.int .u8 y)) (.slice (some ⟨g, 0, none⟩) n cap) (zs.set (k / 8) y)) := hst
  have hzb := hb.at (k / 8)
  obtain ⟨z, hz'⟩ : ∃ z, zs.getD (k / 8) 0 = z := ⟨_, rfl⟩
  rw [hz'] at b1 hzb ⊢
  obtain ⟨j, hj'⟩ : ∃ j, k / 8 = j := ⟨_, rfl⟩
  obtain ⟨r, hr'⟩ : ∃ r, k % 8 = r := ⟨_, rfl⟩
  rw [hj'] at b1 b2 hkj hj HS ⊢
  rw [hr'] at hkr hr8 ⊢
  have HL : Hid (n ≤ 1000000) := by show _ ≤ _; omega
  have hn1 := HL.out
  clear hz' hj' hr' h hst hb hn hl hk
  go_enter Try.func34, Try.ntmps34
  go_wp2
  go_region
  go_end0
  exact ⟨rfl, HS.out _, (Ch.set (F := fun x => x = g) rfl _ _).drew⟩
/-- A bit less in a row of one's own. -/
theorem setDrop_any (g n cap : Nat) (zs : List Int) (k : Nat) (w : World) (h : Own 0 w (.slice (some ⟨g, 0, none⟩) n cap) zs) (hb : Bys zs) (hl : zs.length ≤ 1000000) (hk : k < zs.length * 8) :
    Calls Try.prog 40 #[.slice (some ⟨g, 0, none⟩) n cap, .int .i64 k] w fun e w' => e = .returned (.tuple #[]) ∧ Own 0 w' (.slice (some ⟨g, 0, none⟩) n cap) (zs.set (k / 8) (bits .andNot .u8 (zs.getD (k / 8) 0) (2 ^ (k % 8) % 256))) ∧ Ch w.heap.size (fun x => x = g) w w' := by
  obtain ⟨hn, b1, b2, hst⟩ := own_at' h (k / 8) (by omega)
  obtain ⟨-, -, hcap, hm, -⟩ := h.cur
  unfold maxLen at hm
  have hkj : ((k : Int) / 8) = ((k / 8 : Nat) : Int) := by omega
  have hkr : ((k : Int) % 8) = ((k % 8 : Nat) : Int) := by omega
  have hr8 : k % 8 < 8 := by omega
  have hj : k / 8 < n := by omega
  have HS : Hid (∀ y : Int, Own 0 (w.setCell ⟨g, k / 8, none⟩ (.int .u8 y)) (.slice (some ⟨g, 0, none⟩) n cap) (zs.set (k / 8) y)) := hst
  have hzb := hb.at (k / 8)
  obtain ⟨z, hz'⟩ : ∃ z, zs.getD (k / 8) 0 = z := ⟨_, rfl⟩
  rw [hz'] at b1 hzb ⊢
  obtain ⟨j, hj'⟩ : ∃ j, k / 8 = j := ⟨_, rfl⟩
  obtain ⟨r, hr'⟩ : ∃ r, k % 8 = r := ⟨_, rfl⟩
  rw [hj'] at b1 b2 hkj hj HS ⊢
  rw [hr'] at hkr hr8 ⊢
  have HL : Hid (n ≤ 1000000) := by show _ ≤ _; omega
  have hn1 := HL.out
  clear hz' hj' hr' h hst hb hn hl hk
  go_enter Try.func40, Try.ntmps40
  go_wp2
  go_region
  go_end0
  exact ⟨rfl, HS.out _, (Ch.set (F := fun x => x = g) rfl _ _).drew⟩
end Go.Proofs.Ytdmahobldghojaa.Oct.Sps
