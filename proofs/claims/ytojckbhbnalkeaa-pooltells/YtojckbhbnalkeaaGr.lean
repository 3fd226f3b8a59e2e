/-
  Pages of bytes that the statements make: ones, Page.
-/
import Derived.Test.YtojckbhbnalkeaaGd
namespace Go.Proofs.Ytojckbhbnalkeaa.Oct
open Go.RowKit

/-- A page's bytes, the first k of them laid. -/
def fl (f : Nat → Int) (k : Nat) : List Int := (List.range 256).map fun i => if i < k then f i else 0

theorem fl_len (f : Nat → Int) (k : Nat) : (fl f k).length = 256 := by simp [fl]
theorem fl_at (f : Nat → Int) (k i : Nat) (hi : i < 256) : (fl f k).getD i 0 = if i < k then f i else 0 := by
  unfold fl
  rw [List.getD_eq_getElem?_getD, List.getElem?_map, List.getElem?_range hi]
  rfl
theorem set_at' (zs : List Int) (j : Nat) (y : Int) (i : Nat) (hi : i < zs.length) : (zs.set j y).getD i 0 = if i = j then y else zs.getD i 0 := by
  rw [List.getD_eq_getElem?_getD, List.getD_eq_getElem?_getD, List.getElem?_set]
  by_cases h : i = j
  · subst h; simp [hi]
  · simp [h, show ¬ j = i by omega]
theorem fl_set (f : Nat → Int) (k : Nat) : (fl f k).set k (f k) = fl f (k + 1) := by
  refine eq_of_getD (by simp [fl_len]) fun i hi => ?_
  rw [List.length_set, fl_len] at hi
  rw [set_at' _ _ _ _ (by rw [fl_len]; exact hi), fl_at _ _ _ hi, fl_at _ _ _ hi]
  by_cases h : i = k
  · rw [if_pos h, if_pos (by omega), h]
  · have e : (i < k + 1) = (i < k) := propext (by omega)
    rw [if_neg h]
    simp only [e]
theorem fl_zero (f : Nat → Int) : fl f 0 = List.replicate 256 0 := by
  refine eq_of_getD (by rw [fl_len, List.length_replicate]) fun i hi => ?_
  rw [fl_len] at hi
  rw [fl_at _ _ _ hi, if_neg (by omega), List.getD_eq_getElem?_getD, List.getElem?_replicate]
  split <;> rfl
/-- All of them. -/
def pgL (f : Nat → Int) : List Int := fl f 256
theorem pgL_at (f : Nat → Int) (i : Nat) (hi : i < 256) : (pgL f).getD i 0 = f i := by rw [pgL, fl_at _ _ _ hi, if_pos hi]
theorem pgL_len (f : Nat → Int) : (pgL f).length = 256 := fl_len _ _
theorem fl_bys {f : Nat → Int} (h : ∀ i, 0 ≤ f i ∧ f i ≤ 255) (k : Nat) : Bys (fl f k) := by
  intro z hz
  obtain ⟨i, _, rfl⟩ := List.mem_map.1 hz
  split
  · exact h i
  · omega

def msr (n : Int) : Nat := (256 - n).toNat

theorem made_fl {B g : Nat} {w : World} (f : Nat → Int) (h : w.ownsRow B 5 1 (.slice (some ⟨g, 0, none⟩) 256 256) 256 (madeCells (Value.int .u8 0).cells (256 * 1)).toList) : Own B w (.slice (some ⟨g, 0, none⟩) 256 256) (fl f 0) := by
  rw [fl_zero]
  exact made_own h

/-- The byte at place i of Page(fill, n). -/
def pgB (fill n : Int) (i : Nat) : Int := (fill + (i / 64 : Nat) * n) % 256

theorem pgB_eq (fill n : Int) (k : Nat) : (fill + wrap64 ((k : Int) / 64 * n)) % 256 = pgB fill n k := by
  unfold pgB
  rw [show ((k / 64 : Nat) : Int) = (k : Int) / 64 by omega]
  generalize (k : Int) / 64 * n = x
  unfold wrap64
  omega

theorem pgB_by (fill n : Int) (i : Nat) : 0 ≤ pgB fill n i ∧ pgB fill n i ≤ 255 := by unfold pgB; omega

set_option maxRecDepth 20000 in
set_option maxHeartbeats 1000000 in
theorem page_any (fill n : Int) (w : World) : Calls Try.prog 11 #[.int .u8 fill, .int .i64 n] w fun e w' => e = .returned (.slice (some ⟨w.heap.size, 0, none⟩) 256 256) ∧ Own w.heap.size w' (.slice (some ⟨w.heap.size, 0, none⟩) 256 256) (pgL (pgB fill n)) ∧ Below w.heap.size w w' := by
  obtain ⟨i0, hi0, hz0, hz1, hz2⟩ := info_parts info5
  go_enter Try.func11, Try.ntmps11
  go_wp2_with (at_make; refine wpList_make_full _ rfl _ _ 31 rfl w.heap.size 5 i0 (.int .u8 0) 1 Try.underlying31 hi0 hz0 hz1 .i64 .i64 _ _ 256 rfl rfl rfl rfl (by rw [hz2]; omega) (by simp [maxLen]) (Nat.le_refl _) ?_; intro w1 hown1 hgrow1; have hbel1 : Below w.heap.size w w1 := (Below.refl w.heap.size w).grown hgrow1 (Nat.le_refl _) (by simp); have ho1 : Hid (Own w.heap.size w1 (.slice (some ⟨w.heap.size, 0, none⟩) 256 256) (fl (pgB fill n) 0)) := made_fl _ hown1; clear hown1 hgrow1)
  go_loopw [6] (fun i wr => ∃ k : Nat, k ≤ 256 ∧ i = .int .i64 k ∧ Own w.heap.size wr (.slice (some ⟨w.heap.size, 0, none⟩) 256 256) (fl (pgB fill n) k) ∧ Below w.heap.size w wr) (fun i _ => msr (intOf i))
  case atStart => exact ⟨0, by omega, rfl, ho1.out, hbel1⟩
  case round =>
    obtain ⟨k, hk, rfl, hown, hb⟩ := hrel
    by_cases hlt : k < 256
    · obtain ⟨-, hc, hf, hst⟩ := own_at' hown k (by rw [fl_len]; exact hlt)
      have HS : Hid (Own w.heap.size (wr.setCell ⟨w.heap.size, k, none⟩ (.int .u8 ((fill + wrap64 ((k : Int) / 64 * n)) % 256))) (.slice (some ⟨w.heap.size, 0, none⟩) 256 256) (fl (pgB fill n) (k + 1))) := by
        have := hst (pgB fill n k)
        rw [fl_set (pgB fill n) k] at this
        rw [pgB_eq]
        exact this
      obtain ⟨c, hcc⟩ : ∃ c : Int, (fl (pgB fill n) k).getD k 0 = c := ⟨_, rfl⟩
      rw [hcc] at hc
      clear hcc hst hown
      go_wp2
      go_roundw
      case rel => exact ⟨k + 1, by omega, by go_num, HS.out, hb.setCell (p := ⟨w.heap.size, k, none⟩) (Nat.le_refl _) _⟩
      case measure => simp only [intOf, msr]; omega
    · have e : k = 256 := by omega
      subst e
      have HO : Hid (Own w.heap.size wr (.slice (some ⟨w.heap.size, 0, none⟩) 256 256) (pgL (pgB fill n))) := by unfold pgL; exact hown
      clear hown
      go_wp2
      go_ret
      exact ⟨rfl, HO.out, hb⟩
end Go.Proofs.Ytojckbhbnalkeaa.Oct
