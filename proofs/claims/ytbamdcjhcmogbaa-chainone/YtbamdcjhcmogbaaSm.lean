/-
  The walk of the document's Same: are two rows of bytes alike?
-/
import Derived.Test.YtbamdcjhcmogbaaR
namespace Go.Proofs.Ytbamdcjhcmogbaa.Oct
open Go.RowKit

def sameB (xs ys : List Int) : Bool := decide (xs = ys)

theorem same_more {xs ys : List Int} {k : Nat} (h : Hid (∀ j, j < k → xs.getD j 0 = ys.getD j 0)) (e : xs.getD k 0 = ys.getD k 0) : Hid (∀ j, j < k + 1 → xs.getD j 0 = ys.getD j 0) := by
  intro j hj
  by_cases hjk : j = k
  · rw [hjk]; exact e
  · exact h.out j (by omega)

set_option maxHeartbeats 1000000 in
theorem same_any (a b : Option Addr) (cap cap' : Nat) (xs ys : List Int) (w : World) (hx : Row w a cap xs) (hy : Row w b cap' ys) :
    Calls Try.prog 16 #[.slice a xs.length cap, .slice b ys.length cap'] w fun e w' => e = .returned (.bool (sameB xs ys)) ∧ Below w.heap.size w w' := by
  obtain ⟨_, hx2, hx3, hx4⟩ := hx
  obtain ⟨_, hy2, hy3, hy4⟩ := hy
  unfold maxLen at hx3 hy3
  by_cases hl : xs.length = ys.length
  · have hlb : ((xs.length : Int) != (ys.length : Int)) = false := by simp [hl]
    have hle : ys.length ≤ xs.length := by omega
    have HL : Hid (xs.length = ys.length) := hl
    have HX : Hid (xs = [] ∨ ∃ b off, a = some ⟨b, off, none⟩ ∧ ∀ i, i < xs.length → w.cell? ⟨b, off + i, none⟩ = some (.int .u8 (xs.getD i 0))) := hx4
    have HY : Hid (ys = [] ∨ ∃ c off, b = some ⟨c, off, none⟩ ∧ ∀ i, i < ys.length → w.cell? ⟨c, off + i, none⟩ = some (.int .u8 (ys.getD i 0))) := hy4
    clear hx4 hy4 hl
    go_enter Try.func16, Try.ntmps16
    go_wp2
    go_loopw [5] (fun i wr => ∃ k : Nat, k ≤ xs.length ∧ i = .int .i64 k ∧ Hid (∀ j, j < k → xs.getD j 0 = ys.getD j 0) ∧ Below w.heap.size w wr) (fun i _ => xs.length - (intOf i).toNat)
    case atStart => exact ⟨0, Nat.zero_le _, rfl, show Hid _ from fun j hj => by omega, Below.refl _ _⟩
    case round =>
      obtain ⟨k, hk, rfl, hall, hnx⟩ := hrel
      by_cases hlt : k < xs.length
      · obtain ⟨p, off, rfl, hz⟩ := HX.out.resolve_left (by intro e; rw [e] at hlt; exact absurd hlt (by simp))
        obtain ⟨p', off', rfl, hz'⟩ := HY.out.resolve_left (by intro e; have := HL.out; rw [e] at this; rw [this] at hlt; exact absurd hlt (by simp))
        have hlt' : k < ys.length := by have := HL.out; omega
        have hc := (hnx.cell (p := ⟨p, off + k, none⟩) (block_lt_of_cell (hz k hlt))).trans (hz k hlt)
        have hc' := (hnx.cell (p := ⟨p', off' + k, none⟩) (block_lt_of_cell (hz' k hlt'))).trans (hz' k hlt')
        clear hz hz'
        obtain ⟨c, hcc⟩ : ∃ c : Int, xs.getD k 0 = c := ⟨_, rfl⟩
        obtain ⟨d, hdd⟩ : ∃ d : Int, ys.getD k 0 = d := ⟨_, rfl⟩
        rw [hcc] at hc
        rw [hdd] at hc'
        have HC : Hid (xs.getD k 0 = c) := hcc
        have HD : Hid (ys.getD k 0 = d) := hdd
        clear hcc hdd
        by_cases hcd : c = d
        · have hcb : (c != d) = false := by simp [hcd]
          have HE : Hid (c = d) := hcd
          clear hcd
          go_wp2
          go_region
          all_goals (try go_wp2)
          all_goals
            go_roundw
            case rel => exact ⟨k + 1, by omega, by go_num, same_more hall (HC.out.trans (HE.out.trans HD.out.symm)), hnx.drew⟩
            case measure => simp [intOf]; omega
        · have hcb : (c != d) = true := by simpa using hcd
          have hs : sameB xs ys = false := by
            simp [sameB]; intro e; apply hcd; rw [← HC.out, ← HD.out, e]
          go_wp2
          go_region
          all_goals (try go_wp2)
          all_goals
            go_ret
            exact ⟨by rw [hs]; rfl, hnx.drew⟩
      · have hs : sameB xs ys = true := by
          have e := eq_of_getD HL.out (fun i hi => hall.out i (by omega))
          simp [sameB, e]
        go_wp2
        go_ret
        exact ⟨by rw [hs]; rfl, hnx⟩
  · have hlb : ((xs.length : Int) != (ys.length : Int)) = true := by simp; omega
    have hs : sameB xs ys = false := by simp [sameB]; intro e; exact hl (by rw [e])
    rw [hs]
    go_enter Try.func16, Try.ntmps16
    go_wp2
    go_ret
    exact ⟨rfl, Below.refl _ _⟩
end Go.Proofs.Ytbamdcjhcmogbaa.Oct
