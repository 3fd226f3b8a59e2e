/-
  strings.Cut at a point.
-/
import Derived.Test.YtieldmakbokekaaGreatDoorDe
import Derived.Test.YtieldmakbokekaaGreatDoorShelf
import Derived.Deep.QuietTactic
import Derived.BigQuiet
import Derived.OwnWalk
namespace Go.Proofs.YtieldmakbokekaaGreatDoor.Oct
open Go.RowKit
open Go.Proofs.YtieldmakbokekaaGreatDoor.Fl

/-- Where the first point stands; -1: nowhere. -/
def ptAt (s : ByteArray) : Int := Lib.indexByte s.data.toList 46
def cutA (s : ByteArray) : ByteArray := if 0 ≤ ptAt s then s.extract 0 (ptAt s).toNat else s
def cutB (s : ByteArray) : ByteArray := if 0 ≤ ptAt s then s.extract (ptAt s + 1).toNat s.size else ⟨#[]⟩

theorem bel_drewN (B : Nat) (w : World) (n : Nat) : Below B w (w.drewN n) := by
  induction n with
  | zero => exact Below.refl B w
  | succ n ih => exact Below.drew ih

theorem cutL_any (s : ByteArray) (w : World) (hi : ptAt s < s.size) (hs : s.size ≤ 2 ^ 62) :
    Calls Tryz.prog 66 #[.string s, .string ⟨#[46]⟩] w fun e w' => e = .returned (.tuple #[.string (cutA s), .string (cutB s), .bool (decide (0 ≤ ptAt s))]) ∧ Below w.heap.size w w' := by
  have hix := Tryz.stringslite_Index_one s 46 w
  obtain ⟨i, hp⟩ : ∃ i, Lib.indexByte s.data.toList 46 = i := ⟨_, rfl⟩
  have HP : Hid (ptAt s = i) := hp
  have hi' : i < s.size := by rw [← HP.out]; exact hi
  rw [hp] at hix
  clear hp hi
  by_cases h0 : 0 ≤ i
  · have hd : decide (0 ≤ i) = true := decide_eq_true h0
    have HA : Hid (cutA s = s.extract 0 i.toNat) := by unfold Hid cutA; rw [HP.out, if_pos h0]
    have HB : Hid (cutB s = s.extract (i + 1).toNat s.size) := by unfold Hid cutB; rw [HP.out, if_pos h0]
    have hw1 : wrap64 (i + 1) = i + 1 := by unfold wrap64; omega
    have hi1 : i + 1 ≤ s.size := by omega
    rw [HP.out, HA.out, HB.out, hd]
    go_enter Tryz.func66, Tryz.ntmps66
    go_wp2_with (go_at_call 79; refine hix.mono ?_; rintro e w' ⟨rfl, rfl⟩)
    go_quiet (fail)
    go_wp2
    go_ret3
    exact ⟨rfl, bel_drewN _ _ _⟩
  · have hd : decide (0 ≤ i) = false := decide_eq_false h0
    have HA : Hid (cutA s = s) := by unfold Hid cutA; rw [HP.out, if_neg h0]
    have HB : Hid (cutB s = ⟨#[]⟩) := by unfold Hid cutB; rw [HP.out, if_neg h0]
    rw [HP.out, HA.out, HB.out, hd]
    go_enter Tryz.func66, Tryz.ntmps66
    go_wp2_with (go_at_call 79; refine hix.mono ?_; rintro e w' ⟨rfl, rfl⟩)
    go_ret3
    exact ⟨rfl, Below.refl _ _⟩

theorem ix_lt (l : List UInt8) (c : UInt8) : Lib.indexByte l c < (l.length : Int) := by
  induction l with
  | nil => simp [Lib.indexByte]
  | cons b l ih =>
    unfold Lib.indexByte
    rw [List.length_cons]
    split
    · omega
    · split <;> omega

theorem pt_lt (s : ByteArray) : ptAt s < s.size := by
  have := ix_lt s.data.toList 46
  rw [Array.length_toList] at this
  exact this

theorem cut_any (s : ByteArray) (w : World) (hs : s.size ≤ 2 ^ 62) :
    Calls Tryz.prog 44 #[.string s, .string ⟨#[46]⟩] w fun e w' => e = .returned (.tuple #[.string (cutA s), .string (cutB s), .bool (decide (0 ≤ ptAt s))]) ∧ Below w.heap.size w w' := by
  have hc := fun w => cutL_any s w (pt_lt s) hs
  generalize cutA s = a at *
  generalize cutB s = b at *
  generalize decide (0 ≤ ptAt s) = p at *
  clear hs
  go_enter Tryz.func44, Tryz.ntmps44
  go_wp2_with fail
  refine (hc _).mono ?_
  rintro e w' ⟨rfl, hb⟩
  have HB : Hid (Below w.heap.size w w') := hb
  clear hb
  go_wp2
  go_ret3
  exact ⟨rfl, HB.out⟩

end Go.Proofs.YtieldmakbokekaaGreatDoor.Oct
