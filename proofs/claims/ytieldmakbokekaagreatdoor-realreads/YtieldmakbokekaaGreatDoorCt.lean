/-
  strings.Cut at a point.
-/
import Derived.Test.YtieldmakbokekaaGreatDoorRf
import Derived.Test.YtieldmakbokekaaGreatDoorShelf
import Derived.Deep.QuietTactic
import Derived.BigQuiet
import Derived.OwnWalk
import Derived.Test.YtieldmakbokekaaGreatDoorFl
namespace Go.Proofs.YtieldmakbokekaaGreatDoor.Oct
open Go.RowKit
open Go.Proofs.YtieldmakbokekaaGreatDoor.Fl

/-- Where the first point stands; -1: nowhere. -/
def ptAt (s : ByteArray) : Int := Lib.indexByte s.data.toList 46
def cutA (s : ByteArray) : ByteArray := if 0 ≤ ptAt s then s.extract 0 (ptAt s).toNat else s
def cutB (s : ByteArray) : ByteArray := if 0 ≤ ptAt s then s.extract (ptAt s + 1).toNat s.size else ⟨#[]⟩

theorem bel_drewN (B : Nat) (w : World) (n : Nat) : Below B w (w.drewN n) := by
  induction n with
  | zero => exact Below.refl B w
  | succ n ih => exact Below.drew ih

theorem cutL_any (s : ByteArray) (w : World) (hi : ptAt s < s.size) (hs : s.size ≤ 2 ^ 62) :
    Calls Tryz.prog 66 #[.string s, .string ⟨#[46]⟩] w fun e w' => e = .returned (.tuple #[.string (cutA s), .string (cutB s), .bool (decide (0 ≤ ptAt s))]) ∧ Below w.heap.size w w' := by
  have hix := Tryz.stringslite_Index_one s 46 w
  obtain ⟨i, hp⟩ : ∃ i, Lib.indexByte s.data.toList 46 = i := ⟨_, rfl⟩
  have HP : Hid (ptAt s = i) := hp
  have hi' : i < s.size := by rw [← HP.out]; exact hi
  rw [hp] at hix
  clear hp hi
  by_cases h0 : 0 ≤ i
  · have hd : decide (0 ≤ i) = true := decide_eq_true h0
    have HA : Hid (cutA s = s.extract 0 i.toNat) := by unfold Hid cutA; rw [HP.out, if_pos h0]
    have HB : Hid (cutB s = s.extract (i + 1).toNat s.size) := by unfold Hid cutB; rw [HP.out, if_pos h0]
    have hw1 : wrap64 (i + 1) = i + 1 := by unfold wrap64; omega
    have hi1 : i + 1 ≤ s.size := by omega
    rw [HP.out, HA.out, HB.out, hd]
    go_enter Tryz.func66, Tryz.ntmps66
    go_wp2_with (go_at_call 79; refine hix.mono ?_; rintro e w' ⟨rfl, rfl⟩)
    go_quiet (fail)
    go_wp2
    go_ret3
    exact ⟨rfl, bel_drewN _ _ _⟩
  · have hd : decide (0 ≤ i) = false := decide_eq_false h0
    have HA : Hid (cutA s = s) := by unfold Hid cutA; rw [HP.out, if_neg h0]
    have HB : Hid (cutB s = ⟨#[]⟩) := by unfold Hid cutB; rw [HP.out, if_neg h0]
    rw [HP.out, HA.out, HB.out, hd]
    go_enter Tryz.func66, Tryz.ntmps66
    go_wp2_with (go_at_call 79; refine hix.mono ?_; rintro e w' ⟨rfl, rfl⟩)
    go_ret3
    exact ⟨rfl, Below.refl _ _⟩

theorem ix_lt (l : List UInt8) (c : UInt8) : Lib.indexByte l c < (l.length : Int) := by
  induction l with
  | nil => simp [Lib.indexByte]
  | cons b l ih =>
    unfold Lib.indexByte
    rw [List.length_cons]
    split
    · omega
    · split <;> omega

theorem pt_lt (s : ByteArray) : ptAt s < s.size := by
  have := ix_lt s.data.toList 46
  rw [Array.length_toList] at this
  exact this

theorem cut_any (s : ByteArray) (w : World) (hs : s.size ≤ 2 ^ 62) :
    Calls Tryz.prog 44 #[.string s, .string ⟨#[46]⟩] w fun e w' => e = .returned (.tuple #[.string (cutA s), .string (cutB s), .bool (decide (0 ≤ ptAt s))]) ∧ Below w.heap.size w w' := by
  have hc := fun w => cutL_any s w (pt_lt s) hs
  generalize cutA s = a at *
  generalize cutB s = b at *
  generalize decide (0 ≤ ptAt s) = p at *
  clear hs
  go_enter Tryz.func44, Tryz.ntmps44
  go_wp2_with fail
  refine (hc _).mono ?_
  rintro e w' ⟨rfl, hb⟩
  have HB : Hid (Below w.heap.size w w') := hb
  clear hb
  go_wp2
  go_ret3
  exact ⟨rfl, HB.out⟩

end Go.Proofs.YtieldmakbokekaaGreatDoor.Oct

/-
  real.decimal where a text says a number.
-/
namespace Go.Proofs.YtieldmakbokekaaGreatDoor.Oct
open Go.RowKit
open Go.Proofs.YtieldmakbokekaaGreatDoor.Fl

set_option maxHeartbeats 2000000 in
set_option maxRecDepth 100000 in
/-- With a point. -/
theorem decimal_pt (s a b : ByteArray) (w : World) (n t : Nat)
    (hcut : Hid (∀ w, Calls Tryz.prog 44 #[.string s, .string ⟨#[46]⟩] w fun e w' => e = .returned (.tuple #[.string a, .string b, .bool true]) ∧ Below w.heap.size w w'))
    (hl : (a.size : Int) + (b.size : Int) ≤ 15) (ha : Hid (dgs (bts a) = true)) (ha0 : Hid (a.toList.isEmpty = false)) (hb : Hid (dgs (bts b) = true)) (hb0 : Hid (b.toList.isEmpty = false))
    (hab : Hid (dgs (bts (a ++ b)) = true)) (hn : Hid (num (bts (a ++ b)) (a ++ b).size = n)) (hk : Hid (10 ^ b.size = t)) (hz : decide ((1 : Int) < (a.size : Int)) = false) :
    Calls Tryz.prog 24 #[.string s] w fun e w' => ∃ r, e = .returned (.tuple #[.float .f64 r, .bool true]) ∧ r < 2 ^ 64 ∧ nb r = nb (quo2 (floatOfInt .f64 (n : Int)) (floatOfInt .f64 (t : Int))) ∧ Below w.heap.size w w' := by
  have hla : Hid (a.size ≤ 15) := by unfold Hid; omega
  have hlb : Hid (b.size ≤ 15) := by unfold Hid; omega
  have hlab : Hid ((a ++ b).size ≤ 15) := by unfold Hid; rw [ByteArray.size_append]; omega
  have hq : decide ((15 : Int) < (a.size : Int) + (b.size : Int)) = false := decide_eq_false (by omega)
  go_enter Tryz.func24, Tryz.ntmps24
  go_wp2_with fail
  refine (hcut.out _).mono ?_
  rintro e w1 ⟨rfl, hb1⟩
  have B1 : Hid (Below w.heap.size w w1) := hb1
  clear hb1
  go_wp2_with fail
  refine (isDigits_any a _ hla.out).mono ?_
  rw [ha.out, ha0.out]
  rintro e w2 ⟨rfl, hb1⟩
  have B2 : Hid (Below w.heap.size w w2) := B1.out.trans (hb1.mono B1.out.size)
  clear hb1
  go_wp2_with fail
  refine (isDigits_any b _ hlb.out).mono ?_
  rw [hb.out, hb0.out]
  rintro e w3 ⟨rfl, hb1⟩
  have B3 : Hid (Below w.heap.size w w3) := B2.out.trans (hb1.mono B2.out.size)
  clear hb1
  go_wp2_with fail
  refine (number_any (a ++ b) _ hab.out hlab.out).mono ?_
  rw [hn.out]
  rintro e w4 ⟨rfl, hb1⟩
  have B4 : Hid (Below w.heap.size w w4) := B3.out.trans (hb1.mono B3.out.size)
  clear hb1
  go_wp2_with fail
  refine (power_any b.size _ hlb.out).mono ?_
  rw [hk.out]
  rintro e w5 ⟨rfl, rfl⟩
  obtain ⟨r, w6, hb6, hr, hnr, hq6⟩ := run_quo (floatOfInt .f64 (n : Int)) (floatOfInt .f64 (t : Int)) w4
  have B6 : Hid (Below w.heap.size w w6) := B4.out.trans (hb6.mono B4.out.size)
  have HR : Hid (r < 2 ^ 64) := hr
  have HNR : Hid (nb r = nb (quo2 (floatOfInt .f64 (n : Int)) (floatOfInt .f64 (t : Int)))) := hnr
  clear hb6 hr hnr
  go_wp2
  go_ret2
  exact ⟨r, rfl, HR.out, HNR.out, B6.out⟩

set_option maxHeartbeats 2000000 in
set_option maxRecDepth 100000 in
/-- With a point, several digits ahead. -/
theorem decimal_pt2 (s a b : ByteArray) (w : World) (n t : Nat)
    (hcut : Hid (∀ w, Calls Tryz.prog 44 #[.string s, .string ⟨#[46]⟩] w fun e w' => e = .returned (.tuple #[.string a, .string b, .bool true]) ∧ Below w.heap.size w w'))
    (hl : (a.size : Int) + (b.size : Int) ≤ 15) (ha : Hid (dgs (bts a) = true)) (ha0 : Hid (a.toList.isEmpty = false)) (hb : Hid (dgs (bts b) = true)) (hb0 : Hid (b.toList.isEmpty = false))
    (hab : Hid (dgs (bts (a ++ b)) = true)) (hn : Hid (num (bts (a ++ b)) (a ++ b).size = n)) (hk : Hid (10 ^ b.size = t)) (hz : (1 : Int) < (a.size : Int)) (c : Int) (hix : ∀ W, (Instr.index 9 (.string a) (.int .i64 0)).run Tryz.prog W = .ok (.int .u8 c) W) (hc : (c == 48) = false) :
    Calls Tryz.prog 24 #[.string s] w fun e w' => ∃ r, e = .returned (.tuple #[.float .f64 r, .bool true]) ∧ r < 2 ^ 64 ∧ nb r = nb (quo2 (floatOfInt .f64 (n : Int)) (floatOfInt .f64 (t : Int))) ∧ Below w.heap.size w w' := by
  have hla : Hid (a.size ≤ 15) := by unfold Hid; omega
  have hlb : Hid (b.size ≤ 15) := by unfold Hid; omega
  have hlab : Hid ((a ++ b).size ≤ 15) := by unfold Hid; rw [ByteArray.size_append]; omega
  have hq : decide ((15 : Int) < (a.size : Int) + (b.size : Int)) = false := decide_eq_false (by omega)
  go_enter Tryz.func24, Tryz.ntmps24
  go_wp2_with fail
  refine (hcut.out _).mono ?_
  rintro e w1 ⟨rfl, hb1⟩
  have B1 : Hid (Below w.heap.size w w1) := hb1
  clear hb1
  go_wp2_with fail
  refine (isDigits_any a _ hla.out).mono ?_
  rw [ha.out, ha0.out]
  rintro e w2 ⟨rfl, hb1⟩
  have B2 : Hid (Below w.heap.size w w2) := B1.out.trans (hb1.mono B1.out.size)
  clear hb1
  go_wp2_with fail
  refine (isDigits_any b _ hlb.out).mono ?_
  rw [hb.out, hb0.out]
  rintro e w3 ⟨rfl, hb1⟩
  have B3 : Hid (Below w.heap.size w w3) := B2.out.trans (hb1.mono B2.out.size)
  clear hb1
  go_wp2_with fail
  refine (number_any (a ++ b) _ hab.out hlab.out).mono ?_
  rw [hn.out]
  rintro e w4 ⟨rfl, hb1⟩
  have B4 : Hid (Below w.heap.size w w4) := B3.out.trans (hb1.mono B3.out.size)
  clear hb1
  go_wp2_with fail
  refine (power_any b.size _ hlb.out).mono ?_
  rw [hk.out]
  rintro e w5 ⟨rfl, rfl⟩
  obtain ⟨r, w6, hb6, hr, hnr, hq6⟩ := run_quo (floatOfInt .f64 (n : Int)) (floatOfInt .f64 (t : Int)) w4
  have B6 : Hid (Below w.heap.size w w6) := B4.out.trans (hb6.mono B4.out.size)
  have HR : Hid (r < 2 ^ 64) := hr
  have HNR : Hid (nb r = nb (quo2 (floatOfInt .f64 (n : Int)) (floatOfInt .f64 (t : Int)))) := hnr
  clear hb6 hr hnr
  go_wp2
  go_ret2
  exact ⟨r, rfl, HR.out, HNR.out, B6.out⟩

set_option maxHeartbeats 2000000 in
set_option maxRecDepth 100000 in
/-- Without a point. -/
theorem decimal_no (s a b : ByteArray) (w : World) (n t : Nat)
    (hcut : Hid (∀ w, Calls Tryz.prog 44 #[.string s, .string ⟨#[46]⟩] w fun e w' => e = .returned (.tuple #[.string a, .string b, .bool false]) ∧ Below w.heap.size w w'))
    (hl : (a.size : Int) + (b.size : Int) ≤ 15) (ha : Hid (dgs (bts a) = true)) (ha0 : Hid (a.toList.isEmpty = false))
    (hab : Hid (dgs (bts (a ++ b)) = true)) (hn : Hid (num (bts (a ++ b)) (a ++ b).size = n)) (hk : Hid (10 ^ b.size = t)) (hz : decide ((1 : Int) < (a.size : Int)) = false) :
    Calls Tryz.prog 24 #[.string s] w fun e w' => ∃ r, e = .returned (.tuple #[.float .f64 r, .bool true]) ∧ r < 2 ^ 64 ∧ nb r = nb (quo2 (floatOfInt .f64 (n : Int)) (floatOfInt .f64 (t : Int))) ∧ Below w.heap.size w w' := by
  have hla : Hid (a.size ≤ 15) := by unfold Hid; omega
  have hlb : Hid (b.size ≤ 15) := by unfold Hid; omega
  have hlab : Hid ((a ++ b).size ≤ 15) := by unfold Hid; rw [ByteArray.size_append]; omega
  have hq : decide ((15 : Int) < (a.size : Int) + (b.size : Int)) = false := decide_eq_false (by omega)
  go_enter Tryz.func24, Tryz.ntmps24
  go_wp2_with fail
  refine (hcut.out _).mono ?_
  rintro e w1 ⟨rfl, hb1⟩
  have B1 : Hid (Below w.heap.size w w1) := hb1
  clear hb1
  go_wp2_with fail
  refine (isDigits_any a _ hla.out).mono ?_
  rw [ha.out, ha0.out]
  rintro e w2 ⟨rfl, hb1⟩
  have B2 : Hid (Below w.heap.size w w2) := B1.out.trans (hb1.mono B1.out.size)
  clear hb1
  go_wp2_with fail
  refine (number_any (a ++ b) _ hab.out hlab.out).mono ?_
  rw [hn.out]
  rintro e w4 ⟨rfl, hb1⟩
  have B4 : Hid (Below w.heap.size w w4) := B2.out.trans (hb1.mono B2.out.size)
  clear hb1
  go_wp2_with fail
  refine (power_any b.size _ hlb.out).mono ?_
  rw [hk.out]
  rintro e w5 ⟨rfl, rfl⟩
  obtain ⟨r, w6, hb6, hr, hnr, hq6⟩ := run_quo (floatOfInt .f64 (n : Int)) (floatOfInt .f64 (t : Int)) w4
  have B6 : Hid (Below w.heap.size w w6) := B4.out.trans (hb6.mono B4.out.size)
  have HR : Hid (r < 2 ^ 64) := hr
  have HNR : Hid (nb r = nb (quo2 (floatOfInt .f64 (n : Int)) (floatOfInt .f64 (t : Int)))) := hnr
  clear hb6 hr hnr
  go_wp2
  go_ret2
  exact ⟨r, rfl, HR.out, HNR.out, B6.out⟩

set_option maxHeartbeats 2000000 in
set_option maxRecDepth 100000 in
/-- Without a point, several digits. -/
theorem decimal_no2 (s a b : ByteArray) (w : World) (n t : Nat)
    (hcut : Hid (∀ w, Calls Tryz.prog 44 #[.string s, .string ⟨#[46]⟩] w fun e w' => e = .returned (.tuple #[.string a, .string b, .bool false]) ∧ Below w.heap.size w w'))
    (hl : (a.size : Int) + (b.size : Int) ≤ 15) (ha : Hid (dgs (bts a) = true)) (ha0 : Hid (a.toList.isEmpty = false))
    (hab : Hid (dgs (bts (a ++ b)) = true)) (hn : Hid (num (bts (a ++ b)) (a ++ b).size = n)) (hk : Hid (10 ^ b.size = t)) (hz : (1 : Int) < (a.size : Int)) (c : Int) (hix : ∀ W, (Instr.index 9 (.string a) (.int .i64 0)).run Tryz.prog W = .ok (.int .u8 c) W) (hc : (c == 48) = false) :
    Calls Tryz.prog 24 #[.string s] w fun e w' => ∃ r, e = .returned (.tuple #[.float .f64 r, .bool true]) ∧ r < 2 ^ 64 ∧ nb r = nb (quo2 (floatOfInt .f64 (n : Int)) (floatOfInt .f64 (t : Int))) ∧ Below w.heap.size w w' := by
  have hla : Hid (a.size ≤ 15) := by unfold Hid; omega
  have hlb : Hid (b.size ≤ 15) := by unfold Hid; omega
  have hlab : Hid ((a ++ b).size ≤ 15) := by unfold Hid; rw [ByteArray.size_append]; omega
  have hq : decide ((15 : Int) < (a.size : Int) + (b.size : Int)) = false := decide_eq_false (by omega)
  go_enter Tryz.func24, Tryz.ntmps24
  go_wp2_with fail
  refine (hcut.out _).mono ?_
  rintro e w1 ⟨rfl, hb1⟩
  have B1 : Hid (Below w.heap.size w w1) := hb1
  clear hb1
  go_wp2_with fail
  refine (isDigits_any a _ hla.out).mono ?_
  rw [ha.out, ha0.out]
  rintro e w2 ⟨rfl, hb1⟩
  have B2 : Hid (Below w.heap.size w w2) := B1.out.trans (hb1.mono B1.out.size)
  clear hb1
  go_wp2_with fail
  refine (number_any (a ++ b) _ hab.out hlab.out).mono ?_
  rw [hn.out]
  rintro e w4 ⟨rfl, hb1⟩
  have B4 : Hid (Below w.heap.size w w4) := B2.out.trans (hb1.mono B2.out.size)
  clear hb1
  go_wp2_with fail
  refine (power_any b.size _ hlb.out).mono ?_
  rw [hk.out]
  rintro e w5 ⟨rfl, rfl⟩
  obtain ⟨r, w6, hb6, hr, hnr, hq6⟩ := run_quo (floatOfInt .f64 (n : Int)) (floatOfInt .f64 (t : Int)) w4
  have B6 : Hid (Below w.heap.size w w6) := B4.out.trans (hb6.mono B4.out.size)
  have HR : Hid (r < 2 ^ 64) := hr
  have HNR : Hid (nb r = nb (quo2 (floatOfInt .f64 (n : Int)) (floatOfInt .f64 (t : Int)))) := hnr
  clear hb6 hr hnr
  go_wp2
  go_ret2
  exact ⟨r, rfl, HR.out, HNR.out, B6.out⟩

end Go.Proofs.YtieldmakbokekaaGreatDoor.Oct
