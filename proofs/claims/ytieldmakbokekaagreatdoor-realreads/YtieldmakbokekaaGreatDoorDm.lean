/-
  real.decimal where a text says a number.
-/
import Derived.Test.YtieldmakbokekaaGreatDoorCt
import Derived.Test.YtieldmakbokekaaGreatDoorFq
namespace Go.Proofs.YtieldmakbokekaaGreatDoor.Oct
open Go.RowKit
open Go.Proofs.YtieldmakbokekaaGreatDoor.Fl

set_option maxHeartbeats 2000000 in
set_option maxRecDepth 100000 in
/-- With a point. -/
theorem decimal_pt (s a b : ByteArray) (w : World) (n t : Nat)
    (hcut : Hid (∀ w, Calls Tryz.prog 44 #[.string s, .string ⟨#[46]⟩] w fun e w' => e = .returned (.tuple #[.string a, .string b, .bool true]) ∧ Below w.heap.size w w'))
    (hl : (a.size : Int) + (b.size : Int) ≤ 15) (ha : Hid (dgs (bts a) = true)) (ha0 : Hid (a.toList.isEmpty = false)) (hb : Hid (dgs (bts b) = true)) (hb0 : Hid (b.toList.isEmpty = false))
    (hab : Hid (dgs (bts (a ++ b)) = true)) (hn : Hid (num (bts (a ++ b)) (a ++ b).size = n)) (hk : Hid (10 ^ b.size = t)) (hz : decide ((1 : Int) < (a.size : Int)) = false) :
    Calls Tryz.prog 24 #[.string s] w fun e w' => ∃ r, e = .returned (.tuple #[.float .f64 r, .bool true]) ∧ r < 2 ^ 64 ∧ nb r = nb (quo2 (floatOfInt .f64 (n : Int)) (floatOfInt .f64 (t : Int))) ∧ Below w.heap.size w w' := by
  have hla : Hid (a.size ≤ 15) := by unfold Hid; omega
  have hlb : Hid (b.size ≤ 15) := by unfold Hid; omega
  have hlab : Hid ((a ++ b).size ≤ 15) := by unfold Hid; rw [ByteArray.size_append]; omega
  have hq : decide ((15 : Int) < (a.size : Int) + (b.size : Int)) = false := decide_eq_false (by omega)
  go_enter Tryz.func24, Tryz.ntmps24
  go_wp2_with fail
  refine (hcut.out _).mono ?_
  rintro e w1 ⟨rfl, hb1⟩
  have B1 : Hid (Below w.heap.size w w1) := hb1
  clear hb1
  go_wp2_with fail
  refine (isDigits_any a _ hla.out).mono ?_
  rw [ha.out, ha0.out]
  rintro e w2 ⟨rfl, hb1⟩
  have B2 : Hid (Below w.heap.size w w2) := B1.out.trans (hb1.mono B1.out.size)
  clear hb1
  go_wp2_with fail
  refine (isDigits_any b _ hlb.out).mono ?_
  rw [hb.out, hb0.out]
  rintro e w3 ⟨rfl, hb1⟩
  have B3 : Hid (Below w.heap.size w w3) := B2.out.trans (hb1.mono B2.out.size)
  clear hb1
  go_wp2_with fail
  refine (number_any (a ++ b) _ hab.out hlab.out).mono ?_
  rw [hn.out]
  rintro e w4 ⟨rfl, hb1⟩
  have B4 : Hid (Below w.heap.size w w4) := B3.out.trans (hb1.mono B3.out.size)
  clear hb1
  go_wp2_with fail
  refine (power_any b.size _ hlb.out).mono ?_
  rw [hk.out]
  rintro e w5 ⟨rfl, rfl⟩
  obtain ⟨r, w6, hb6, hr, hnr, hq6⟩ := run_quo (floatOfInt .f64 (n : Int)) (floatOfInt .f64 (t : Int)) w4
  have B6 : Hid (Below w.heap.size w w6) := B4.out.trans (hb6.mono B4.out.size)
  have HR : Hid (r < 2 ^ 64) := hr
  have HNR : Hid (nb r = nb (quo2 (floatOfInt .f64 (n : Int)) (floatOfInt .f64 (t : Int)))) := hnr
  clear hb6 hr hnr
  go_wp2
  go_ret2
  exact ⟨r, rfl, HR.out, HNR.out, B6.out⟩

set_option maxHeartbeats 2000000 in
set_option maxRecDepth 100000 in
/-- With a point, several digits ahead. -/
theorem decimal_pt2 (s a b : ByteArray) (w : World) (n t : Nat)
    (hcut : Hid (∀ w, Calls Tryz.prog 44 #[.string s, .string ⟨#[46]⟩] w fun e w' => e = .returned (.tuple #[.string a, .string b, .bool true]) ∧ Below w.heap.size w w'))
    (hl : (a.size : Int) + (b.size : Int) ≤ 15) (ha : Hid (dgs (bts a) = true)) (ha0 : Hid (a.toList.isEmpty = false)) (hb : Hid (dgs (bts b) = true)) (hb0 : Hid (b.toList.isEmpty = false))
    (hab : Hid (dgs (bts (a ++ b)) = true)) (hn : Hid (num (bts (a ++ b)) (a ++ b).size = n)) (hk : Hid (10 ^ b.size = t)) (hz : (1 : Int) < (a.size : Int)) (c : Int) (hix : ∀ W, (Instr.index 9 (.string a) (.int .i64 0)).run Tryz.prog W = .ok (.int .u8 c) W) (hc : (c == 48) = false) :
    Calls Tryz.prog 24 #[.string s] w fun e w' => ∃ r, e = .returned (.tuple #[.float .f64 r, .bool true]) ∧ r < 2 ^ 64 ∧ nb r = nb (quo2 (floatOfInt .f64 (n : Int)) (floatOfInt .f64 (t : Int))) ∧ Below w.heap.size w w' := by
  have hla : Hid (a.size ≤ 15) := by unfold Hid; omega
  have hlb : Hid (b.size ≤ 15) := by unfold Hid; omega
  have hlab : Hid ((a ++ b).size ≤ 15) := by unfold Hid; rw [ByteArray.size_append]; omega
  have hq : decide ((15 : Int) < (a.size : Int) + (b.size : Int)) = false := decide_eq_false (by omega)
  go_enter Tryz.func24, Tryz.ntmps24
  go_wp2_with fail
  refine (hcut.out _).mono ?_
  rintro e w1 ⟨rfl, hb1⟩
  have B1 : Hid (Below w.heap.size w w1) := hb1
  clear hb1
  go_wp2_with fail
  refine (isDigits_any a _ hla.out).mono ?_
  rw [ha.out, ha0.out]
  rintro e w2 ⟨rfl, hb1⟩
  have B2 : Hid (Below w.heap.size w w2) := B1.out.trans (hb1.mono B1.out.size)
  clear hb1
  go_wp2_with fail
  refine (isDigits_any b _ hlb.out).mono ?_
  rw [hb.out, hb0.out]
  rintro e w3 ⟨rfl, hb1⟩
  have B3 : Hid (Below w.heap.size w w3) := B2.out.trans (hb1.mono B2.out.size)
  clear hb1
  go_wp2_with fail
  refine (number_any (a ++ b) _ hab.out hlab.out).mono ?_
  rw [hn.out]
  rintro e w4 ⟨rfl, hb1⟩
  have B4 : Hid (Below w.heap.size w w4) := B3.out.trans (hb1.mono B3.out.size)
  clear hb1
  go_wp2_with fail
  refine (power_any b.size _ hlb.out).mono ?_
  rw [hk.out]
  rintro e w5 ⟨rfl, rfl⟩
  obtain ⟨r, w6, hb6, hr, hnr, hq6⟩ := run_quo (floatOfInt .f64 (n : Int)) (floatOfInt .f64 (t : Int)) w4
  have B6 : Hid (Below w.heap.size w w6) := B4.out.trans (hb6.mono B4.out.size)
  have HR : Hid (r < 2 ^ 64) := hr
  have HNR : Hid (nb r = nb (quo2 (floatOfInt .f64 (n : Int)) (floatOfInt .f64 (t : Int)))) := hnr
  clear hb6 hr hnr
  go_wp2
  go_ret2
  exact ⟨r, rfl, HR.out, HNR.out, B6.out⟩

set_option maxHeartbeats 2000000 in
set_option maxRecDepth 100000 in
/-- Without a point. -/
theorem decimal_no (s a b : ByteArray) (w : World) (n t : Nat)
    (hcut : Hid (∀ w, Calls Tryz.prog 44 #[.string s, .string ⟨#[46]⟩] w fun e w' => e = .returned (.tuple #[.string a, .string b, .bool false]) ∧ Below w.heap.size w w'))
    (hl : (a.size : Int) + (b.size : Int) ≤ 15) (ha : Hid (dgs (bts a) = true)) (ha0 : Hid (a.toList.isEmpty = false))
    (hab : Hid (dgs (bts (a ++ b)) = true)) (hn : Hid (num (bts (a ++ b)) (a ++ b).size = n)) (hk : Hid (10 ^ b.size = t)) (hz : decide ((1 : Int) < (a.size : Int)) = false) :
    Calls Tryz.prog 24 #[.string s] w fun e w' => ∃ r, e = .returned (.tuple #[.float .f64 r, .bool true]) ∧ r < 2 ^ 64 ∧ nb r = nb (quo2 (floatOfInt .f64 (n : Int)) (floatOfInt .f64 (t : Int))) ∧ Below w.heap.size w w' := by
  have hla : Hid (a.size ≤ 15) := by unfold Hid; omega
  have hlb : Hid (b.size ≤ 15) := by unfold Hid; omega
  have hlab : Hid ((a ++ b).size ≤ 15) := by unfold Hid; rw [ByteArray.size_append]; omega
  have hq : decide ((15 : Int) < (a.size : Int) + (b.size : Int)) = false := decide_eq_false (by omega)
  go_enter Tryz.func24, Tryz.ntmps24
  go_wp2_with fail
  refine (hcut.out _).mono ?_
  rintro e w1 ⟨rfl, hb1⟩
  have B1 : Hid (Below w.heap.size w w1) := hb1
  clear hb1
  go_wp2_with fail
  refine (isDigits_any a _ hla.out).mono ?_
  rw [ha.out, ha0.out]
  rintro e w2 ⟨rfl, hb1⟩
  have B2 : Hid (Below w.heap.size w w2) := B1.out.trans (hb1.mono B1.out.size)
  clear hb1
  go_wp2_with fail
  refine (number_any (a ++ b) _ hab.out hlab.out).mono ?_
  rw [hn.out]
  rintro e w4 ⟨rfl, hb1⟩
  have B4 : Hid (Below w.heap.size w w4) := B2.out.trans (hb1.mono B2.out.size)
  clear hb1
  go_wp2_with fail
  refine (power_any b.size _ hlb.out).mono ?_
  rw [hk.out]
  rintro e w5 ⟨rfl, rfl⟩
  obtain ⟨r, w6, hb6, hr, hnr, hq6⟩ := run_quo (floatOfInt .f64 (n : Int)) (floatOfInt .f64 (t : Int)) w4
  have B6 : Hid (Below w.heap.size w w6) := B4.out.trans (hb6.mono B4.out.size)
  have HR : Hid (r < 2 ^ 64) := hr
  have HNR : Hid (nb r = nb (quo2 (floatOfInt .f64 (n : Int)) (floatOfInt .f64 (t : Int)))) := hnr
  clear hb6 hr hnr
  go_wp2
  go_ret2
  exact ⟨r, rfl, HR.out, HNR.out, B6.out⟩

set_option maxHeartbeats 2000000 in
set_option maxRecDepth 100000 in
/-- Without a point, several digits. -/
theorem decimal_no2 (s a b : ByteArray) (w : World) (n t : Nat)
    (hcut : Hid (∀ w, Calls Tryz.prog 44 #[.string s, .string ⟨#[46]⟩] w fun e w' => e = .returned (.tuple #[.string a, .string b, .bool false]) ∧ Below w.heap.size w w'))
    (hl : (a.size : Int) + (b.size : Int) ≤ 15) (ha : Hid (dgs (bts a) = true)) (ha0 : Hid (a.toList.isEmpty = false))
    (hab : Hid (dgs (bts (a ++ b)) = true)) (hn : Hid (num (bts (a ++ b)) (a ++ b).size = n)) (hk : Hid (10 ^ b.size = t)) (hz : (1 : Int) < (a.size : Int)) (c : Int) (hix : ∀ W, (Instr.index 9 (.string a) (.int .i64 0)).run Tryz.prog W = .ok (.int .u8 c) W) (hc : (c == 48) = false) :
    Calls Tryz.prog 24 #[.string s] w fun e w' => ∃ r, e = .returned (.tuple #[.float .f64 r, .bool true]) ∧ r < 2 ^ 64 ∧ nb r = nb (quo2 (floatOfInt .f64 (n : Int)) (floatOfInt .f64 (t : Int))) ∧ Below w.heap.size w w' := by
  have hla : Hid (a.size ≤ 15) := by unfold Hid; omega
  have hlb : Hid (b.size ≤ 15) := by unfold Hid; omega
  have hlab : Hid ((a ++ b).size ≤ 15) := by unfold Hid; rw [ByteArray.size_append]; omega
  have hq : decide ((15 : Int) < (a.size : Int) + (b.size : Int)) = false := decide_eq_false (by omega)
  go_enter Tryz.func24, Tryz.ntmps24
  go_wp2_with fail
  refine (hcut.out _).mono ?_
  rintro e w1 ⟨rfl, hb1⟩
  have B1 : Hid (Below w.heap.size w w1) := hb1
  clear hb1
  go_wp2_with fail
  refine (isDigits_any a _ hla.out).mono ?_
  rw [ha.out, ha0.out]
  rintro e w2 ⟨rfl, hb1⟩
  have B2 : Hid (Below w.heap.size w w2) := B1.out.trans (hb1.mono B1.out.size)
  clear hb1
  go_wp2_with fail
  refine (number_any (a ++ b) _ hab.out hlab.out).mono ?_
  rw [hn.out]
  rintro e w4 ⟨rfl, hb1⟩
  have B4 : Hid (Below w.heap.size w w4) := B2.out.trans (hb1.mono B2.out.size)
  clear hb1
  go_wp2_with fail
  refine (power_any b.size _ hlb.out).mono ?_
  rw [hk.out]
  rintro e w5 ⟨rfl, rfl⟩
  obtain ⟨r, w6, hb6, hr, hnr, hq6⟩ := run_quo (floatOfInt .f64 (n : Int)) (floatOfInt .f64 (t : Int)) w4
  have B6 : Hid (Below w.heap.size w w6) := B4.out.trans (hb6.mono B4.out.size)
  have HR : Hid (r < 2 ^ 64) := hr
  have HNR : Hid (nb r = nb (quo2 (floatOfInt .f64 (n : Int)) (floatOfInt .f64 (t : Int)))) := hnr
  clear hb6 hr hnr
  go_wp2
  go_ret2
  exact ⟨r, rfl, HR.out, HNR.out, B6.out⟩

end Go.Proofs.YtieldmakbokekaaGreatDoor.Oct
