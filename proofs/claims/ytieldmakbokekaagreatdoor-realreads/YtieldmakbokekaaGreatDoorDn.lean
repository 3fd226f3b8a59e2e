/-
  real.decimal of any text.
-/
import Derived.Test.YtieldmakbokekaaGreatDoorRd
import Derived.Test.YtieldmakbokekaaGreatDoorVo
namespace Go.Proofs.YtieldmakbokekaaGreatDoor.Oct
open Go.RowKit
open Go.Proofs.YtieldmakbokekaaGreatDoor.Fl

set_option maxHeartbeats 2000000 in
set_option maxRecDepth 100000 in
theorem decimal_long (s a b : ByteArray) (pt : Bool) (w : World)
    (hcut : Hid (∀ w, Calls Tryz.prog 44 #[.string s, .string ⟨#[46]⟩] w fun e w' => e = .returned (.tuple #[.string a, .string b, .bool pt]) ∧ Below w.heap.size w w'))
    (hl : (15 : Int) < (a.size : Int) + (b.size : Int)) (hs : (a.size : Int) + (b.size : Int) < 4611686018427387904) :
    Calls Tryz.prog 24 #[.string s] w fun e w' => e = .returned (.tuple #[.float .f64 0, .bool false]) ∧ Below w.heap.size w w' := by
  have hq : decide ((15 : Int) < (a.size : Int) + (b.size : Int)) = true := decide_eq_true hl
  go_enter Tryz.func24, Tryz.ntmps24
  go_wp2_with fail
  refine (hcut.out _).mono ?_
  rintro e w1 ⟨rfl, hb1⟩
  have B1 : Hid (Below w.heap.size w w1) := hb1
  clear hb1
  go_wp2
  go_ret2
  exact ⟨rfl, B1.out⟩

set_option maxHeartbeats 2000000 in
set_option maxRecDepth 100000 in
theorem decimal_badA (s a b : ByteArray) (pt : Bool) (w : World)
    (hcut : Hid (∀ w, Calls Tryz.prog 44 #[.string s, .string ⟨#[46]⟩] w fun e w' => e = .returned (.tuple #[.string a, .string b, .bool pt]) ∧ Below w.heap.size w w'))
    (hl : (a.size : Int) + (b.size : Int) ≤ 15) (ha : Hid ((dgs (bts a) && !a.toList.isEmpty) = false)) :
    Calls Tryz.prog 24 #[.string s] w fun e w' => e = .returned (.tuple #[.float .f64 0, .bool false]) ∧ Below w.heap.size w w' := by
  have hla : Hid (a.size ≤ 15) := by unfold Hid; omega
  have hq : decide ((15 : Int) < (a.size : Int) + (b.size : Int)) = false := decide_eq_false (by omega)
  go_enter Tryz.func24, Tryz.ntmps24
  go_wp2_with fail
  refine (hcut.out _).mono ?_
  rintro e w1 ⟨rfl, hb1⟩
  have B1 : Hid (Below w.heap.size w w1) := hb1
  clear hb1
  go_wp2_with fail
  refine (isDigits_any a _ hla.out).mono ?_
  rw [ha.out]
  rintro e w2 ⟨rfl, hb1⟩
  have B2 : Hid (Below w.heap.size w w2) := B1.out.trans (hb1.mono B1.out.size)
  clear hb1
  go_wp2
  go_ret2
  exact ⟨rfl, B2.out⟩

set_option maxHeartbeats 2000000 in
set_option maxRecDepth 100000 in
theorem decimal_badB (s a b : ByteArray) (w : World)
    (hcut : Hid (∀ w, Calls Tryz.prog 44 #[.string s, .string ⟨#[46]⟩] w fun e w' => e = .returned (.tuple #[.string a, .string b, .bool true]) ∧ Below w.heap.size w w'))
    (hl : (a.size : Int) + (b.size : Int) ≤ 15) (ha : Hid ((dgs (bts a) && !a.toList.isEmpty) = true)) (hb : Hid ((dgs (bts b) && !b.toList.isEmpty) = false)) :
    Calls Tryz.prog 24 #[.string s] w fun e w' => e = .returned (.tuple #[.float .f64 0, .bool false]) ∧ Below w.heap.size w w' := by
  have hla : Hid (a.size ≤ 15) := by unfold Hid; omega
  have hlb : Hid (b.size ≤ 15) := by unfold Hid; omega
  have hq : decide ((15 : Int) < (a.size : Int) + (b.size : Int)) = false := decide_eq_false (by omega)
  go_enter Tryz.func24, Tryz.ntmps24
  go_wp2_with fail
  refine (hcut.out _).mono ?_
  rintro e w1 ⟨rfl, hb1⟩
  have B1 : Hid (Below w.heap.size w w1) := hb1
  clear hb1
  go_wp2_with fail
  refine (isDigits_any a _ hla.out).mono ?_
  rw [ha.out]
  rintro e w2 ⟨rfl, hb1⟩
  have B2 : Hid (Below w.heap.size w w2) := B1.out.trans (hb1.mono B1.out.size)
  clear hb1
  go_wp2_with fail
  refine (isDigits_any b _ hlb.out).mono ?_
  rw [hb.out]
  rintro e w3 ⟨rfl, hb1⟩
  have B3 : Hid (Below w.heap.size w w3) := B2.out.trans (hb1.mono B2.out.size)
  clear hb1
  go_wp2
  go_ret2
  exact ⟨rfl, B3.out⟩

set_option maxHeartbeats 2000000 in
set_option maxRecDepth 100000 in
theorem decimal_zero (s a b : ByteArray) (w : World)
    (hcut : Hid (∀ w, Calls Tryz.prog 44 #[.string s, .string ⟨#[46]⟩] w fun e w' => e = .returned (.tuple #[.string a, .string b, .bool true]) ∧ Below w.heap.size w w'))
    (hl : (a.size : Int) + (b.size : Int) ≤ 15) (ha : Hid ((dgs (bts a) && !a.toList.isEmpty) = true)) (hb : Hid ((dgs (bts b) && !b.toList.isEmpty) = true))
    (hz : (1 : Int) < (a.size : Int)) (hix : ∀ W, (Instr.index 9 (.string a) (.int .i64 0)).run Tryz.prog W = .ok (.int .u8 48) W) :
    Calls Tryz.prog 24 #[.string s] w fun e w' => e = .returned (.tuple #[.float .f64 0, .bool false]) ∧ Below w.heap.size w w' := by
  have hla : Hid (a.size ≤ 15) := by unfold Hid; omega
  have hlb : Hid (b.size ≤ 15) := by unfold Hid; omega
  have hq : decide ((15 : Int) < (a.size : Int) + (b.size : Int)) = false := decide_eq_false (by omega)
  go_enter Tryz.func24, Tryz.ntmps24
  go_wp2_with fail
  refine (hcut.out _).mono ?_
  rintro e w1 ⟨rfl, hb1⟩
  have B1 : Hid (Below w.heap.size w w1) := hb1
  clear hb1
  go_wp2_with fail
  refine (isDigits_any a _ hla.out).mono ?_
  rw [ha.out]
  rintro e w2 ⟨rfl, hb1⟩
  have B2 : Hid (Below w.heap.size w w2) := B1.out.trans (hb1.mono B1.out.size)
  clear hb1
  go_wp2_with fail
  refine (isDigits_any b _ hlb.out).mono ?_
  rw [hb.out]
  rintro e w3 ⟨rfl, hb1⟩
  have B3 : Hid (Below w.heap.size w w3) := B2.out.trans (hb1.mono B2.out.size)
  clear hb1
  go_wp2
  go_ret2
  exact ⟨rfl, B3.out⟩

set_option maxHeartbeats 2000000 in
set_option maxRecDepth 100000 in
theorem decimal_zero_no (s a b : ByteArray) (w : World)
    (hcut : Hid (∀ w, Calls Tryz.prog 44 #[.string s, .string ⟨#[46]⟩] w fun e w' => e = .returned (.tuple #[.string a, .string b, .bool false]) ∧ Below w.heap.size w w'))
    (hl : (a.size : Int) + (b.size : Int) ≤ 15) (ha : Hid ((dgs (bts a) && !a.toList.isEmpty) = true))
    (hz : (1 : Int) < (a.size : Int)) (hix : ∀ W, (Instr.index 9 (.string a) (.int .i64 0)).run Tryz.prog W = .ok (.int .u8 48) W) :
    Calls Tryz.prog 24 #[.string s] w fun e w' => e = .returned (.tuple #[.float .f64 0, .bool false]) ∧ Below w.heap.size w w' := by
  have hla : Hid (a.size ≤ 15) := by unfold Hid; omega
  have hq : decide ((15 : Int) < (a.size : Int) + (b.size : Int)) = false := decide_eq_false (by omega)
  go_enter Tryz.func24, Tryz.ntmps24
  go_wp2_with fail
  refine (hcut.out _).mono ?_
  rintro e w1 ⟨rfl, hb1⟩
  have B1 : Hid (Below w.heap.size w w1) := hb1
  clear hb1
  go_wp2_with fail
  refine (isDigits_any a _ hla.out).mono ?_
  rw [ha.out]
  rintro e w2 ⟨rfl, hb1⟩
  have B2 : Hid (Below w.heap.size w w2) := B1.out.trans (hb1.mono B1.out.size)
  clear hb1
  go_wp2
  go_ret2
  exact ⟨rfl, B2.out⟩

end Go.Proofs.YtieldmakbokekaaGreatDoor.Oct
