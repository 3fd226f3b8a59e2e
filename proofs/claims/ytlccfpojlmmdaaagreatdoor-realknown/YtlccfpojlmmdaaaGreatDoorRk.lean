/-
  Chapter 3's examples: each call alone.
-/
import Derived.Test.YtlccfpojlmmdaaaGreatDoorRl
import Derived.Test.YtlccfpojlmmdaaaGreatDoorAk3
import Derived.Test.YtlccfpojlmmdaaaGreatDoorSh
import Derived.Test.YtlccfpojlmmdaaaGreatDoorPl
import Derived.Test.YtlccfpojlmmdaaaGreatDoorRe
import Derived.Test.YtlccfpojlmmdaaaGreatDoorDd
namespace Go.Proofs.YtlccfpojlmmdaaaGreatDoor.Oct
open Go.RowKit
open Go.Proofs.YtlccfpojlmmdaaaGreatDoor.Fl

theorem nb_is2 {x v : Nat} (h : nb x = v) (hv : ¬ Nan v) : x = v := by
  unfold nb at h
  split at h
  · exfalso; rw [← h] at hv; exact hv nan_can
  · exact h

theorem share_of (a b : Int) (w : World) : Calls Tryz.prog 13 #[.int .i64 a, .int .i64 b] w fun e w' => ∃ r, e = .returned (.float .f64 r) ∧ r < 2 ^ 64 ∧ nb r = nb (quo2 (floatOfInt .f64 a) (floatOfInt .f64 b)) ∧ Below w.heap.size w w' := by
  obtain ⟨r, w2, hb, hr, hn, hq⟩ := run_quo (floatOfInt .f64 a) (floatOfInt .f64 b) w
  have HB : Hid (Below w.heap.size w w2) := hb
  have HR : Hid (r < 2 ^ 64) := hr
  have HN : Hid (nb r = nb (quo2 (floatOfInt .f64 a) (floatOfInt .f64 b))) := hn
  clear hb hr hn
  go_enter Tryz.func13, Tryz.ntmps13
  go_wp2
  go_ret
  exact ⟨r, rfl, HR.out, HN.out, HB.out⟩

theorem share00 (w : World) : Calls Tryz.prog 13 #[.int .i64 0, .int .i64 0] w fun e w' => ∃ r, e = .returned (.float .f64 r) ∧ Nan r ∧ Below w.heap.size w w' := by
  refine (share_of 0 0 w).mono ?_
  rintro e w' ⟨r, rfl, h1, h2, hb⟩
  refine ⟨r, rfl, ?_, hb⟩
  rw [show nb (quo2 (floatOfInt .f64 0) (floatOfInt .f64 0)) = 0x7ff8000000000001 by decide +kernel] at h2
  unfold nb at h2
  split at h2
  · assumption
  · rw [h2]; exact nan_can

theorem share10 (w : World) : Calls Tryz.prog 13 #[.int .i64 1, .int .i64 0] w fun e w' => e = .returned (.float .f64 9218868437227405312) ∧ Below w.heap.size w w' := by
  refine (share_of 1 0 w).mono ?_
  rintro e w' ⟨r, rfl, h1, h2, hb⟩
  rw [show nb (quo2 (floatOfInt .f64 1) (floatOfInt .f64 0)) = 9218868437227405312 by decide +kernel] at h2
  rw [nb_is2 h2 (by decide +kernel)]
  exact ⟨rfl, hb⟩

theorem minus_by_inf (w : World) : (binOp .quo 23 (.float .f64 13830554455654793216) (.float .f64 9218868437227405312)).run Tryz.prog w = .ok (.float .f64 9223372036854775808) w :=
  run_float_arith w .quo 23 .f64 13830554455654793216 9218868437227405312 9223372036854775808 (by decide +kernel)

theorem minus_is (w : World) : Calls Tryz.prog 10 #[] w fun e w' => e = .returned (.float .f64 9223372036854775808) ∧ w = w' := by
  have h1 := one_by_zero w
  have h2 := minus_by_inf w
  go_enter Tryz.func10, Tryz.ntmps10
  go_wp2
  go_ret
  exact ⟨rfl, rfl⟩

theorem read35 (w : World) : Calls Tryz.prog 7 #[.string ⟨#[51, 46, 53]⟩] w fun e w' => e = .returned (.tuple #[.float .f64 4615063718147915776, .bool true]) ∧ Below w.heap.size w w' := by
  refine (read_pos [51, 46, 53] w (by decide) (by decide) (by decide) (by decide) (by decide)).mono ?_
  rintro e w' ⟨⟨r, rfl, h1, h2, h3⟩, hb⟩
  have ok : dOk [51, 46, 53] = true := by decide +kernel
  have h4 := h2 ok
  rw [show dV [51, 46, 53] = 4615063718147915776 by decide +kernel] at h4
  rw [nb_is2 h4 (by decide +kernel), ok]
  exact ⟨rfl, hb⟩

theorem read03 (w : World) : Calls Tryz.prog 7 #[.string ⟨#[48, 51]⟩] w fun e w' => e = .returned (.tuple #[.float .f64 0, .bool false]) ∧ Below w.heap.size w w' := by
  refine (read_pos [48, 51] w (by decide) (by decide) (by decide) (by decide) (by decide)).mono ?_
  rintro e w' ⟨⟨r, rfl, h1, h2, h3⟩, hb⟩
  have ok : dOk [48, 51] = false := by decide +kernel
  rw [h3 ok, ok]
  exact ⟨rfl, hb⟩

theorem read00 (w : World) : Calls Tryz.prog 7 #[.string ⟨#[45, 48, 46, 48]⟩] w fun e w' => e = .returned (.tuple #[.float .f64 9223372036854775808, .bool true]) ∧ Below w.heap.size w w' := by
  have tl : (⟨#[45, 48, 46, 48]⟩ : ByteArray).toList = [45, 48, 46, 48] := tl_mk [45, 48, 46, 48]
  refine (read_minus ⟨#[48, 46, 48]⟩ ⟨#[45, 48, 46, 48]⟩ w 0 rfl (by rw [tl]; decide) (by rw [tl]; decide) (by rw [tl]; decide) (by decide : Lib.hasPrefix _ _ = false) (fun w => ?_)).mono ?_
  · refine (decimal_any [48, 46, 48] w (by decide)).mono ?_
    rintro e w' ⟨⟨r, rfl, h1, h2, h3⟩, hb⟩
    have ok : dOk [48, 46, 48] = true := by decide +kernel
    have h4 := h2 ok
    rw [show dV [48, 46, 48] = 0 by decide +kernel] at h4
    rw [ok]
    exact ⟨r, rfl, h1, h4, hb⟩
  · rintro e w' ⟨r, rfl, h1, h2, hb⟩
    rw [nb_is2 h2 (by decide +kernel)]
    exact ⟨rfl, hb⟩

theorem wh_zero2 : wh 0 = 0 := by unfold wh; rw [V_zero, Nat.zero_div]

theorem show_mz (w : World) : Calls Tryz.prog 11 #[.float .f64 9223372036854775808] w fun e w' => e = .returned (.string ⟨#[45, 48]⟩) ∧ Below w.heap.size w w' := by
  have h0 : (9223372036854775808 : Nat) % 2 ^ 63 = 0 := by decide
  have hw : whole 9223372036854775808 = true := by
    unfold whole
    rw [h0, wh_zero2, fi_zero]
    decide
  have := show_whole 9223372036854775808 w (by decide) hw (.inr (by rw [h0, wh_zero2]; omega))
  rw [h0, wh_zero2, dd_small (by omega)] at this
  rwa [show sgn 9223372036854775808 ++ (⟨[UInt8.ofNat (48 + 0)].toArray⟩ : ByteArray) = ⟨#[45, 48]⟩ by decide +kernel] at this

theorem show_pi (w : World) : Calls Tryz.prog 11 #[.float .f64 9218868437227405312] w fun e w' => e = .returned (.string ⟨#[105, 110, 102]⟩) ∧ w = w' := by
  have := show_inf 9218868437227405312 w (by decide) (by decide)
  rwa [show sgn 9218868437227405312 ++ (⟨#[105, 110, 102]⟩ : ByteArray) = ⟨#[105, 110, 102]⟩ by decide +kernel] at this

theorem show_half (w : World) (ht : Tab w) (hz : Tz w) : Calls Tryz.prog 11 #[.float .f64 4602678819172646912] w fun e w' => e = .returned (.string ⟨#[48, 120, 49, 112, 45, 49]⟩) ∧ Below w.heap.size w w' := by
  have := show_hex 4602678819172646912 w (by decide) (by decide) (by decide) (by decide +kernel) ht hz
  rwa [show sgn 4602678819172646912 ++ hxs (4602678819172646912 % 2 ^ 63) = (⟨#[48, 120, 49, 112, 45, 49]⟩ : ByteArray) by decide +kernel] at this

theorem place_half (w : World) : Calls Tryz.prog 8 #[.float .f64 4602678819172646912, .int .i64 9] w fun e w' => e = .returned (.tuple #[.int .i64 4, .bool true]) ∧ w = w' := by
  have := place_any 4602678819172646912 9 w (by decide) (by decide)
  rwa [show plc 4602678819172646912 9 = (4, true) by decide +kernel] at this

theorem place_mi (w : World) : Calls Tryz.prog 8 #[.float .f64 18442240474082181120, .int .i64 9] w fun e w' => e = .returned (.tuple #[.int .i64 0, .bool true]) ∧ w = w' := by
  have := place_any 18442240474082181120 9 w (by decide) (by decide)
  rwa [show plc 18442240474082181120 9 = (0, true) by decide +kernel] at this

theorem place_nan (r : Nat) (w : World) (hr : r < 2 ^ 64) (hn : Nan r) : Calls Tryz.prog 8 #[.float .f64 r, .int .i64 9] w fun e w' => e = .returned (.tuple #[.int .i64 0, .bool false]) ∧ w = w' := by
  have := place_any r 9 w hr (by decide)
  rwa [show plc r 9 = (0, false) by unfold plc; rw [if_pos (.inl hn)]] at this

theorem comp_mz (w : World) : Calls Tryz.prog 9 #[.float .f64 9223372036854775808, .float .f64 0] w fun e w' => e = .returned (.int .i64 (-1)) ∧ w = w' := by
  have := compare_any 9223372036854775808 0 w (by decide) (by decide)
  rwa [show c3 (rk 9223372036854775808) (rk 0) = -1 by decide +kernel] at this

theorem comp_nan (r : Nat) (w : World) (hr : r < 2 ^ 64) (hn : Nan r) : Calls Tryz.prog 9 #[.float .f64 r, .float .f64 9218868437227405312] w fun e w' => e = .returned (.int .i64 1) ∧ w = w' := by
  have := compare_any r 9218868437227405312 w hr (by decide)
  have e1 : rk r = 18444492273895866369 := by unfold rk; rw [nb_nan hn]; decide
  have e2 : rk 9218868437227405312 = 18442240474082181120 := by decide +kernel
  rwa [e1, e2, show c3 18444492273895866369 18442240474082181120 = 1 by decide +kernel] at this

theorem bits_mz (w : World) : Calls Tryz.prog 12 #[.float .f64 9223372036854775808] w fun e w' => e = .returned (.int .u64 9223372036854775808) ∧ w = w' := by
  have := bits_any 9223372036854775808 w
  rwa [show nb 9223372036854775808 = 9223372036854775808 by decide +kernel] at this

end Go.Proofs.YtlccfpojlmmdaaaGreatDoor.Oct
