/-
  Place, the program's and the document's.
-/
import Derived.Test.YtlccfpojlmmdaaaGreatDoorAw3
namespace Go.Proofs.YtlccfpojlmmdaaaGreatDoor.Oct
open Go.RowKit
open Go.Proofs.YtlccfpojlmmdaaaGreatDoor.Fl

theorem le_zero {a : Nat} (hn : ¬ Nan a) (hl : a < 2 ^ 64) : (FloatKind.f64.format.order a 0 == some .lt || FloatKind.f64.format.order a 0 == some .eq) = decide (2 ^ 63 ≤ a ∨ a = 0) := by
  rw [show FloatKind.f64.format = Ieee.double from rfl, lt_iff, eq_iff, sr_pos (b := 0) (by omega), ← Bool.decide_or]
  refine decide_eq_decide.2 ?_
  have h0 : ¬ Nan 0 := by rw [nan_iff]; omega
  simp only [hn, h0, not_false_eq_true, true_and]
  rw [nan_iff] at hn
  unfold sr
  split <;> omega

theorem ge_one {a : Nat} (hn : ¬ Nan a) (hl : a < 2 ^ 63) : (FloatKind.f64.format.order a 4607182418800017408 == some .gt || FloatKind.f64.format.order a 4607182418800017408 == some .eq) = decide (0x3ff0000000000000 ≤ a) := by
  rw [show FloatKind.f64.format = Ieee.double from rfl, gt_iff, eq_iff, sr_pos (b := a) (by omega), sr_pos (b := 4607182418800017408) (by omega), ← Bool.decide_or]
  refine decide_eq_decide.2 ?_
  have h0 : ¬ Nan 4607182418800017408 := by rw [nan_iff]; omega
  simp only [hn, h0, not_false_eq_true, true_and]
  omega

theorem run_times {a k : Nat} (ha : a < 0x3ff0000000000000) (hk : k < 2 ^ 63) (w : World) :
    (binOp .mul 23 (.float .f64 (floatOfInt .f64 (k : Int))) (.float .f64 a)).run Tryz.prog w = .ok (.float .f64 (pr a k)) w := by
  refine run_float_arith w .mul 23 .f64 _ a _ ?_
  rw [floatOfInt_nat]
  have h1 := fi_le hk
  show Ieee.double.mul (fi k) a = _
  rw [mul_num (by omega) (by omega), show fi k / 2 ^ 63 % 2 = 0 by omega, show a / 2 ^ 63 % 2 = 0 by omega, show fi k % 2 ^ 63 = fi k by omega, show a % 2 ^ 63 = a by omega]
  unfold pr Ieee.Format.word
  rw [if_neg (by decide)]

theorem pr_top {a k : Nat} (ha : a < 0x3ff0000000000000) (hk : k < 2 ^ 63) : pr a k ≤ 0x43e0000000000000 := by
  rcases Nat.eq_zero_or_pos k with h | h
  · subst h; rw [pr_zero]; omega
  · have := pr_lt ha h hk; have := fi_le hk; omega

theorem run_whole {x : Nat} (hx : x < 0x7ff0000000000000) (h : wh x ≤ 9223372036854775807) (w : World) :
    (convert 23 3 (.float .f64 x)).run Tryz.prog w = .ok (.int .i64 (wh x)) w :=
  run_convert_float_int w 23 3 .f64 .i64 x _ (by rw [Tryz.underlying23]; rfl) Tryz.underlying3 (toInt_num hx h)

/-- What Place answers. -/
def plc (a : Nat) (n : Int) : Int × Bool :=
  if Nan a ∨ n < 0 then (0, false) else if 2 ^ 63 ≤ a ∨ a = 0 then (0, true) else if 0x3ff0000000000000 ≤ a then (n, true) else (wh (pr a n.toNat), true)

set_option maxRecDepth 20000 in
theorem place_in (a k y v : Nat) (w : World) (h1 : ¬ Nan a) (hz : (FloatKind.f64.format.order a 0 == some .lt || FloatKind.f64.format.order a 0 == some .eq) = false) (ho : (FloatKind.f64.format.order a 4607182418800017408 == some .gt || FloatKind.f64.format.order a 4607182418800017408 == some .eq) = false)
   (ht : (binOp .mul 23 (.float .f64 (floatOfInt .f64 (k : Int))) (.float .f64 a)).run Tryz.prog w = .ok (.float .f64 y) w)
   (hw : (convert 23 3 (.float .f64 y)).run Tryz.prog w = .ok (.int .i64 v) w) :
    Calls Tryz.prog 8 #[.float .f64 a, .int .i64 k] w fun e w' => e = .returned (.tuple #[.int .i64 v, .bool true]) ∧ w = w' := by
  go_enter Tryz.func8, Tryz.ntmps8
  go_wp2_with fail
  refine (isnan_any _ _).mono ?_
  rw [decide_eq_false h1]; rintro e w' ⟨rfl, rfl⟩
  go_wp2
  go_ret2
  exact ⟨rfl, rfl⟩

theorem place_any (a : Nat) (n : Int) (w : World) (ha : a < 2 ^ 64) (hn : n < 2 ^ 63) :
    Calls Tryz.prog 8 #[.float .f64 a, .int .i64 n] w fun e w' => e = .returned (.tuple #[.int .i64 (plc a n).1, .bool (plc a n).2]) ∧ w = w' := by
  by_cases h1 : Nan a
  · have e : plc a n = (0, false) := by unfold plc; rw [if_pos (.inl h1)]
    rw [e]; clear e
    go_enter Tryz.func8, Tryz.ntmps8
    go_wp2_with (go_at_call 24; refine (isnan_any _ _).mono ?_; rw [decide_eq_true h1]; rintro e w' ⟨rfl, rfl⟩)
    go_ret2
    exact ⟨rfl, rfl⟩
  · by_cases h2 : n < 0
    · have e : plc a n = (0, false) := by unfold plc; rw [if_pos (.inr h2)]
      rw [e]; clear e
      go_enter Tryz.func8, Tryz.ntmps8
      go_wp2_with (go_at_call 24; refine (isnan_any _ _).mono ?_; rw [decide_eq_false h1]; rintro e w' ⟨rfl, rfl⟩)
      go_ret2
      exact ⟨rfl, rfl⟩
    · have hz := le_zero h1 ha
      by_cases h3 : 2 ^ 63 ≤ a ∨ a = 0
      · have e : plc a n = (0, true) := by unfold plc; rw [if_neg (by simp [h1, h2]), if_pos h3]
        rw [e]; clear e
        rw [decide_eq_true h3] at hz
        go_enter Tryz.func8, Tryz.ntmps8
        go_wp2_with (go_at_call 24; refine (isnan_any _ _).mono ?_; rw [decide_eq_false h1]; rintro e w' ⟨rfl, rfl⟩)
        go_ret2
        exact ⟨rfl, rfl⟩
      · rw [decide_eq_false h3] at hz
        have ho := ge_one h1 (by omega)
        by_cases h4 : 0x3ff0000000000000 ≤ a
        · have e : plc a n = (n, true) := by unfold plc; rw [if_neg (by simp [h1, h2]), if_neg h3, if_pos h4]
          rw [e]; clear e
          rw [decide_eq_true h4] at ho
          go_enter Tryz.func8, Tryz.ntmps8
          go_wp2_with (go_at_call 24; refine (isnan_any _ _).mono ?_; rw [decide_eq_false h1]; rintro e w' ⟨rfl, rfl⟩)
          go_ret2
          exact ⟨rfl, rfl⟩
        · obtain ⟨k, rfl⟩ : ∃ k : Nat, n = (k : Int) := ⟨n.toNat, by omega⟩
          have e : plc a (k : Int) = (((wh (pr a k) : Nat) : Int), true) := by unfold plc; rw [if_neg (by simp [h1]), if_neg h3, if_neg h4, Int.toNat_natCast]
          rw [e]; clear e
          rw [decide_eq_false h4] at ho
          have ht := run_times (a := a) (k := k) (by omega) (by omega) w
          have hw := run_whole (x := pr a k) (by have := pr_top (a := a) (k := k) (by omega) (by omega); omega) (by have := pr_wh (x := a) (n := k) (by omega) (by omega); omega) w
          exact place_in _ _ _ _ _ h1 hz ho ht hw

end Go.Proofs.YtlccfpojlmmdaaaGreatDoor.Oct
