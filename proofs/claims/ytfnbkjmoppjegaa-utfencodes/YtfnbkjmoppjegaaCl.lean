/-
  Class, of utf and of the document.
-/
import Derived.Test.YtfnbkjmoppjegaaEn
namespace Go.Proofs.Ytfnbkjmoppjegaa.Oct
open Go.RowKit

def cls (r : Int) : Int :=
  if r = 9 ∨ r = 10 ∨ r = 13 ∨ r = 32 then 0
  else if (97 ≤ r ∧ r ≤ 122) ∨ (65 ≤ r ∧ r ≤ 90) ∨ (48 ≤ r ∧ r ≤ 57) ∨ r = 95 ∨ 127 < r then 1 else 2

set_option maxHeartbeats 4000000 in
theorem class_any (r : Int) (w : World) :
    Calls Try.prog 21 #[.int .i64 r] w fun e w' => e = .returned (.int .i64 (cls r)) ∧ w = w' := by
  by_cases h0 : r = 9 ∨ r = 10 ∨ r = 13 ∨ r = 32
  · have e : cls r = 0 := by unfold cls; rw [if_pos h0]
    rw [e]
    clear e
    rcases h0 with rfl | rfl | rfl | rfl
    all_goals
      go_enter Try.func21, Try.ntmps21
      go_wp2
      go_ret
      exact ⟨rfl, rfl⟩
  · have n1 : (r == 9) = false := by simp; omega
    have n2 : (r == 10) = false := by simp; omega
    have n3 : (r == 13) = false := by simp; omega
    have n4 : (r == 32) = false := by simp; omega
    by_cases h1 : (97 ≤ r ∧ r ≤ 122) ∨ (65 ≤ r ∧ r ≤ 90) ∨ (48 ≤ r ∧ r ≤ 57) ∨ r = 95 ∨ 127 < r
    · have e : cls r = 1 := by unfold cls; rw [if_neg h0, if_pos h1]
      rw [e]
      clear e h0
      rcases h1 with ⟨a, b⟩ | ⟨a, b⟩ | ⟨a, b⟩ | rfl | a
      · have s1 : smB r = true := by simp [smB]; omega
        have s2 : ¬ r ≤ 57 := by omega
        go_enter Try.func21, Try.ntmps21
        go_wp2_with (first | (go_at_call 31; refine (small_any _ _).mono ?_; rintro e w' ⟨rfl, rfl⟩) | (go_at_call 32; refine (capital_any _ _).mono ?_; rintro e w' ⟨rfl, rfl⟩))
        go_ret
        exact ⟨rfl, rfl⟩
      · have s1 : smB r = false := by simp [smB]; omega
        have s3 : cpB r = true := by simp [cpB]; omega
        have s2 : ¬ r ≤ 57 := by omega
        go_enter Try.func21, Try.ntmps21
        go_wp2_with (first | (go_at_call 31; refine (small_any _ _).mono ?_; rintro e w' ⟨rfl, rfl⟩) | (go_at_call 32; refine (capital_any _ _).mono ?_; rintro e w' ⟨rfl, rfl⟩))
        go_ret
        exact ⟨rfl, rfl⟩
      · have s1 : smB r = false := by simp [smB]; omega
        have s3 : cpB r = false := by simp [cpB]; omega
        go_enter Try.func21, Try.ntmps21
        go_wp2_with (first | (go_at_call 31; refine (small_any _ _).mono ?_; rintro e w' ⟨rfl, rfl⟩) | (go_at_call 32; refine (capital_any _ _).mono ?_; rintro e w' ⟨rfl, rfl⟩))
        go_ret
        exact ⟨rfl, rfl⟩
      · have s1 : smB 95 = false := by decide
        have s3 : cpB 95 = false := by decide
        go_enter Try.func21, Try.ntmps21
        go_wp2_with (first | (go_at_call 31; refine (small_any _ _).mono ?_; rintro e w' ⟨rfl, rfl⟩) | (go_at_call 32; refine (capital_any _ _).mono ?_; rintro e w' ⟨rfl, rfl⟩))
        go_ret
        exact ⟨rfl, rfl⟩
      · have s1 : smB r = false := by simp [smB]; omega
        have s3 : cpB r = false := by simp [cpB]; omega
        have s4 : (r == 95) = false := by simp; omega
        go_enter Try.func21, Try.ntmps21
        go_wp2_with (first | (go_at_call 31; refine (small_any _ _).mono ?_; rintro e w' ⟨rfl, rfl⟩) | (go_at_call 32; refine (capital_any _ _).mono ?_; rintro e w' ⟨rfl, rfl⟩))
        go_ret
        exact ⟨rfl, rfl⟩
    · have e : cls r = 2 := by unfold cls; rw [if_neg h0, if_neg h1]
      rw [e]
      clear e h0
      have s1 : smB r = false := by simp [smB]; omega
      have s3 : cpB r = false := by simp [cpB]; omega
      have s4 : (r == 95) = false := by simp; omega
      have s5 : ¬ 127 < r := by omega
      have h2 : r < 48 ∨ (57 < r ∧ r < 65) ∨ (90 < r ∧ r < 97) ∨ 122 < r := by omega
      clear h1
      rcases h2 with a | ⟨a, b⟩ | ⟨a, b⟩ | a
      · go_enter Try.func21, Try.ntmps21
        go_wp2_with (first | (go_at_call 31; refine (small_any _ _).mono ?_; rintro e w' ⟨rfl, rfl⟩) | (go_at_call 32; refine (capital_any _ _).mono ?_; rintro e w' ⟨rfl, rfl⟩))
        go_ret
        exact ⟨rfl, rfl⟩
      · go_enter Try.func21, Try.ntmps21
        go_wp2_with (first | (go_at_call 31; refine (small_any _ _).mono ?_; rintro e w' ⟨rfl, rfl⟩) | (go_at_call 32; refine (capital_any _ _).mono ?_; rintro e w' ⟨rfl, rfl⟩))
        go_ret
        exact ⟨rfl, rfl⟩
      · go_enter Try.func21, Try.ntmps21
        go_wp2_with (first | (go_at_call 31; refine (small_any _ _).mono ?_; rintro e w' ⟨rfl, rfl⟩) | (go_at_call 32; refine (capital_any _ _).mono ?_; rintro e w' ⟨rfl, rfl⟩))
        go_ret
        exact ⟨rfl, rfl⟩
      · go_enter Try.func21, Try.ntmps21
        go_wp2_with (first | (go_at_call 31; refine (small_any _ _).mono ?_; rintro e w' ⟨rfl, rfl⟩) | (go_at_call 32; refine (capital_any _ _).mono ?_; rintro e w' ⟨rfl, rfl⟩))
        go_ret
        exact ⟨rfl, rfl⟩

set_option maxHeartbeats 4000000 in
theorem refclass_any (r : Int) (w : World) :
    Calls Try.prog 22 #[.int .i64 r] w fun e w' => e = .returned (.int .i64 (cls r)) ∧ w = w' := by
  by_cases h0 : r = 9 ∨ r = 10 ∨ r = 13 ∨ r = 32
  · have e : cls r = 0 := by unfold cls; rw [if_pos h0]
    rw [e]
    clear e
    rcases h0 with rfl | rfl | rfl | rfl
    all_goals
      go_enter Try.func22, Try.ntmps22
      go_wp2
      go_ret
      exact ⟨rfl, rfl⟩
  · have n1 : (r == 9) = false := by simp; omega
    have n2 : (r == 10) = false := by simp; omega
    have n3 : (r == 13) = false := by simp; omega
    have n4 : (r == 32) = false := by simp; omega
    by_cases h1 : (97 ≤ r ∧ r ≤ 122) ∨ (65 ≤ r ∧ r ≤ 90) ∨ (48 ≤ r ∧ r ≤ 57) ∨ r = 95 ∨ 127 < r
    · have e : cls r = 1 := by unfold cls; rw [if_neg h0, if_pos h1]
      rw [e]
      clear e h0
      rcases h1 with ⟨a, b⟩ | ⟨a, b⟩ | ⟨a, b⟩ | rfl | a
      · have s1 : smB r = true := by simp [smB]; omega
        have s2 : ¬ r ≤ 57 := by omega
        go_enter Try.func22, Try.ntmps22
        go_wp2
        go_ret
        exact ⟨rfl, rfl⟩
      · have s1 : smB r = false := by simp [smB]; omega
        have s3 : cpB r = true := by simp [cpB]; omega
        have s2 : ¬ r ≤ 57 := by omega
        go_enter Try.func22, Try.ntmps22
        go_wp2
        go_ret
        exact ⟨rfl, rfl⟩
      · have s1 : smB r = false := by simp [smB]; omega
        have s3 : cpB r = false := by simp [cpB]; omega
        go_enter Try.func22, Try.ntmps22
        go_wp2
        go_ret
        exact ⟨rfl, rfl⟩
      · have s1 : smB 95 = false := by decide
        have s3 : cpB 95 = false := by decide
        go_enter Try.func22, Try.ntmps22
        go_wp2
        go_ret
        exact ⟨rfl, rfl⟩
      · have s1 : smB r = false := by simp [smB]; omega
        have s3 : cpB r = false := by simp [cpB]; omega
        have s4 : (r == 95) = false := by simp; omega
        go_enter Try.func22, Try.ntmps22
        go_wp2
        go_ret
        exact ⟨rfl, rfl⟩
    · have e : cls r = 2 := by unfold cls; rw [if_neg h0, if_neg h1]
      rw [e]
      clear e h0
      have s1 : smB r = false := by simp [smB]; omega
      have s3 : cpB r = false := by simp [cpB]; omega
      have s4 : (r == 95) = false := by simp; omega
      have s5 : ¬ 127 < r := by omega
      have h2 : r < 48 ∨ (57 < r ∧ r < 65) ∨ (90 < r ∧ r < 97) ∨ 122 < r := by omega
      clear h1
      rcases h2 with a | ⟨a, b⟩ | ⟨a, b⟩ | a
      · go_enter Try.func22, Try.ntmps22
        go_wp2
        go_ret
        exact ⟨rfl, rfl⟩
      · go_enter Try.func22, Try.ntmps22
        go_wp2
        go_ret
        exact ⟨rfl, rfl⟩
      · go_enter Try.func22, Try.ntmps22
        go_wp2
        go_ret
        exact ⟨rfl, rfl⟩
      · go_enter Try.func22, Try.ntmps22
        go_wp2
        go_ret
        exact ⟨rfl, rfl⟩
end Go.Proofs.Ytfnbkjmoppjegaa.Oct
