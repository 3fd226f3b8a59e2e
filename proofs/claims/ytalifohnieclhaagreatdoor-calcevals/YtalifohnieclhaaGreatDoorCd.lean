/-
  The document's Bits and Compare.
-/
import Derived.Test.YtalifohnieclhaaGreatDoorCr
namespace Go.Proofs.YtalifohnieclhaaGreatDoor.Oct
open Go.RowKit
open Go.Proofs.YtalifohnieclhaaGreatDoor.Fl

theorem refbits_any (a : Nat) (w : World) : Calls Tryz.prog 19 #[.float .f64 a] w fun e w' => e = .returned (.int .u64 (nb a : Nat)) ∧ w = w' := by
  have hf := run_f64bits a w
  have hs := ne_self a
  by_cases hn : Nan a
  · rw [decide_eq_true hn] at hs
    rw [nb_nan hn]
    go_enter Tryz.func19, Tryz.ntmps19
    go_wp2
    go_ret
    exact ⟨rfl, rfl⟩
  · rw [decide_eq_false hn] at hs
    rw [nb_num hn]
    go_enter Tryz.func19, Tryz.ntmps19
    go_wp2
    go_ret
    exact ⟨rfl, rfl⟩

theorem key_any (a : Nat) (w : World) (h : a < 2 ^ 64) : Calls Tryz.prog 169 #[.float .f64 a] w fun e w' => e = .returned (.int .u64 (kk a : Nat)) ∧ w = w' := by
  have hs := ne_self a
  have hl := nb_lt h
  by_cases hn : Nan a
  · rw [decide_eq_true hn] at hs
    have e : kk a = 18446744073709551615 := by unfold kk; rw [if_pos hn]
    rw [e]; clear e
    go_enter Tryz.func169, Tryz.ntmps169
    go_wp2_with (go_at_call 19; refine (refbits_any _ _).mono ?_; rintro e w' ⟨rfl, rfl⟩)
    go_ret
    exact ⟨rfl, rfl⟩
  · rw [decide_eq_false hn] at hs
    by_cases ht : 2 ^ 63 ≤ nb a
    · have HV : Hid ((kk a : Int) = 18446744073709551615 - nb a) := by unfold Hid kk rk; rw [if_neg hn, if_pos ht]; omega
      go_enter Tryz.func169, Tryz.ntmps169
      go_wp2_with (go_at_call 19; refine (refbits_any _ _).mono ?_; rintro e w' ⟨rfl, rfl⟩)
      go_ret
      exact ⟨congrArg (fun x : Int => Ending.returned (.int .u64 x)) (by rw [HV.out]; exact xor_max _ hl), rfl⟩
    · have HV : Hid ((kk a : Int) = bits .or .u64 (nb a : Int) 9223372036854775808) := by
        unfold Hid; rw [or_top _ (by omega)]; unfold kk rk; rw [if_neg hn, if_neg ht]
      go_enter Tryz.func169, Tryz.ntmps169
      go_wp2_with (go_at_call 19; refine (refbits_any _ _).mono ?_; rintro e w' ⟨rfl, rfl⟩)
      go_ret
      exact ⟨congrArg (fun x : Int => Ending.returned (.int .u64 x)) HV.out.symm, rfl⟩

theorem refcompare_any (a b : Nat) (w : World) (ha : a < 2 ^ 64) (hb : b < 2 ^ 64) :
    Calls Tryz.prog 154 #[.float .f64 a, .float .f64 b] w fun e w' => e = .returned (.int .i64 (c3 (rk a) (rk b))) ∧ w = w' := by
  rw [← c3_kk ha hb]
  rcases Nat.lt_trichotomy (kk a) (kk b) with h | h | h
  · rw [c3_lt h]
    go_enter Tryz.func154, Tryz.ntmps154
    go_wp2_with fail
    refine (key_any _ _ ha).mono ?_
    rintro e w' ⟨rfl, rfl⟩
    go_wp2_with fail
    refine (key_any _ _ hb).mono ?_
    rintro e w' ⟨rfl, rfl⟩
    go_wp2
    go_ret
    exact ⟨rfl, rfl⟩
  · rw [c3_eq h]
    go_enter Tryz.func154, Tryz.ntmps154
    go_wp2_with fail
    refine (key_any _ _ ha).mono ?_
    rintro e w' ⟨rfl, rfl⟩
    go_wp2_with fail
    refine (key_any _ _ hb).mono ?_
    rintro e w' ⟨rfl, rfl⟩
    go_wp2
    go_ret
    exact ⟨rfl, rfl⟩
  · rw [c3_gt h]
    go_enter Tryz.func154, Tryz.ntmps154
    go_wp2_with fail
    refine (key_any _ _ ha).mono ?_
    rintro e w' ⟨rfl, rfl⟩
    go_wp2_with fail
    refine (key_any _ _ hb).mono ?_
    rintro e w' ⟨rfl, rfl⟩
    go_wp2
    go_ret
    exact ⟨rfl, rfl⟩

end Go.Proofs.YtalifohnieclhaaGreatDoor.Oct
