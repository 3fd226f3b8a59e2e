/-
  The walks of octet.Crc and of the document's.
-/
import Derived.Test.YtbamdcjhcmogbaaQb
import Derived.Test.YtbamdcjhcmogbaaQk
namespace Go.Proofs.Ytbamdcjhcmogbaa.Oct
open Go.RowKit

set_option maxHeartbeats 400000 in
theorem shift_any (s : Nat) (w : World) (hs : s < 4294967296) :
    Calls Try.prog 54 #[.int .u32 s] w fun e w' => e = .returned (.int .u32 (shf s : Nat)) ∧ w = w' := by
  go_enter Try.func54, Try.ntmps54
  go_wp2
  · go_ret
    exact ⟨congrArg (fun x => Ending.returned (.int .u32 x)) (shf_one hs (by assumption)), rfl⟩
  · go_ret
    exact ⟨congrArg (fun x => Ending.returned (.int .u32 x)) (shf_two hs (by assumption)), rfl⟩

set_option maxHeartbeats 1000000 in
theorem crc_any (a : Option Addr) (cap : Nat) (zs : List Int) (w : World) (h : Row w a cap zs) :
    Calls Try.prog 47 #[.slice a zs.length cap] w fun e w' => e = .returned (.int .u32 (crc zs)) ∧ w = w' := by
  obtain ⟨hb, h2, hm', hz⟩ := h
  unfold maxLen at hm'
  have HB : Hid (Bys zs) := hb
  have HZ : Hid (zs = [] ∨ ∃ b off, a = some ⟨b, off, none⟩ ∧ ∀ i, i < zs.length → w.cell? ⟨b, off + i, none⟩ = some (.int .u8 (zs.getD i 0))) := hz
  clear hb hz
  go_enter Try.func47, Try.ntmps47
  go_wp2
  go_loop [3, 8] (fun x i => ∃ k : Nat, k ≤ zs.length ∧ i = .int .i64 k ∧ x = .int .u32 (reg zs k : Nat)) (fun _ i => zs.length - (intOf i).toNat)
  case atStart => exact ⟨0, Nat.zero_le _, rfl, rfl⟩
  case round =>
    obtain ⟨k, hk, rfl, rfl⟩ := hrel
    by_cases hlt : k < zs.length
    · obtain ⟨b, off, rfl, hz⟩ := HZ.out.resolve_left (by intro e; rw [e] at hlt; exact absurd hlt (by simp))
      have hc := hz k hlt
      clear hz
      have hr := reg_lt HB.out k
      obtain ⟨c, hcc⟩ : ∃ c : Nat, zs.getD k 0 = (c : Int) := ⟨_, (Int.toNat_of_nonneg (HB.out.at k).1).symm⟩
      have hcb : c ≤ 255 := by have := (HB.out.at k).2; omega
      rw [hcc] at hc
      have HC : Hid (zs.getD k 0 = (c : Int)) := hcc
      clear hcc
      have HX : Hid (reg zs k ^^^ c < 4294967296) := xor_lt hr (by omega)
      go_wp2
      go_loop [3, 16] (fun x i => ∃ m : Nat, m ≤ 8 ∧ i = .int .i64 m ∧ x = .int .u32 (shfs (reg zs k ^^^ c) m : Nat)) (fun _ i => 8 - (intOf i).toNat)
      case atStart => exact ⟨0, Nat.zero_le _, rfl, congrArg (fun x : Int => Value.int .u32 x) (xor_c hr hcb)⟩
      case round =>
        obtain ⟨m, hm8, rfl, rfl⟩ := hrel
        have hs := shfs_lt HX.out m
        by_cases hlt8 : m < 8
        · go_wp2_with (go_at_call 54; refine (shift_any _ _ hs).mono ?_; rintro e w' ⟨rfl, rfl⟩)
          go_round
          case rel => exact ⟨m + 1, by omega, by go_num, rfl⟩
          case measure => simp [intOf]; omega
        · have hmm : m = 8 := by omega
          subst hmm
          go_wp2
          go_round
          case rel => exact ⟨k + 1, by omega, by go_num, congrArg (fun x : Nat => Value.int .u32 (x : Int)) (reg_next HC.out)⟩
          case measure => simp [intOf]; omega
    · have hr := reg_lt HB.out k
      have hkn : Hid (k = zs.length) := show k = zs.length by omega
      go_wp2
      go_ret
      exact ⟨congrArg (fun x => Ending.returned (.int .u32 x)) ((not32 hr).trans (by unfold crc; rw [hkn.out])), rfl⟩
set_option maxHeartbeats 1000000 in
theorem refcrc_any (a : Option Addr) (cap : Nat) (zs : List Int) (w : World) (h : Row w a cap zs) :
    Calls Try.prog 34 #[.slice a zs.length cap] w fun e w' => e = .returned (.int .u32 (crc zs)) ∧ w = w' := by
  obtain ⟨hb, h2, hm', hz⟩ := h
  unfold maxLen at hm'
  have HB : Hid (Bys zs) := hb
  have HZ : Hid (zs = [] ∨ ∃ b off, a = some ⟨b, off, none⟩ ∧ ∀ i, i < zs.length → w.cell? ⟨b, off + i, none⟩ = some (.int .u8 (zs.getD i 0))) := hz
  clear hb hz
  go_enter Try.func34, Try.ntmps34
  go_wp2
  go_loop [3, 4] (fun x i => ∃ k : Nat, k ≤ zs.length ∧ i = .int .i64 k ∧ x = .int .u32 (reg zs k : Nat)) (fun _ i => zs.length - (intOf i).toNat)
  case atStart => exact ⟨0, Nat.zero_le _, rfl, rfl⟩
  case round =>
    obtain ⟨k, hk, rfl, rfl⟩ := hrel
    by_cases hlt : k < zs.length
    · obtain ⟨b, off, rfl, hz⟩ := HZ.out.resolve_left (by intro e; rw [e] at hlt; exact absurd hlt (by simp))
      have hc := hz k hlt
      clear hz
      have hr := reg_lt HB.out k
      obtain ⟨c, hcc⟩ : ∃ c : Nat, zs.getD k 0 = (c : Int) := ⟨_, (Int.toNat_of_nonneg (HB.out.at k).1).symm⟩
      have hcb : c ≤ 255 := by have := (HB.out.at k).2; omega
      rw [hcc] at hc
      have HC : Hid (zs.getD k 0 = (c : Int)) := hcc
      clear hcc
      have HX : Hid (reg zs k ^^^ c < 4294967296) := xor_lt hr (by omega)
      go_wp2
      go_loop [3, 5] (fun x i => ∃ m : Nat, m ≤ 8 ∧ i = .int .i64 m ∧ x = .int .u32 (shfs (reg zs k ^^^ c) m : Nat)) (fun _ i => 8 - (intOf i).toNat)
      case atStart => exact ⟨0, Nat.zero_le _, rfl, congrArg (fun x : Int => Value.int .u32 x) (xor_c hr hcb)⟩
      case round =>
        obtain ⟨m, hm8, rfl, rfl⟩ := hrel
        have hs := shfs_lt HX.out m
        by_cases hlt8 : m < 8
        · go_wp2
          · go_round
            case rel => exact ⟨m + 1, by omega, by go_num, congrArg (fun x : Int => Value.int .u32 x) (shf_one hs (by assumption))⟩
            case measure => simp [intOf]; omega
          · go_round
            case rel => exact ⟨m + 1, by omega, by go_num, congrArg (fun x : Int => Value.int .u32 x) (shf_two hs (by assumption))⟩
            case measure => simp [intOf]; omega
        · have hmm : m = 8 := by omega
          subst hmm
          go_wp2
          go_round
          case rel => exact ⟨k + 1, by omega, by go_num, congrArg (fun x : Nat => Value.int .u32 (x : Int)) (reg_next HC.out)⟩
          case measure => simp [intOf]; omega
    · have hr := reg_lt HB.out k
      have hkn : Hid (k = zs.length) := show k = zs.length by omega
      go_wp2
      go_ret
      exact ⟨congrArg (fun x => Ending.returned (.int .u32 x)) ((not32 hr).trans (by unfold crc; rw [hkn.out])), rfl⟩
end Go.Proofs.Ytbamdcjhcmogbaa.Oct
