/-
  The document's Dec: decimal digits of a number.
-/
import Derived.Test.YtieldmakbokekaaGreatDoorDe
import Derived.Lib.ItoaNum
import Derived.Laws.BytesString
import Derived.Laws.BitsAllLaws
namespace Go.Proofs.YtieldmakbokekaaGreatDoor.Oct
open Go.RowKit
open Go.Proofs.YtieldmakbokekaaGreatDoor.Fl

/-- string([]byte{c}). -/
theorem run_one (c : Int) (w : World) : (convert 44 9 (.slice (some ⟨w.heap.size, 0, none⟩) 1 1)).run Tryz.prog (w.alloc (.cells #[.int .u8 c] 5)) = .ok (.string ⟨#[UInt8.ofNat c.toNat]⟩) (w.alloc (.cells #[.int .u8 c] 5)) := by
  rw [run_convert_bytes_string _ 44 9 5 _ _ _ Tryz.underlying44 Tryz.underlying5 Tryz.underlying9]
  refine (run_bytesToString _ _ _ _ [c] ?_).trans rfl
  refine run_loadCells_list (P := Tryz.prog) (w.alloc (.cells #[.int .u8 c] 5)) ⟨w.heap.size, 0, none⟩ [.int .u8 c] (fun j v hj => ?_)
  have hj0 : j = 0 := by
    rcases j with _ | j
    · rfl
    · simp at hj
  subst hj0
  rw [show (⟨w.heap.size, 0, none⟩ : Addr).add 0 = ⟨w.heap.size, 0, none⟩ from rfl, World.cell?_alloc_at _ _ _ _ rfl]
  simpa using hj

theorem run_cat (a b : ByteArray) (w : World) (h : a.size + b.size ≤ 9223372036854775807) : (binOp .add 9 (.string a) (.string b)).run Tryz.prog w = .ok (.string (a ++ b)) w := run_string_add_sum w a b h

set_option maxHeartbeats 1000000 in
set_option maxRecDepth 100000 in
theorem dec_any (n : Nat) (w : World) (hn : n < 18446744073709551616) :
    Calls Tryz.prog 27 #[.int .u64 n] w fun e w' => e = .returned (.string ⟨(Lib.decDigits n).toArray⟩) ∧ Below w.heap.size w w' := by
  have HN : Hid (n < 18446744073709551616) := hn
  clear hn
  go_enter Tryz.func27, Tryz.ntmps27
  go_wp2
  go_loopw [0, 3] (fun x y wr => ∃ (z : Int) (s : ByteArray), x = .int .u64 z ∧ y = .string s ∧ Hid (0 ≤ z ∧ z < 18446744073709551616) ∧ Hid (Lib.decDigits n = Lib.decDigits z.toNat ++ s.data.toList) ∧ s.size ≤ 30 ∧ Hid (z.toNat < 10 ^ (21 - s.size)) ∧ Hid (Below w.heap.size w wr)) (fun x _ _ => (intOf x).toNat)
  case atStart => exact ⟨n, ⟨#[]⟩, rfl, rfl, by have := HN.out; unfold Hid; omega, by unfold Hid; simp, by decide, (by have := HN.out; unfold Hid; rw [Int.toNat_natCast]; exact Nat.lt_of_lt_of_le this (by decide)), Below.refl _ w⟩
  case round =>
    obtain ⟨z, s, rfl, rfl, HM, HL, h30, HP, HB⟩ := hrel
    obtain ⟨r, hr⟩ : ∃ r, z.tmod 10 = r := ⟨_, rfl⟩
    obtain ⟨z2, hz2⟩ : ∃ z2, z.tdiv 10 = z2 := ⟨_, rfl⟩
    have hrb : 0 ≤ r ∧ r ≤ 9 ∧ r = z % 10 := by have := HM.out; rw [Int.tmod_eq_emod_of_nonneg this.1] at hr; omega
    have hzb : z2 = z / 10 := by have := HM.out; rw [Int.tdiv_eq_ediv_of_nonneg this.1] at hz2; omega
    have HR : Hid (0 ≤ r ∧ r ≤ 9 ∧ r = z % 10) := hrb
    have HZ2 : Hid (z2 = z / 10) := hzb
    have h48 : IntKind.u64.wrap (48 + r) = 48 + r := by rw [IntKind.wrap_u64]; omega
    have hwz : IntKind.u64.wrap z2 = z2 := by have := HM.out; rw [IntKind.wrap_u64]; omega
    have h8 : IntKind.u8.wrap (48 + r) = 48 + r := by rw [IntKind.wrap_u8']; omega
    have hcv := run_one (48 + r) wr
    have hd1 : (⟨#[UInt8.ofNat (48 + r).toNat]⟩ : ByteArray).size = 1 := rfl
    obtain ⟨d, hd⟩ : ∃ d : ByteArray, (⟨#[UInt8.ofNat (48 + r).toNat]⟩ : ByteArray) = d := ⟨_, rfl⟩
    rw [hd] at hcv hd1
    have HD : Hid ((⟨#[UInt8.ofNat (48 + r).toNat]⟩ : ByteArray) = d) := hd
    have hadd := run_cat d s (wr.alloc (.cells #[.int .u8 (48 + r)] 5)) (by omega)
    clear hrb hzb hd
    have HD1 : Hid (d.size = 1) := hd1
    replace hd1 : d.size ≤ 1 := by omega
    have HW : Hid (Below w.heap.size w (wr.alloc (.cells #[.int .u8 (48 + r)] 5))) := HB.out.alloc HB.out.size _
    have HS : Hid ((d ++ s).data.toList = UInt8.ofNat (48 + z.toNat % 10) :: s.data.toList) := by
      unfold Hid
      rw [← HD.out]
      have e : (48 + r).toNat = 48 + z.toNat % 10 := by have := HR.out; have := HM.out; omega
      rw [e]
      simp [ByteArray.data_append]
    by_cases h0 : z2 = 0
    · have HE : Hid ((⟨(Lib.decDigits n).toArray⟩ : ByteArray) = d ++ s) := by
        have h1 : z.toNat < 10 := by have := HZ2.out; have := HM.out; omega
        have h2 := HL.out
        rw [show Lib.decDigits z.toNat = [UInt8.ofNat (48 + z.toNat)] by rw [Lib.decDigits, dif_pos h1]] at h2
        have h3 := HS.out
        rw [show z.toNat % 10 = z.toNat by omega] at h3
        unfold Hid
        rw [h2]
        show ByteArray.mk (UInt8.ofNat (48 + z.toNat) :: s.data.toList).toArray = d ++ s
        rw [← h3]
      go_wp2
      go_ret
      exact ⟨by rw [HE.out]; rfl, HW.out⟩
    · go_wp2
      go_roundw
      case rel =>
        have hz := HM.out
        have h2 := HZ2.out
        have hz10 : ¬ z.toNat < 10 := by omega
        have e2 : z2.toNat = z.toNat / 10 := by omega
        have hp := HP.out
        have hsz : (d ++ s).size = s.size + 1 := by
          have := HD1.out
          rw [ByteArray.size_append]; omega
        have h21 : s.size < 20 := by
          refine Nat.lt_of_not_le fun h => ?_
          have : 10 ^ (21 - s.size) ≤ 10 ^ 1 := Nat.pow_le_pow_right (by omega) (by omega)
          omega
        refine ⟨z2, d ++ s, rfl, rfl, by unfold Hid; omega, ?_, by rw [hsz]; omega, ?_, HW.out⟩
        · unfold Hid
          rw [HS.out, HL.out, show Lib.decDigits z.toNat = Lib.decDigits (z.toNat / 10) ++ [UInt8.ofNat (48 + z.toNat % 10)] by rw [Lib.decDigits, dif_neg hz10], e2, List.append_assoc]
          rfl
        · unfold Hid
          rw [hsz, e2]
          have : 10 ^ (21 - s.size) = 10 ^ (21 - (s.size + 1)) * 10 := by rw [← Nat.pow_succ]; congr 1; omega
          omega
      case measure =>
        have hz := HM.out
        have h2 := HZ2.out
        simp only [intOf]
        omega

end Go.Proofs.YtieldmakbokekaaGreatDoor.Oct
