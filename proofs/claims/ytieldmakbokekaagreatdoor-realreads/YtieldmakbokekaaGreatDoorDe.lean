/-
  Decimal digits: isDigits, number, power.
-/
import Derived.Test.YtieldmakbokekaaGreatDoorRf
import Derived.Lib.ConvBytes
import Derived.Lib.AtoiErrMem
namespace Go.Proofs.YtieldmakbokekaaGreatDoor.Oct
open Go.RowKit
open Go.Proofs.YtieldmakbokekaaGreatDoor.Fl

/-- The bytes of a text. -/
def bts (s : ByteArray) : List Nat := s.data.toList.map UInt8.toNat
theorem bts_len (s : ByteArray) : (bts s).length = s.size := by unfold bts; rw [List.length_map, Array.length_toList]; rfl

/-- A decimal digit? -/
def dgB (c : Nat) : Bool := decide (48 ≤ c ∧ c ≤ 57)
def dgs (l : List Nat) : Bool := l.all dgB
/-- The number that the first k digits say. -/
def num (l : List Nat) : Nat → Nat
  | 0 => 0
  | k + 1 => 10 * num l k + (l.getD k 0 - 48)

theorem num_lt {l : List Nat} (h : dgs l = true) : ∀ k, k ≤ l.length → num l k < 10 ^ k
  | 0, _ => by simp [num]
  | k + 1, hk => by
    have ih := num_lt h k (by omega)
    have hd : dgB (l.getD k 0) = true := by
      rw [List.getD_eq_getElem?_getD, List.getElem?_eq_getElem (by omega)]
      exact List.all_eq_true.1 h _ (List.getElem_mem (by omega))
    have := of_decide_eq_true hd
    rw [Nat.pow_succ]
    unfold num
    omega

theorem bt_lt (s : ByteArray) (k : Nat) : (bts s).getD k 0 ≤ 255 := by
  unfold bts
  rw [List.getD_eq_getElem?_getD, List.getElem?_map]
  cases s.data.toList[k]? with
  | none => simp
  | some b => simp; have := b.toNat_lt; omega

/-- []byte(s): a row of its own. -/
theorem run_bytes (s : ByteArray) (w : World) : ∃ cap w', (convert 9 44 (.string s)).run Tryz.prog w = .ok (.slice (some ⟨w.heap.size, 0, none⟩) s.size cap) w' ∧ Below w.heap.size w w' ∧ ∀ j, j < s.size → w'.cell? ⟨w.heap.size, j, none⟩ = some (.int .u8 ((bts s).getD j 0 : Nat)) := by
  refine ⟨_, _, Lib.run_convert_string_bytes w 9 44 5 s Tryz.underlying9 Tryz.underlying44 Tryz.underlying5, Lib.bytesWorld_below w _ s, fun j hj => ?_⟩
  rw [Lib.bytesWorld_cell w _ s j hj]
  unfold bts
  rw [List.getD_eq_getElem?_getD, List.getD_eq_getElem?_getD, List.getElem?_map]
  cases s.data.toList[j]? <;> rfl

theorem all_take {l : List Nat} {k : Nat} (h : (l.take k).all dgB = true) (hk : k < l.length) (hd : dgB (l.getD k 0) = true) : (l.take (k + 1)).all dgB = true := by
  rw [List.take_add_one, List.all_append, h, List.getElem?_eq_getElem hk]
  rw [List.getD_eq_getElem?_getD, List.getElem?_eq_getElem hk] at hd
  simpa using hd

set_option maxHeartbeats 1000000 in
theorem isDigits_any (s : ByteArray) (w : World) (hs : s.size ≤ 15) :
    Calls Tryz.prog 45 #[.string s] w fun e w' => e = .returned (.bool (dgs (bts s) && !s.toList.isEmpty)) ∧ Below w.heap.size w w' := by
  obtain ⟨cap, w1, hcv, hb1, hz⟩ := run_bytes s w
  have HB : Hid (Below w.heap.size w w1) := hb1
  have HZ : Hid (∀ j, j < s.size → w1.cell? ⟨w.heap.size, j, none⟩ = some (.int .u8 ((bts s).getD j 0 : Nat))) := hz
  clear hb1 hz
  obtain ⟨g, hg⟩ : ∃ g, w.heap.size = g := ⟨_, rfl⟩
  rw [hg] at hcv HZ
  clear hg
  go_enter Tryz.func45, Tryz.ntmps45
  go_wp2
  go_loop [8] (fun i => ∃ k : Nat, k ≤ s.size ∧ i = .int .i64 (k : Int) ∧ Hid (((bts s).take k).all dgB = true)) (fun i => s.size - (intOf i).toNat)
  case atStart => exact ⟨0, Nat.zero_le _, rfl, rfl⟩
  case round =>
    obtain ⟨k, hk, rfl, HA⟩ := hrel
    by_cases hlt : k < s.size
    · obtain ⟨c, hc⟩ : ∃ c : Int, (((bts s).getD k 0 : Nat) : Int) = c := ⟨_, rfl⟩
      have hcell := HZ.out k hlt
      rw [hc] at hcell
      have HC : Hid ((((bts s).getD k 0 : Nat) : Int) = c) := hc
      clear hc
      by_cases hd : 48 ≤ c
      · have hq1 : decide (c < 48) = false := decide_eq_false (by omega)
        by_cases hd2 : c ≤ 57
        · have hq2 : decide (57 < c) = false := decide_eq_false (by omega)
          have HD1 : Hid (48 ≤ c) := hd
          have HD2 : Hid (c ≤ 57) := hd2
          clear hd hd2
          go_wp2
          go_round
          case rel => exact ⟨k + 1, by omega, by go_num, all_take HA.out (by rw [bts_len]; exact hlt) (decide_eq_true (by have := HC.out; have := HD1.out; have := HD2.out; omega))⟩
          case measure => simp [intOf]; omega
        · have HF : Hid (dgs (bts s) = false) := by
            unfold Hid dgs
            refine List.all_eq_false.2 ⟨(bts s).getD k 0, ?_, ?_⟩
            · rw [List.getD_eq_getElem?_getD, List.getElem?_eq_getElem (by rw [bts_len]; exact hlt)]; exact List.getElem_mem _
            · rw [show dgB ((bts s).getD k 0) = false from decide_eq_false (by have := HC.out; omega)]; decide
          have hq2 : decide (57 < c) = true := decide_eq_true (by omega)
          clear hd hd2
          go_wp2
          go_ret
          exact ⟨by rw [HF.out]; rfl, HB.out⟩
      · have HF : Hid (dgs (bts s) = false) := by
          unfold Hid dgs
          refine List.all_eq_false.2 ⟨(bts s).getD k 0, ?_, ?_⟩
          · rw [List.getD_eq_getElem?_getD, List.getElem?_eq_getElem (by rw [bts_len]; exact hlt)]; exact List.getElem_mem _
          · rw [show dgB ((bts s).getD k 0) = false from decide_eq_false (by have := HC.out; omega)]; decide
        go_wp2
        go_ret
        exact ⟨by rw [HF.out]; rfl, HB.out⟩
    · have he : k = s.size := by omega
      have HT : Hid (dgs (bts s) = true) := by
        have := HA.out
        rw [he, ← bts_len s, List.take_length] at this
        exact this
      go_wp2
      go_ret
      refine ⟨?_, HB.out⟩
      rw [HT.out]
      rfl

set_option maxHeartbeats 1000000 in
theorem number_any (s : ByteArray) (w : World) (hd : dgs (bts s) = true) (hs : s.size ≤ 15) :
    Calls Tryz.prog 46 #[.string s] w fun e w' => e = .returned (.int .i64 (num (bts s) s.size : Nat)) ∧ Below w.heap.size w w' := by
  obtain ⟨cap, w1, hcv, hb1, hz⟩ := run_bytes s w
  have HB : Hid (Below w.heap.size w w1) := hb1
  have HZ : Hid (∀ j, j < s.size → w1.cell? ⟨w.heap.size, j, none⟩ = some (.int .u8 ((bts s).getD j 0 : Nat))) := hz
  have HD : Hid (dgs (bts s) = true) := hd
  clear hb1 hz hd
  obtain ⟨g, hg⟩ : ∃ g, w.heap.size = g := ⟨_, rfl⟩
  rw [hg] at hcv HZ
  clear hg
  go_enter Tryz.func46, Tryz.ntmps46
  go_wp2
  go_loop [3, 9] (fun x i => ∃ k v : Nat, k ≤ s.size ∧ i = .int .i64 (k : Int) ∧ x = .int .i64 (v : Int) ∧ Hid (v = num (bts s) k)) (fun _ i => s.size - (intOf i).toNat)
  case atStart => exact ⟨0, 0, Nat.zero_le _, rfl, rfl, rfl⟩
  case round =>
    obtain ⟨k, v, hk, rfl, rfl, HV⟩ := hrel
    by_cases hlt : k < s.size
    · obtain ⟨c, hc⟩ : ∃ c, (bts s).getD k 0 = c := ⟨_, rfl⟩
      have hcell := HZ.out k hlt
      rw [hc] at hcell
      have hcd : 48 ≤ c ∧ c ≤ 57 := by
        have : dgB ((bts s).getD k 0) = true := by
          rw [List.getD_eq_getElem?_getD, List.getElem?_eq_getElem (by rw [bts_len]; exact hlt)]
          exact List.all_eq_true.1 HD.out _ (List.getElem_mem _)
        rw [hc] at this
        exact of_decide_eq_true this
      obtain ⟨hc1, hc2⟩ := hcd
      have hvb : v < 1000000000000000 := by
        have h1 := num_lt HD.out k (by rw [bts_len]; omega)
        rw [← HV.out] at h1
        exact Nat.lt_of_lt_of_le h1 (Nat.pow_le_pow_right (by omega) (by omega : k ≤ 15))
      have HC : Hid ((bts s).getD k 0 = c) := hc
      clear hc
      go_wp2
      go_round
      case rel => exact ⟨k + 1, 10 * v + (c - 48), by omega, by go_num, (by refine congrArg (fun x : Int => Value.int .i64 x) ?_; omega), by have := HV.out; have := HC.out; unfold Hid num; omega⟩
      case measure => simp [intOf]; omega
    · have he : k = s.size := by omega
      go_wp2
      go_ret
      subst he
      exact ⟨by rw [← HV.out]; rfl, HB.out⟩

set_option maxHeartbeats 1000000 in
theorem power_any (n : Nat) (w : World) (hn : n ≤ 15) :
    Calls Tryz.prog 47 #[.int .i64 n] w fun e w' => e = .returned (.int .i64 (10 ^ n : Nat)) ∧ w = w' := by
  go_enter Tryz.func47, Tryz.ntmps47
  go_wp2
  go_loop [3, 5] (fun x i => ∃ k v : Nat, k ≤ n ∧ i = .int .i64 (k : Int) ∧ x = .int .i64 (v : Int) ∧ Hid (v = 10 ^ k)) (fun _ i => n - (intOf i).toNat)
  case atStart => exact ⟨0, 1, Nat.zero_le _, rfl, rfl, rfl⟩
  case round =>
    obtain ⟨k, v, hk, rfl, rfl, HV⟩ := hrel
    by_cases hlt : k < n
    · have hvb : v ≤ 1000000000000000 := by
        have h1 : 10 ^ k ≤ 10 ^ 15 := Nat.pow_le_pow_right (by omega) (by omega)
        rw [HV.out]; exact h1
      go_wp2
      go_round
      case rel => exact ⟨k + 1, v * 10, by omega, by go_num, (by refine congrArg (fun x : Int => Value.int .i64 x) ?_; omega), by unfold Hid; rw [HV.out, Nat.pow_succ]⟩
      case measure => simp [intOf]; omega
    · have he : k = n := by omega
      subst he
      go_wp2
      go_ret
      exact ⟨congrArg (fun x : Int => Ending.returned (.int .i64 x)) (by rw [HV.out, Int.natCast_pow]; rfl), rfl⟩

end Go.Proofs.YtieldmakbokekaaGreatDoor.Oct
