/-
  internal/strconv's special and atof64, and real.Read, at texts -0x1.hhhp+dd.
-/
import Derived.Test.YtieldmakbokekaaGreatDoorRxm
import Derived.Test.YtieldmakbokekaaGreatDoorRz
namespace Go.Proofs.YtieldmakbokekaaGreatDoor.Oct
open Go.RowKit
open Go.Proofs.YtieldmakbokekaaGreatDoor.Fl

set_option maxHeartbeats 1000000 in
set_option maxRecDepth 100000 in
/-- A text that begins with 0 shares nothing with the word. -/
theorem cpl_no (t : ByteArray) (w : World) (hs : (1 : Int) ≤ (t.size : Int)) (_hm : (t.size : Int) ≤ 4611686018427387904)
    (i0 : ∀ W, (Instr.index 9 (.string t) (.int .i64 0)).run Tryz.prog W = .ok (.int .u8 48) W) :
    Calls Tryz.prog 116 #[.string t, .string ⟨#[105, 110, 102, 105, 110, 105, 116, 121]⟩] w fun e w' => e = .returned (.int .i64 0) ∧ w = w' := by
  go_enter Tryz.func116, Tryz.ntmps116
  go_wp2_with fail
  go_loop [6] (fun i => i = .int .i64 0) (fun _ => 0)
  case atStart => rfl
  case round =>
    subst hrel
    have ip : ∀ W, (Instr.index 9 (.string ⟨#[105, 110, 102, 105, 110, 105, 116, 121]⟩) (.int .i64 0)).run Tryz.prog W = .ok (.int .u8 105) W := fun W => idx_str ⟨#[105, 110, 102, 105, 110, 105, 116, 121]⟩ 0 (by decide) W
    go_wp2
    go_ret
    exact ⟨rfl, rfl⟩

set_option maxHeartbeats 1000000 in
set_option maxRecDepth 100000 in
theorem specialm_no (s t : ByteArray) (w : World) (hs : (7 : Int) ≤ (s.size : Int)) (hm : (s.size : Int) ≤ 31) (_hse : ¬ s = ByteArray.empty)
    (i0 : ∀ W, (Instr.index 9 (.string s) (.int .i64 0)).run Tryz.prog W = .ok (.int .u8 45) W)
    (hsl : ∀ W, (Instr.slice 9 (.string s) (some (.int .i64 1)) none none).run Tryz.prog W = .ok (.string t) W)
    (hts : (1 : Int) ≤ (t.size : Int)) (htm : (t.size : Int) ≤ 31)
    (it : ∀ W, (Instr.index 9 (.string t) (.int .i64 0)).run Tryz.prog W = .ok (.int .u8 48) W) :
    Calls Tryz.prog 103 #[.string s] w fun e w' => e = .returned (.tuple #[.float .f64 0, .int .i64 0, .bool false]) ∧ w = w' := by
  have c := cpl_no t w hts (by omega) it
  clear it
  go_enter Tryz.func103, Tryz.ntmps103
  go_wp2_with fail
  refine c.mono ?_
  clear c
  rintro e w' ⟨rfl, rfl⟩
  go_wp2_with fail
  exact bodyPost_ret (results_tmp3 rfl _ _ _) rfl ⟨rfl, rfl⟩

set_option maxHeartbeats 1000000 in
set_option maxRecDepth 100000 in
theorem atof64m_any (s t : ByteArray) (n m : Nat) (ch : Nat → Int) (D X : Nat → Nat) (es : Bool) (h : HexM s n m ch D X es) (ht : s.data.toList = 45 :: t.data.toList) (w : World) (hF : Fi w) (r : Nat)
    (hh : ∀ (w' : World), Fi w' → Calls Tryz.prog 105 #[.string s, .pointer (some ⟨9, 0, none⟩), .int .u64 (hv D n : Nat), .int .i64 ((if es then -1 else 1) * (dv X m : Int) - 4 * (n : Int)), .bool true, .bool false] w' fun e w'' => e = .returned (.tuple #[.float .f64 r, .nilIface]) ∧ Below w'.heap.size w' w'') :
    Calls Tryz.prog 95 #[.string s] w fun e w' => e = .returned (.tuple #[.float .f64 r, .int .i64 (s.size : Nat), .nilIface]) ∧ Below w.heap.size w w' := by
  have hsz := h.size
  have hfr : frL n ≤ 14 := by have := h.n13; unfold frL; split <;> omega
  have hs : (7 : Int) ≤ (s.size : Int) := by have := h.m0; omega
  have hm : (s.size : Int) ≤ 31 := by have := h.m4; omega
  have hse : ¬ s = ByteArray.empty := fun e => by rw [e] at hs; exact absurd hs (by decide)
  have i0 : ∀ W, (Instr.index 9 (.string s) (.int .i64 0)).run Tryz.prog W = .ok (.int .u8 45) W := fun W => by have := h.idx 0 (by omega) W; rw [h.cm] at this; exact this
  have hst : s.size = t.size + 1 := by
    have := congrArg List.length ht
    simpa using this
  have hex : s.extract 1 s.size = t := by
    refine ba_eq ?_
    have hd : s.data = (45 :: t.data.toList).toArray := by rw [← ht]
    simp [ByteArray.data_extract, hd]
    exact List.take_of_length_le (by have : t.data.toList.length = t.size := Array.length_toList
                                     omega)
  have hsl : ∀ W, (Instr.slice 9 (.string s) (some (.int .i64 1)) none none).run Tryz.prog W = .ok (.string t) W := fun W => by
    rw [run_slice_string_l W 9 s Tryz.underlying9 .i64 1 (by omega) (by omega)]
    rw [show (1 : Int).toNat = 1 from rfl, hex]
  have it : ∀ W, (Instr.index 9 (.string t) (.int .i64 0)).run Tryz.prog W = .ok (.int .u8 48) W := fun W => by
    have e1 := h.idx 1 (by omega) W
    rw [h.c0] at e1
    have e2 := idx_str s 1 (by omega) W
    have e3 := idx_str t 0 (by omega) W
    rw [ht] at e2
    have e4 : (Value.int .u8 48) = .int .u8 ((((45 :: t.data.toList).getD 1 0).toNat : Int)) := by
      have := e1.symm.trans e2
      simpa using this
    have e5 : ((45 :: t.data.toList).getD 1 0) = t.data.toList.getD 0 0 := rfl
    rw [e5] at e4
    rw [← e4] at e3
    exact e3
  have c1 := specialm_no s t w hs hm hse i0 hsl (by omega) (by omega) it
  have c2 := rfm_any s n m ch D X es h w
  obtain ⟨R, hR⟩ : ∃ R, (if es then (-1 : Int) else 1) * (dv X m : Int) - 4 * (n : Int) = R := ⟨_, rfl⟩
  rw [hR] at c2 hh
  have c3 := hh w hF
  have hz : s.extract 0 s.size = s := ByteArray.extract_zero_size
  clear hh hR i0 h hsl it hex hst hsz hfr ht
  go_enter Tryz.func95, Tryz.ntmps95
  go_wp2_with fail
  refine c1.mono ?_
  clear c1
  rintro e w1 ⟨rfl, rfl⟩
  go_wp2_with fail
  refine c2.mono ?_
  clear c2
  rintro e w1 ⟨rfl, rfl⟩
  go_wp2_with fail
  refine c3.mono ?_
  clear c3
  rintro e w1 ⟨rfl, hb⟩
  have HB : Hid (Below w.heap.size w w1) := hb
  clear hb
  go_wp2
  exact bodyPost_ret (results_tmp3 rfl _ _ _) rfl ⟨rfl, HB.out⟩

set_option maxHeartbeats 2000000 in
/-- Read of a text that begins with -0x is what shown says. -/
theorem read_hexm (s t : ByteArray) (w : World) (r : Nat) (ok : Bool) (hp : s.data.toList = 45 :: t.data.toList) (hx : Lib.hasPrefix t.data.toList [48, 120] = true)
    (e1 : (s.toList == [110, 97, 110]) = false) (e2 : (s.toList == [105, 110, 102]) = false) (e3 : (s.toList == [45, 105, 110, 102]) = false)
    (c : Calls Tryz.prog 26 #[.string s] w fun e w' => e = .returned (.tuple #[.float .f64 r, .bool ok]) ∧ Below w.heap.size w w') :
    Calls Tryz.prog 7 #[.string s] w fun e w' => e = .returned (.tuple #[.float .f64 r, .bool ok]) ∧ Below w.heap.size w w' := by
  have hcp := cutp_yes t s w hp
  have hhx := hasx_yes t w hx
  clear hp hx
  go_enter Tryz.func7, Tryz.ntmps7
  go_wp2_with fail
  refine hcp.mono ?_
  clear hcp
  rintro e w1 ⟨rfl, rfl⟩
  go_wp2_with fail
  refine hhx.mono ?_
  clear hhx
  rintro e w1 ⟨rfl, rfl⟩
  go_wp2_with fail
  refine c.mono ?_
  clear c
  rintro e w1 ⟨rfl, hb⟩
  have HB : Hid (Below w.heap.size w w1) := hb
  clear hb
  go_wp2
  go_ret2
  exact ⟨rfl, HB.out⟩
end Go.Proofs.YtieldmakbokekaaGreatDoor.Oct
