/-
  internal/strconv's special and atof64, at texts 0x1.hhhp+dd.
-/
import Derived.Test.YtieldmakbokekaaGreatDoorRx
namespace Go.Proofs.YtieldmakbokekaaGreatDoor.Oct
open Go.RowKit

theorem results_tmp3 {fn : Func} {a b c : Tmp} (h : fn.results = #[.tmp a, .tmp b, .tmp c]) (tmps : Array Value) (P : Program) (w : World) :
    (results fn tmps).run P w = .ok (.tuple #[tmps.getD a undef, tmps.getD b undef, tmps.getD c undef]) w := by
  simp only [results, h]
  simp

set_option maxHeartbeats 1000000 in
set_option maxRecDepth 100000 in
theorem special_no (s : ByteArray) (w : World) (hs : (6 : Int) ≤ (s.size : Int)) (_hse : ¬ s = ByteArray.empty)
    (i0 : ∀ W, (Instr.index 9 (.string s) (.int .i64 0)).run Tryz.prog W = .ok (.int .u8 48) W) :
    Calls Tryz.prog 103 #[.string s] w fun e w' => e = .returned (.tuple #[.float .f64 0, .int .i64 0, .bool false]) ∧ w = w' := by
  go_enter Tryz.func103, Tryz.ntmps103
  go_wp2_with fail
  exact bodyPost_ret (results_tmp3 rfl _ _ _) rfl ⟨rfl, rfl⟩

set_option maxHeartbeats 1000000 in
set_option maxRecDepth 100000 in
theorem atof64_any (s : ByteArray) (n m : Nat) (ch : Nat → Int) (D X : Nat → Nat) (es : Bool) (h : HexT s n m ch D X es) (w : World) (hF : Fi w) (r : Nat)
    (hh : ∀ (w' : World), Fi w' → Calls Tryz.prog 105 #[.string s, .pointer (some ⟨9, 0, none⟩), .int .u64 (hv D n : Nat), .int .i64 ((if es then -1 else 1) * (dv X m : Int) - 4 * (n : Int)), .bool false, .bool false] w' fun e w'' => e = .returned (.tuple #[.float .f64 r, .nilIface]) ∧ Below w'.heap.size w' w'') :
    Calls Tryz.prog 95 #[.string s] w fun e w' => e = .returned (.tuple #[.float .f64 r, .int .i64 (s.size : Nat), .nilIface]) ∧ Below w.heap.size w w' := by
  have hs : (6 : Int) ≤ (s.size : Int) := by have := h.size; have := h.m0; omega
  have hse : ¬ s = ByteArray.empty := fun e => by rw [e] at hs; exact absurd hs (by decide)
  have i0 : ∀ W, (Instr.index 9 (.string s) (.int .i64 0)).run Tryz.prog W = .ok (.int .u8 48) W := fun W => by have := h.idx 0 (by omega) W; rw [h.c0] at this; exact this
  have c1 := special_no s w hs hse i0
  have c2 := rf_any s n m ch D X es h w
  obtain ⟨R, hR⟩ : ∃ R, (if es then (-1 : Int) else 1) * (dv X m : Int) - 4 * (n : Int) = R := ⟨_, rfl⟩
  rw [hR] at c2 hh
  have c3 := hh w hF
  have hz : s.extract 0 s.size = s := ByteArray.extract_zero_size
  clear hh hR i0 h
  go_enter Tryz.func95, Tryz.ntmps95
  go_wp2_with fail
  refine c1.mono ?_
  clear c1
  rintro e w1 ⟨rfl, rfl⟩
  go_wp2_with fail
  refine c2.mono ?_
  clear c2
  rintro e w1 ⟨rfl, rfl⟩
  go_wp2_with fail
  refine c3.mono ?_
  clear c3
  rintro e w1 ⟨rfl, hb⟩
  have HB : Hid (Below w.heap.size w w1) := hb
  clear hb
  go_wp2
  exact bodyPost_ret (results_tmp3 rfl _ _ _) rfl ⟨rfl, HB.out⟩

set_option maxHeartbeats 1000000 in
set_option maxRecDepth 100000 in
theorem prefix_of (s : ByteArray) (w : World) (r : Nat) (c : Calls Tryz.prog 95 #[.string s] w fun e w' => e = .returned (.tuple #[.float .f64 r, .int .i64 (s.size : Nat), .nilIface]) ∧ Below w.heap.size w w') :
    Calls Tryz.prog 80 #[.string s, .int .i64 64] w fun e w' => e = .returned (.tuple #[.float .f64 r, .int .i64 (s.size : Nat), .nilIface]) ∧ Below w.heap.size w w' := by
  go_enter Tryz.func80, Tryz.ntmps80
  go_wp2_with fail
  refine c.mono ?_
  clear c
  rintro e w1 ⟨rfl, hb⟩
  have HB : Hid (Below w.heap.size w w1) := hb
  clear hb
  go_wp2
  exact bodyPost_ret (results_tmp3 rfl _ _ _) rfl ⟨rfl, HB.out⟩

set_option maxHeartbeats 1000000 in
set_option maxRecDepth 100000 in
theorem parse_of (s : ByteArray) (w : World) (r : Nat) (c : Calls Tryz.prog 95 #[.string s] w fun e w' => e = .returned (.tuple #[.float .f64 r, .int .i64 (s.size : Nat), .nilIface]) ∧ Below w.heap.size w w') :
    Calls Tryz.prog 67 #[.string s, .int .i64 64] w fun e w' => e = .returned (.tuple #[.float .f64 r, .nilIface]) ∧ Below w.heap.size w w' := by
  have c1 := prefix_of s w r c
  clear c
  go_enter Tryz.func67, Tryz.ntmps67
  go_wp2_with fail
  refine c1.mono ?_
  clear c1
  rintro e w1 ⟨rfl, hb⟩
  have HB : Hid (Below w.heap.size w w1) := hb
  clear hb
  go_wp2
  go_ret2
  exact ⟨rfl, HB.out⟩

set_option maxHeartbeats 1000000 in
set_option maxRecDepth 100000 in
theorem parse2_of (s : ByteArray) (w : World) (r : Nat) (c : Calls Tryz.prog 95 #[.string s] w fun e w' => e = .returned (.tuple #[.float .f64 r, .int .i64 (s.size : Nat), .nilIface]) ∧ Below w.heap.size w w') :
    Calls Tryz.prog 48 #[.string s, .int .i64 64] w fun e w' => e = .returned (.tuple #[.float .f64 r, .nilIface]) ∧ Below w.heap.size w w' := by
  have c1 := parse_of s w r c
  clear c
  go_enter Tryz.func48, Tryz.ntmps48
  go_wp2_with fail
  refine c1.mono ?_
  clear c1
  rintro e w1 ⟨rfl, hb⟩
  have HB : Hid (Below w.heap.size w w1) := hb
  clear hb
  go_wp2
  go_ret2
  exact ⟨rfl, HB.out⟩

set_option maxHeartbeats 1000000 in
set_option maxRecDepth 100000 in
/-- shown: another text than Show's. -/
theorem shown_no (s t : ByteArray) (w : World) (r : Nat) (c : Calls Tryz.prog 95 #[.string s] w fun e w' => e = .returned (.tuple #[.float .f64 r, .int .i64 (s.size : Nat), .nilIface]) ∧ Below w.heap.size w w')
    (hsh : ∀ w1, Below w.heap.size w w1 → Calls Tryz.prog 6 #[.float .f64 r] w1 fun e w' => e = .returned (.string t) ∧ Below w1.heap.size w1 w') (hne : (t.toList == s.toList) = false) :
    Calls Tryz.prog 26 #[.string s] w fun e w' => e = .returned (.tuple #[.float .f64 0, .bool false]) ∧ Below w.heap.size w w' := by
  have c1 := parse2_of s w r c
  have HS : Hid _ := hsh
  clear c hsh
  go_enter Tryz.func26, Tryz.ntmps26
  go_wp2_with fail
  refine c1.mono ?_
  clear c1
  rintro e w1 ⟨rfl, hb⟩
  have HB : Hid (Below w.heap.size w w1) := hb
  clear hb
  go_wp2_with fail
  refine (HS.out _ HB.out).mono ?_
  rintro e w2 ⟨rfl, hb⟩
  have HB2 : Hid (Below w.heap.size w w2) := HB.out.trans (hb.mono HB.out.size)
  clear hb
  go_wp2
  go_ret2
  exact ⟨rfl, HB2.out⟩

set_option maxHeartbeats 1000000 in
set_option maxRecDepth 100000 in
/-- shown: Show's own text. -/
theorem shown_yes (s : ByteArray) (w : World) (r : Nat) (c : Calls Tryz.prog 95 #[.string s] w fun e w' => e = .returned (.tuple #[.float .f64 r, .int .i64 (s.size : Nat), .nilIface]) ∧ Below w.heap.size w w')
    (hsh : ∀ w1, Below w.heap.size w w1 → Calls Tryz.prog 6 #[.float .f64 r] w1 fun e w' => e = .returned (.string s) ∧ Below w1.heap.size w1 w') :
    Calls Tryz.prog 26 #[.string s] w fun e w' => e = .returned (.tuple #[.float .f64 r, .bool true]) ∧ Below w.heap.size w w' := by
  have c1 := parse2_of s w r c
  have HS : Hid _ := hsh
  clear c hsh
  go_enter Tryz.func26, Tryz.ntmps26
  go_wp2_with fail
  refine c1.mono ?_
  clear c1
  rintro e w1 ⟨rfl, hb⟩
  have HB : Hid (Below w.heap.size w w1) := hb
  clear hb
  go_wp2_with fail
  refine (HS.out _ HB.out).mono ?_
  rintro e w2 ⟨rfl, hb⟩
  have HB2 : Hid (Below w.heap.size w w2) := HB.out.trans (hb.mono HB.out.size)
  clear hb
  go_wp2
  go_ret2
  exact ⟨rfl, HB2.out⟩
end Go.Proofs.YtieldmakbokekaaGreatDoor.Oct
