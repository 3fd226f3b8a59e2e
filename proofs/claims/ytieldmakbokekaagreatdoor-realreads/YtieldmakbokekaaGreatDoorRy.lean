/-
  internal/strconv's special and atof64, at texts 0x1.hhhp+dd.
-/
import Derived.Test.YtieldmakbokekaaGreatDoorRx
import Derived.Test.YtieldmakbokekaaGreatDoorSh
import Derived.Test.YtieldmakbokekaaGreatDoorRe
namespace Go.Proofs.YtieldmakbokekaaGreatDoor.Oct
open Go.RowKit

theorem results_tmp3 {fn : Func} {a b c : Tmp} (h : fn.results = #[.tmp a, .tmp b, .tmp c]) (tmps : Array Value) (P : Program) (w : World) :
    (results fn tmps).run P w = .ok (.tuple #[tmps.getD a undef, tmps.getD b undef, tmps.getD c undef]) w := by
  simp only [results, h]
  simp

set_option maxHeartbeats 1000000 in
set_option maxRecDepth 100000 in
theorem special_no (s : ByteArray) (w : World) (hs : (6 : Int) ≤ (s.size : Int)) (_hse : ¬ s = ByteArray.empty)
    (i0 : ∀ W, (Instr.index 9 (.string s) (.int .i64 0)).run Tryz.prog W = .ok (.int .u8 48) W) :
    Calls Tryz.prog 103 #[.string s] w fun e w' => e = .returned (.tuple #[.float .f64 0, .int .i64 0, .bool false]) ∧ w = w' := by
  go_enter Tryz.func103, Tryz.ntmps103
  go_wp2_with fail
  exact bodyPost_ret (results_tmp3 rfl _ _ _) rfl ⟨rfl, rfl⟩

set_option maxHeartbeats 1000000 in
set_option maxRecDepth 100000 in
theorem atof64_any (s : ByteArray) (n m : Nat) (ch : Nat → Int) (D X : Nat → Nat) (es : Bool) (h : HexT s n m ch D X es) (w : World) (hF : Fi w) (r : Nat)
    (hh : ∀ (w' : World), Fi w' → Calls Tryz.prog 105 #[.string s, .pointer (some ⟨9, 0, none⟩), .int .u64 (hv D n : Nat), .int .i64 ((if es then -1 else 1) * (dv X m : Int) - 4 * (n : Int)), .bool false, .bool false] w' fun e w'' => e = .returned (.tuple #[.float .f64 r, .nilIface]) ∧ Below w'.heap.size w' w'') :
    Calls Tryz.prog 95 #[.string s] w fun e w' => e = .returned (.tuple #[.float .f64 r, .int .i64 (s.size : Nat), .nilIface]) ∧ Below w.heap.size w w' := by
  have hs : (6 : Int) ≤ (s.size : Int) := by have := h.size; have := h.m0; omega
  have hse : ¬ s = ByteArray.empty := fun e => by rw [e] at hs; exact absurd hs (by decide)
  have i0 : ∀ W, (Instr.index 9 (.string s) (.int .i64 0)).run Tryz.prog W = .ok (.int .u8 48) W := fun W => by have := h.idx 0 (by omega) W; rw [h.c0] at this; exact this
  have c1 := special_no s w hs hse i0
  have c2 := rf_any s n m ch D X es h w
  obtain ⟨R, hR⟩ : ∃ R, (if es then (-1 : Int) else 1) * (dv X m : Int) - 4 * (n : Int) = R := ⟨_, rfl⟩
  rw [hR] at c2 hh
  have c3 := hh w hF
  have hz : s.extract 0 s.size = s := ByteArray.extract_zero_size
  clear hh hR i0 h
  go_enter Tryz.func95, Tryz.ntmps95
  go_wp2_with fail
  refine c1.mono ?_
  clear c1
  rintro e w1 ⟨rfl, rfl⟩
  go_wp2_with fail
  refine c2.mono ?_
  clear c2
  rintro e w1 ⟨rfl, rfl⟩
  go_wp2_with fail
  refine c3.mono ?_
  clear c3
  rintro e w1 ⟨rfl, hb⟩
  have HB : Hid (Below w.heap.size w w1) := hb
  clear hb
  go_wp2
  exact bodyPost_ret (results_tmp3 rfl _ _ _) rfl ⟨rfl, HB.out⟩

set_option maxHeartbeats 1000000 in
set_option maxRecDepth 100000 in
theorem prefix_of (s : ByteArray) (w : World) (r : Nat) (c : Calls Tryz.prog 95 #[.string s] w fun e w' => e = .returned (.tuple #[.float .f64 r, .int .i64 (s.size : Nat), .nilIface]) ∧ Below w.heap.size w w') :
    Calls Tryz.prog 80 #[.string s, .int .i64 64] w fun e w' => e = .returned (.tuple #[.float .f64 r, .int .i64 (s.size : Nat), .nilIface]) ∧ Below w.heap.size w w' := by
  go_enter Tryz.func80, Tryz.ntmps80
  go_wp2_with fail
  refine c.mono ?_
  clear c
  rintro e w1 ⟨rfl, hb⟩
  have HB : Hid (Below w.heap.size w w1) := hb
  clear hb
  go_wp2
  exact bodyPost_ret (results_tmp3 rfl _ _ _) rfl ⟨rfl, HB.out⟩

set_option maxHeartbeats 1000000 in
set_option maxRecDepth 100000 in
theorem parse_of (s : ByteArray) (w : World) (r : Nat) (c : Calls Tryz.prog 95 #[.string s] w fun e w' => e = .returned (.tuple #[.float .f64 r, .int .i64 (s.size : Nat), .nilIface]) ∧ Below w.heap.size w w') :
    Calls Tryz.prog 67 #[.string s, .int .i64 64] w fun e w' => e = .returned (.tuple #[.float .f64 r, .nilIface]) ∧ Below w.heap.size w w' := by
  have c1 := prefix_of s w r c
  clear c
  go_enter Tryz.func67, Tryz.ntmps67
  go_wp2_with fail
  refine c1.mono ?_
  clear c1
  rintro e w1 ⟨rfl, hb⟩
  have HB : Hid (Below w.heap.size w w1) := hb
  clear hb
  go_wp2
  go_ret2
  exact ⟨rfl, HB.out⟩

set_option maxHeartbeats 1000000 in
set_option maxRecDepth 100000 in
theorem parse2_of (s : ByteArray) (w : World) (r : Nat) (c : Calls Tryz.prog 95 #[.string s] w fun e w' => e = .returned (.tuple #[.float .f64 r, .int .i64 (s.size : Nat), .nilIface]) ∧ Below w.heap.size w w') :
    Calls Tryz.prog 48 #[.string s, .int .i64 64] w fun e w' => e = .returned (.tuple #[.float .f64 r, .nilIface]) ∧ Below w.heap.size w w' := by
  have c1 := parse_of s w r c
  clear c
  go_enter Tryz.func48, Tryz.ntmps48
  go_wp2_with fail
  refine c1.mono ?_
  clear c1
  rintro e w1 ⟨rfl, hb⟩
  have HB : Hid (Below w.heap.size w w1) := hb
  clear hb
  go_wp2
  go_ret2
  exact ⟨rfl, HB.out⟩

set_option maxHeartbeats 1000000 in
set_option maxRecDepth 100000 in
/-- shown: another text than Show's. -/
theorem shown_no (s t : ByteArray) (w : World) (r : Nat) (c : Calls Tryz.prog 95 #[.string s] w fun e w' => e = .returned (.tuple #[.float .f64 r, .int .i64 (s.size : Nat), .nilIface]) ∧ Below w.heap.size w w')
    (hsh : ∀ w1, Below w.heap.size w w1 → Calls Tryz.prog 6 #[.float .f64 r] w1 fun e w' => e = .returned (.string t) ∧ Below w1.heap.size w1 w') (hne : (t.toList == s.toList) = false) :
    Calls Tryz.prog 26 #[.string s] w fun e w' => e = .returned (.tuple #[.float .f64 0, .bool false]) ∧ Below w.heap.size w w' := by
  have c1 := parse2_of s w r c
  have HS : Hid _ := hsh
  clear c hsh
  go_enter Tryz.func26, Tryz.ntmps26
  go_wp2_with fail
  refine c1.mono ?_
  clear c1
  rintro e w1 ⟨rfl, hb⟩
  have HB : Hid (Below w.heap.size w w1) := hb
  clear hb
  go_wp2_with fail
  refine (HS.out _ HB.out).mono ?_
  rintro e w2 ⟨rfl, hb⟩
  have HB2 : Hid (Below w.heap.size w w2) := HB.out.trans (hb.mono HB.out.size)
  clear hb
  go_wp2
  go_ret2
  exact ⟨rfl, HB2.out⟩

set_option maxHeartbeats 1000000 in
set_option maxRecDepth 100000 in
/-- shown: Show's own text. -/
theorem shown_yes (s : ByteArray) (w : World) (r : Nat) (c : Calls Tryz.prog 95 #[.string s] w fun e w' => e = .returned (.tuple #[.float .f64 r, .int .i64 (s.size : Nat), .nilIface]) ∧ Below w.heap.size w w')
    (hsh : ∀ w1, Below w.heap.size w w1 → Calls Tryz.prog 6 #[.float .f64 r] w1 fun e w' => e = .returned (.string s) ∧ Below w1.heap.size w1 w') :
    Calls Tryz.prog 26 #[.string s] w fun e w' => e = .returned (.tuple #[.float .f64 r, .bool true]) ∧ Below w.heap.size w w' := by
  have c1 := parse2_of s w r c
  have HS : Hid _ := hsh
  clear c hsh
  go_enter Tryz.func26, Tryz.ntmps26
  go_wp2_with fail
  refine c1.mono ?_
  clear c1
  rintro e w1 ⟨rfl, hb⟩
  have HB : Hid (Below w.heap.size w w1) := hb
  clear hb
  go_wp2_with fail
  refine (HS.out _ HB.out).mono ?_
  rintro e w2 ⟨rfl, hb⟩
  have HB2 : Hid (Below w.heap.size w w2) := HB.out.trans (hb.mono HB.out.size)
  clear hb
  go_wp2
  go_ret2
  exact ⟨rfl, HB2.out⟩
end Go.Proofs.YtieldmakbokekaaGreatDoor.Oct

/-
  real.Read at texts that begin with 0x; two texts of chapter 3.
-/
namespace Go.Proofs.YtieldmakbokekaaGreatDoor.Oct
open Go.RowKit
open Go.Proofs.YtieldmakbokekaaGreatDoor.Fl

theorem idx_str (s : ByteArray) (k : Nat) (hk : k < s.size) (W : World) : (Instr.index 9 (.string s) (.int .i64 (k : Int))).run Tryz.prog W = .ok (.int .u8 ((s.data.toList.getD k 0).toNat : Int)) W := by
  rw [run_index_string _ 9 _ .i64 _ Tryz.underlying9]
  have h1 : k < s.data.toList.length := by simpa using hk
  rw [dif_pos ⟨by omega, by omega⟩, List.getD_eq_getElem?_getD, List.getElem?_eq_getElem h1]
  rfl

set_option maxRecDepth 10000 in
theorem hasx_yes (s : ByteArray) (w : World) (hx : Lib.hasPrefix s.data.toList [48, 120] = true) :
    Calls Tryz.prog 23 #[.string s, .string ⟨#[48, 120]⟩] w fun e w' => e = .returned (.bool true) ∧ w = w' := by
  refine (Tryz.strings_HasPrefix s ⟨#[48, 120]⟩ w).mono ?_
  rintro e w' ⟨rfl, rfl⟩
  exact ⟨by rw [show Lib.hasPrefix s.data.toList (ByteArray.mk #[48, 120]).data.toList = true from hx], rfl⟩

set_option maxHeartbeats 2000000 in
/-- Read of a text that begins with 0x is what shown says. -/
theorem read_hex (s : ByteArray) (w : World) (r : Nat) (ok : Bool) (hp : Lib.hasPrefix s.data.toList [45] = false) (hx : Lib.hasPrefix s.data.toList [48, 120] = true)
    (e1 : (s.toList == [110, 97, 110]) = false) (e2 : (s.toList == [105, 110, 102]) = false) (e3 : (s.toList == [45, 105, 110, 102]) = false)
    (c : Calls Tryz.prog 26 #[.string s] w fun e w' => e = .returned (.tuple #[.float .f64 r, .bool ok]) ∧ Below w.heap.size w w') :
    Calls Tryz.prog 7 #[.string s] w fun e w' => e = .returned (.tuple #[.float .f64 r, .bool ok]) ∧ Below w.heap.size w w' := by
  have hcp := cutp_no s w hp
  have hhx := hasx_yes s w hx
  clear hp hx
  go_enter Tryz.func7, Tryz.ntmps7
  go_wp2_with fail
  refine hcp.mono ?_
  clear hcp
  rintro e w1 ⟨rfl, rfl⟩
  go_wp2_with fail
  refine hhx.mono ?_
  clear hhx
  rintro e w1 ⟨rfl, rfl⟩
  go_wp2_with fail
  refine c.mono ?_
  clear c
  rintro e w1 ⟨rfl, hb⟩
  have HB : Hid (Below w.heap.size w w1) := hb
  clear hb
  go_wp2
  go_ret2
  exact ⟨rfl, HB.out⟩

def tA : ByteArray := ⟨#[48, 120, 49, 46, 56, 112, 43, 49]⟩
def tB : ByteArray := ⟨#[48, 120, 49, 46, 56, 48, 112, 43, 49]⟩
def chA (k : Nat) : Int := ((tA.data.toList.getD k 0).toNat : Int)
def chB (k : Nat) : Int := ((tB.data.toList.getD k 0).toNat : Int)
def dgA (j : Nat) : Nat := if j = 0 then 8 else 0

theorem hexA : HexT tA 1 1 chA dgA (fun _ => 1) false where
  size := by decide
  m0 := by decide
  m4 := by decide
  n13 := by decide
  idx := fun k hk W => idx_str tA k hk W
  c0 := by decide
  c1 := by decide
  c2 := by decide
  c3 := fun _ => by decide
  cp := by decide
  cz := by decide
  cd := fun j hj => by obtain rfl : j = 0 := by omega
                       decide
  dig := fun j hj => by obtain rfl : j = 0 := by omega
                        exact .inl (by decide)
  dec := fun _ _ => by decide

theorem hexB : HexT tB 2 1 chB dgA (fun _ => 1) false where
  size := by decide
  m0 := by decide
  m4 := by decide
  n13 := by decide
  idx := fun k hk W => idx_str tB k hk W
  c0 := by decide
  c1 := by decide
  c2 := by decide
  c3 := fun _ => by decide
  cp := by decide
  cz := by decide
  cd := fun j hj => by obtain rfl : j = 0 := by omega
                       decide
  dig := fun j hj => by
    have : j = 0 ∨ j = 1 := by omega
    rcases this with rfl | rfl
    · exact .inl (by decide)
    · exact .inl (by decide)
  dec := fun _ _ => by decide

/-- 3.0 -/
theorem atofA (w : World) (hF : Fi w) : Calls Tryz.prog 95 #[.string tA] w fun e w' => e = .returned (.tuple #[.float .f64 4613937818241073152, .int .i64 (tA.size : Nat), .nilIface]) ∧ Below w.heap.size w w' := by
  refine atof64_any tA 1 1 chA dgA (fun _ => 1) false hexA w hF 4613937818241073152 fun w' hF' => ?_
  have e1 : hv dgA 1 = 24 := by decide
  have e2 : (if false = true then (-1 : Int) else 1) * ((dv (fun _ => 1) 1 : Nat) : Int) - 4 * ((1 : Nat) : Int) = -3 := by decide
  have e3 : (1024 * 4503599627370496 + 6755399441055744 % 4503599627370496 + if false = true then 9223372036854775808 else 0) = 4613937818241073152 := by decide +kernel
  have := hexf tA 24 50 0 6755399441055744 1024 (-3) (-1) false w' hF' (by decide) (by decide +kernel) (by decide +kernel) (by decide) (by decide) (by decide) (by decide) (.inl ⟨rfl, by decide⟩) (by decide +kernel) (by decide) (by decide) (.inl ⟨by decide +kernel, by decide⟩)
  rw [e3] at this
  rw [e1, e2]
  exact this

theorem atofB (w : World) (hF : Fi w) : Calls Tryz.prog 95 #[.string tB] w fun e w' => e = .returned (.tuple #[.float .f64 4613937818241073152, .int .i64 (tB.size : Nat), .nilIface]) ∧ Below w.heap.size w w' := by
  refine atof64_any tB 2 1 chB dgA (fun _ => 1) false hexB w hF 4613937818241073152 fun w' hF' => ?_
  have e1 : hv dgA 2 = 384 := by decide
  have e2 : (if false = true then (-1 : Int) else 1) * ((dv (fun _ => 1) 1 : Nat) : Int) - 4 * ((2 : Nat) : Int) = -7 := by decide
  have e3 : (1024 * 4503599627370496 + 6755399441055744 % 4503599627370496 + if false = true then 9223372036854775808 else 0) = 4613937818241073152 := by decide +kernel
  have := hexf tB 384 46 0 6755399441055744 1024 (-7) (-1) false w' hF' (by decide) (by decide +kernel) (by decide +kernel) (by decide) (by decide) (by decide) (by decide) (.inl ⟨rfl, by decide⟩) (by decide +kernel) (by decide) (by decide) (.inl ⟨by decide +kernel, by decide⟩)
  rw [e3] at this
  rw [e1, e2]
  exact this

/-- Show says 3. -/
theorem show3 (w : World) : Calls Tryz.prog 6 #[.float .f64 4613937818241073152] w fun e w' => e = .returned (.string ⟨#[51]⟩) ∧ Below w.heap.size w w' := by
  have h := show_whole 4613937818241073152 w (by decide) (by decide +kernel) (.inr (by decide +kernel))
  have e : sgn 4613937818241073152 ++ ⟨(Lib.decDigits (wh (4613937818241073152 % 2 ^ 63))).toArray⟩ = (⟨#[51]⟩ : ByteArray) := by decide +kernel
  rw [e] at h
  exact h

theorem tlA : tA.toList = [48, 120, 49, 46, 56, 112, 43, 49] := tl_mk [48, 120, 49, 46, 56, 112, 43, 49]
theorem tlB : tB.toList = [48, 120, 49, 46, 56, 48, 112, 43, 49] := tl_mk [48, 120, 49, 46, 56, 48, 112, 43, 49]
theorem tl3 : (⟨#[51]⟩ : ByteArray).toList = [51] := tl_mk [51]

theorem readA (w : World) (hF : Fi w) : Calls Tryz.prog 7 #[.string tA] w fun e w' => e = .returned (.tuple #[.float .f64 0, .bool false]) ∧ Below w.heap.size w w' :=
  read_hex tA w 0 false (by decide) (by decide) (by rw [tlA]; decide) (by rw [tlA]; decide) (by rw [tlA]; decide) (shown_no tA ⟨#[51]⟩ w _ (atofA w hF) (fun w1 _ => show3 w1) (by rw [tlA, tl3]; decide))
theorem readB (w : World) (hF : Fi w) : Calls Tryz.prog 7 #[.string tB] w fun e w' => e = .returned (.tuple #[.float .f64 0, .bool false]) ∧ Below w.heap.size w w' :=
  read_hex tB w 0 false (by decide) (by decide) (by rw [tlB]; decide) (by rw [tlB]; decide) (by rw [tlB]; decide) (shown_no tB ⟨#[51]⟩ w _ (atofB w hF) (fun w1 _ => show3 w1) (by rw [tlB, tl3]; decide))
end Go.Proofs.YtieldmakbokekaaGreatDoor.Oct
