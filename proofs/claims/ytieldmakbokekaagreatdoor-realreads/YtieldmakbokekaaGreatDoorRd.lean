/-
  real.Read of a decimal text.
-/
import Derived.Test.YtieldmakbokekaaGreatDoorDm
namespace Go.Proofs.YtieldmakbokekaaGreatDoor.Oct
open Go.RowKit
open Go.Proofs.YtieldmakbokekaaGreatDoor.Fl

theorem copysign_any (a : Nat) (w : World) (h : a < 2 ^ 64) : Calls Tryz.prog 30 #[.float .f64 a, .float .f64 13830554455654793216] w fun e w' => e = .returned (.float .f64 (a % 2 ^ 63 + 2 ^ 63)) ∧ w = w' := by
  have hf := run_f64bits a w
  have hf2 := run_f64bits 13830554455654793216 w
  have hg := fun n => run_f64from n w
  have h1 := andNot_top a h
  have h2 : bits .and .u64 13830554455654793216 9223372036854775808 = 9223372036854775808 := by decide
  have h3 := or_top (a % 2 ^ 63) (by omega)
  generalize a % 2 ^ 63 = y at *
  obtain ⟨z, hz⟩ : ∃ z : Nat, y + 2 ^ 63 = z := ⟨_, rfl⟩
  rw [hz] at h3 ⊢
  clear hz h
  go_enter Tryz.func30, Tryz.ntmps30
  go_wp2
  go_ret
  exact ⟨rfl, rfl⟩

theorem signed_no (a : Nat) (w : World) : Calls Tryz.prog 25 #[.float .f64 a, .bool false] w fun e w' => e = .returned (.float .f64 a) ∧ w = w' := by
  go_enter Tryz.func25, Tryz.ntmps25
  go_wp2
  go_ret
  exact ⟨rfl, rfl⟩

theorem signed_yes (a : Nat) (w : World) (h : a < 2 ^ 64) : Calls Tryz.prog 25 #[.float .f64 a, .bool true] w fun e w' => e = .returned (.float .f64 (a % 2 ^ 63 + 2 ^ 63)) ∧ w = w' := by
  have hc := fun w => copysign_any a w h
  generalize a % 2 ^ 63 + 2 ^ 63 = z at *
  clear h
  go_enter Tryz.func25, Tryz.ntmps25
  go_wp2_with (go_at_call 30; refine (hc _).mono ?_; rintro e w' ⟨rfl, rfl⟩)
  go_ret
  exact ⟨rfl, rfl⟩

set_option maxRecDepth 10000 in
theorem cutp_no (s : ByteArray) (w : World) (hp : Lib.hasPrefix s.data.toList [45] = false) :
    Calls Tryz.prog 22 #[.string s, .string ⟨#[45]⟩] w fun e w' => e = .returned (.tuple #[.string s, .bool false]) ∧ w = w' := by
  refine (Tryz.strings_CutPrefix s ⟨#[45]⟩ w).mono ?_
  rintro e w' ⟨rfl, rfl⟩
  have h1 : Lib.hasPrefix s.data.toList (ByteArray.mk #[45]).data.toList = false := hp
  have h2 : (⟨(Lib.trimPrefix s.data.toList (ByteArray.mk #[45]).data.toList).toArray⟩ : ByteArray) = s := by
    unfold Lib.trimPrefix
    rw [h1, if_neg (by decide)]
  exact ⟨by rw [h1, h2], rfl⟩

theorem cutp_yes (s t : ByteArray) (w : World) (h0 : t.data.toList = 45 :: s.data.toList) :
    Calls Tryz.prog 22 #[.string t, .string ⟨#[45]⟩] w fun e w' => e = .returned (.tuple #[.string s, .bool true]) ∧ w = w' := by
  refine (Tryz.strings_CutPrefix t ⟨#[45]⟩ w).mono ?_
  rintro e w' ⟨rfl, rfl⟩
  have h1 : Lib.hasPrefix t.data.toList (ByteArray.mk #[45]).data.toList = true := by
    rw [h0]; unfold Lib.hasPrefix; simp [List.isPrefixOf]
  have h2 : (⟨(Lib.trimPrefix t.data.toList (ByteArray.mk #[45]).data.toList).toArray⟩ : ByteArray) = s := by
    unfold Lib.trimPrefix
    rw [h1, h0, if_pos rfl]
    rfl
  exact ⟨by rw [h1, h2], rfl⟩

set_option maxRecDepth 10000 in
theorem hasx_no (s : ByteArray) (w : World) (hx : Lib.hasPrefix s.data.toList [48, 120] = false) :
    Calls Tryz.prog 23 #[.string s, .string ⟨#[48, 120]⟩] w fun e w' => e = .returned (.bool false) ∧ w = w' := by
  refine (Tryz.strings_HasPrefix s ⟨#[48, 120]⟩ w).mono ?_
  rintro e w' ⟨rfl, rfl⟩
  exact ⟨by rw [show Lib.hasPrefix s.data.toList (ByteArray.mk #[48, 120]).data.toList = false from hx], rfl⟩

set_option maxHeartbeats 2000000 in
theorem read_plain (s : ByteArray) (w : World) (v : Nat)
    (h1 : (s.toList == [110, 97, 110]) = false) (h2 : (s.toList == [105, 110, 102]) = false) (h3 : (s.toList == [45, 105, 110, 102]) = false)
    (hp : Hid (Lib.hasPrefix s.data.toList [45] = false)) (hx : Hid (Lib.hasPrefix s.data.toList [48, 120] = false))
    (hdec : Hid (∀ w, Calls Tryz.prog 24 #[.string s] w fun e w' => ∃ r, e = .returned (.tuple #[.float .f64 r, .bool true]) ∧ r < 2 ^ 64 ∧ nb r = v ∧ Below w.heap.size w w')) :
    Calls Tryz.prog 7 #[.string s] w fun e w' => ∃ r, e = .returned (.tuple #[.float .f64 r, .bool true]) ∧ r < 2 ^ 64 ∧ nb r = v ∧ Below w.heap.size w w' := by
  go_enter Tryz.func7, Tryz.ntmps7
  go_wp2_with fail
  refine (cutp_no s _ hp.out).mono ?_
  rintro e w1 ⟨rfl, rfl⟩
  go_wp2_with fail
  refine (hasx_no s _ hx.out).mono ?_
  rintro e w1 ⟨rfl, rfl⟩
  go_wp2_with fail
  refine (hdec.out _).mono ?_
  rintro e w1 ⟨r, rfl, hr, hn, hb⟩
  have HR : Hid (r < 2 ^ 64) := hr
  have HN : Hid (nb r = v) := hn
  have HB : Hid (Below w.heap.size w w1) := hb
  clear hr hn hb
  go_wp2_with (go_at_call 25; refine (signed_no _ _).mono ?_; rintro e w2 ⟨rfl, rfl⟩)
  go_ret2
  exact ⟨r, rfl, HR.out, HN.out, HB.out⟩

set_option maxHeartbeats 2000000 in
theorem read_minus (s t : ByteArray) (w : World) (v : Nat) (ht : Hid (t.data.toList = 45 :: s.data.toList))
    (h1 : (t.toList == [110, 97, 110]) = false) (h2 : (t.toList == [105, 110, 102]) = false) (h3 : (t.toList == [45, 105, 110, 102]) = false)
    (hx : Hid (Lib.hasPrefix s.data.toList [48, 120] = false))
    (hdec : Hid (∀ w, Calls Tryz.prog 24 #[.string s] w fun e w' => ∃ r, e = .returned (.tuple #[.float .f64 r, .bool true]) ∧ r < 2 ^ 64 ∧ nb r = v ∧ Below w.heap.size w w')) :
    Calls Tryz.prog 7 #[.string t] w fun e w' => ∃ r, e = .returned (.tuple #[.float .f64 (r % 2 ^ 63 + 2 ^ 63), .bool true]) ∧ r < 2 ^ 64 ∧ nb r = v ∧ Below w.heap.size w w' := by
  have hcp := cutp_yes s t w ht.out
  go_enter Tryz.func7, Tryz.ntmps7
  go_wp2_with fail
  refine hcp.mono ?_
  rintro e w1 ⟨rfl, rfl⟩
  go_wp2_with fail
  refine (hasx_no s _ hx.out).mono ?_
  rintro e w1 ⟨rfl, rfl⟩
  go_wp2_with fail
  refine (hdec.out _).mono ?_
  rintro e w1 ⟨r, rfl, hr, hn, hb⟩
  have HR : Hid (r < 2 ^ 64) := hr
  have HN : Hid (nb r = v) := hn
  have HB : Hid (Below w.heap.size w w1) := hb
  clear hr hn hb hcp
  have hsg := fun w => signed_yes r w HR.out
  obtain ⟨z, hz⟩ : ∃ z : Nat, r % 2 ^ 63 + 2 ^ 63 = z := ⟨_, rfl⟩
  have HZ : Hid (r % 2 ^ 63 + 2 ^ 63 = z) := hz
  rw [hz] at hsg
  clear hz
  go_wp2_with (go_at_call 25; refine (hsg _).mono ?_; rintro e w2 ⟨rfl, rfl⟩)
  go_ret2
  exact ⟨r, by rw [HZ.out]; rfl, HR.out, HN.out, HB.out⟩

end Go.Proofs.YtieldmakbokekaaGreatDoor.Oct
