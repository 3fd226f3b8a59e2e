/-
  real.Read of a decimal text.
-/
import Derived.Test.YtieldmakbokekaaGreatDoorCt
import Derived.Test.YtieldmakbokekaaGreatDoorRf
namespace Go.Proofs.YtieldmakbokekaaGreatDoor.Oct
open Go.RowKit
open Go.Proofs.YtieldmakbokekaaGreatDoor.Fl

theorem copysign_any (a : Nat) (w : World) (h : a < 2 ^ 64) : Calls Tryz.prog 30 #[.float .f64 a, .float .f64 13830554455654793216] w fun e w' => e = .returned (.float .f64 (a % 2 ^ 63 + 2 ^ 63)) ∧ w = w' := by
  have hf := run_f64bits a w
  have hf2 := run_f64bits 13830554455654793216 w
  have hg := fun n => run_f64from n w
  have h1 := andNot_top a h
  have h2 : bits .and .u64 13830554455654793216 9223372036854775808 = 9223372036854775808 := by decide
  have h3 := or_top (a % 2 ^ 63) (by omega)
  generalize a % 2 ^ 63 = y at *
  obtain ⟨z, hz⟩ : ∃ z : Nat, y + 2 ^ 63 = z := ⟨_, rfl⟩
  rw [hz] at h3 ⊢
  clear hz h
  go_enter Tryz.func30, Tryz.ntmps30
  go_wp2
  go_ret
  exact ⟨rfl, rfl⟩

theorem signed_no (a : Nat) (w : World) : Calls Tryz.prog 25 #[.float .f64 a, .bool false] w fun e w' => e = .returned (.float .f64 a) ∧ w = w' := by
  go_enter Tryz.func25, Tryz.ntmps25
  go_wp2
  go_ret
  exact ⟨rfl, rfl⟩

theorem signed_yes (a : Nat) (w : World) (h : a < 2 ^ 64) : Calls Tryz.prog 25 #[.float .f64 a, .bool true] w fun e w' => e = .returned (.float .f64 (a % 2 ^ 63 + 2 ^ 63)) ∧ w = w' := by
  have hc := fun w => copysign_any a w h
  generalize a % 2 ^ 63 + 2 ^ 63 = z at *
  clear h
  go_enter Tryz.func25, Tryz.ntmps25
  go_wp2_with (go_at_call 30; refine (hc _).mono ?_; rintro e w' ⟨rfl, rfl⟩)
  go_ret
  exact ⟨rfl, rfl⟩

set_option maxRecDepth 10000 in
theorem cutp_no (s : ByteArray) (w : World) (hp : Lib.hasPrefix s.data.toList [45] = false) :
    Calls Tryz.prog 22 #[.string s, .string ⟨#[45]⟩] w fun e w' => e = .returned (.tuple #[.string s, .bool false]) ∧ w = w' := by
  refine (Tryz.strings_CutPrefix s ⟨#[45]⟩ w).mono ?_
  rintro e w' ⟨rfl, rfl⟩
  have h1 : Lib.hasPrefix s.data.toList (ByteArray.mk #[45]).data.toList = false := hp
  have h2 : (⟨(Lib.trimPrefix s.data.toList (ByteArray.mk #[45]).data.toList).toArray⟩ : ByteArray) = s := by
    unfold Lib.trimPrefix
    rw [h1, if_neg (by decide)]
  exact ⟨by rw [h1, h2], rfl⟩

theorem cutp_yes (s t : ByteArray) (w : World) (h0 : t.data.toList = 45 :: s.data.toList) :
    Calls Tryz.prog 22 #[.string t, .string ⟨#[45]⟩] w fun e w' => e = .returned (.tuple #[.string s, .bool true]) ∧ w = w' := by
  refine (Tryz.strings_CutPrefix t ⟨#[45]⟩ w).mono ?_
  rintro e w' ⟨rfl, rfl⟩
  have h1 : Lib.hasPrefix t.data.toList (ByteArray.mk #[45]).data.toList = true := by
    rw [h0]; unfold Lib.hasPrefix; simp [List.isPrefixOf]
  have h2 : (⟨(Lib.trimPrefix t.data.toList (ByteArray.mk #[45]).data.toList).toArray⟩ : ByteArray) = s := by
    unfold Lib.trimPrefix
    rw [h1, h0, if_pos rfl]
    rfl
  exact ⟨by rw [h1, h2], rfl⟩

set_option maxRecDepth 10000 in
theorem hasx_no (s : ByteArray) (w : World) (hx : Lib.hasPrefix s.data.toList [48, 120] = false) :
    Calls Tryz.prog 23 #[.string s, .string ⟨#[48, 120]⟩] w fun e w' => e = .returned (.bool false) ∧ w = w' := by
  refine (Tryz.strings_HasPrefix s ⟨#[48, 120]⟩ w).mono ?_
  rintro e w' ⟨rfl, rfl⟩
  exact ⟨by rw [show Lib.hasPrefix s.data.toList (ByteArray.mk #[48, 120]).data.toList = false from hx], rfl⟩

set_option maxHeartbeats 2000000 in
theorem read_plain (s : ByteArray) (w : World) (v : Nat)
    (h1 : (s.toList == [110, 97, 110]) = false) (h2 : (s.toList == [105, 110, 102]) = false) (h3 : (s.toList == [45, 105, 110, 102]) = false)
    (hp : Hid (Lib.hasPrefix s.data.toList [45] = false)) (hx : Hid (Lib.hasPrefix s.data.toList [48, 120] = false))
    (hdec : Hid (∀ w, Calls Tryz.prog 24 #[.string s] w fun e w' => ∃ r, e = .returned (.tuple #[.float .f64 r, .bool true]) ∧ r < 2 ^ 64 ∧ nb r = v ∧ Below w.heap.size w w')) :
    Calls Tryz.prog 7 #[.string s] w fun e w' => ∃ r, e = .returned (.tuple #[.float .f64 r, .bool true]) ∧ r < 2 ^ 64 ∧ nb r = v ∧ Below w.heap.size w w' := by
  go_enter Tryz.func7, Tryz.ntmps7
  go_wp2_with fail
  refine (cutp_no s _ hp.out).mono ?_
  rintro e w1 ⟨rfl, rfl⟩
  go_wp2_with fail
  refine (hasx_no s _ hx.out).mono ?_
  rintro e w1 ⟨rfl, rfl⟩
  go_wp2_with fail
  refine (hdec.out _).mono ?_
  rintro e w1 ⟨r, rfl, hr, hn, hb⟩
  have HR : Hid (r < 2 ^ 64) := hr
  have HN : Hid (nb r = v) := hn
  have HB : Hid (Below w.heap.size w w1) := hb
  clear hr hn hb
  go_wp2_with (go_at_call 25; refine (signed_no _ _).mono ?_; rintro e w2 ⟨rfl, rfl⟩)
  go_ret2
  exact ⟨r, rfl, HR.out, HN.out, HB.out⟩

set_option maxHeartbeats 2000000 in
theorem read_minus (s t : ByteArray) (w : World) (v : Nat) (ht : Hid (t.data.toList = 45 :: s.data.toList))
    (h1 : (t.toList == [110, 97, 110]) = false) (h2 : (t.toList == [105, 110, 102]) = false) (h3 : (t.toList == [45, 105, 110, 102]) = false)
    (hx : Hid (Lib.hasPrefix s.data.toList [48, 120] = false))
    (hdec : Hid (∀ w, Calls Tryz.prog 24 #[.string s] w fun e w' => ∃ r, e = .returned (.tuple #[.float .f64 r, .bool true]) ∧ r < 2 ^ 64 ∧ nb r = v ∧ Below w.heap.size w w')) :
    Calls Tryz.prog 7 #[.string t] w fun e w' => ∃ r, e = .returned (.tuple #[.float .f64 (r % 2 ^ 63 + 2 ^ 63), .bool true]) ∧ r < 2 ^ 64 ∧ nb r = v ∧ Below w.heap.size w w' := by
  have hcp := cutp_yes s t w ht.out
  go_enter Tryz.func7, Tryz.ntmps7
  go_wp2_with fail
  refine hcp.mono ?_
  rintro e w1 ⟨rfl, rfl⟩
  go_wp2_with fail
  refine (hasx_no s _ hx.out).mono ?_
  rintro e w1 ⟨rfl, rfl⟩
  go_wp2_with fail
  refine (hdec.out _).mono ?_
  rintro e w1 ⟨r, rfl, hr, hn, hb⟩
  have HR : Hid (r < 2 ^ 64) := hr
  have HN : Hid (nb r = v) := hn
  have HB : Hid (Below w.heap.size w w1) := hb
  clear hr hn hb hcp
  have hsg := fun w => signed_yes r w HR.out
  obtain ⟨z, hz⟩ : ∃ z : Nat, r % 2 ^ 63 + 2 ^ 63 = z := ⟨_, rfl⟩
  have HZ : Hid (r % 2 ^ 63 + 2 ^ 63 = z) := hz
  rw [hz] at hsg
  clear hz
  go_wp2_with (go_at_call 25; refine (hsg _).mono ?_; rintro e w2 ⟨rfl, rfl⟩)
  go_ret2
  exact ⟨r, by rw [HZ.out]; rfl, HR.out, HN.out, HB.out⟩

end Go.Proofs.YtieldmakbokekaaGreatDoor.Oct

/-
  real.decimal of any text.
-/
namespace Go.Proofs.YtieldmakbokekaaGreatDoor.Oct
open Go.RowKit
open Go.Proofs.YtieldmakbokekaaGreatDoor.Fl

set_option maxHeartbeats 2000000 in
set_option maxRecDepth 100000 in
theorem decimal_long (s a b : ByteArray) (pt : Bool) (w : World)
    (hcut : Hid (∀ w, Calls Tryz.prog 44 #[.string s, .string ⟨#[46]⟩] w fun e w' => e = .returned (.tuple #[.string a, .string b, .bool pt]) ∧ Below w.heap.size w w'))
    (hl : (15 : Int) < (a.size : Int) + (b.size : Int)) (hs : (a.size : Int) + (b.size : Int) < 4611686018427387904) :
    Calls Tryz.prog 24 #[.string s] w fun e w' => e = .returned (.tuple #[.float .f64 0, .bool false]) ∧ Below w.heap.size w w' := by
  have hq : decide ((15 : Int) < (a.size : Int) + (b.size : Int)) = true := decide_eq_true hl
  go_enter Tryz.func24, Tryz.ntmps24
  go_wp2_with fail
  refine (hcut.out _).mono ?_
  rintro e w1 ⟨rfl, hb1⟩
  have B1 : Hid (Below w.heap.size w w1) := hb1
  clear hb1
  go_wp2
  go_ret2
  exact ⟨rfl, B1.out⟩

set_option maxHeartbeats 2000000 in
set_option maxRecDepth 100000 in
theorem decimal_badA (s a b : ByteArray) (pt : Bool) (w : World)
    (hcut : Hid (∀ w, Calls Tryz.prog 44 #[.string s, .string ⟨#[46]⟩] w fun e w' => e = .returned (.tuple #[.string a, .string b, .bool pt]) ∧ Below w.heap.size w w'))
    (hl : (a.size : Int) + (b.size : Int) ≤ 15) (ha : Hid ((dgs (bts a) && !a.toList.isEmpty) = false)) :
    Calls Tryz.prog 24 #[.string s] w fun e w' => e = .returned (.tuple #[.float .f64 0, .bool false]) ∧ Below w.heap.size w w' := by
  have hla : Hid (a.size ≤ 15) := by unfold Hid; omega
  have hq : decide ((15 : Int) < (a.size : Int) + (b.size : Int)) = false := decide_eq_false (by omega)
  go_enter Tryz.func24, Tryz.ntmps24
  go_wp2_with fail
  refine (hcut.out _).mono ?_
  rintro e w1 ⟨rfl, hb1⟩
  have B1 : Hid (Below w.heap.size w w1) := hb1
  clear hb1
  go_wp2_with fail
  refine (isDigits_any a _ hla.out).mono ?_
  rw [ha.out]
  rintro e w2 ⟨rfl, hb1⟩
  have B2 : Hid (Below w.heap.size w w2) := B1.out.trans (hb1.mono B1.out.size)
  clear hb1
  go_wp2
  go_ret2
  exact ⟨rfl, B2.out⟩

set_option maxHeartbeats 2000000 in
set_option maxRecDepth 100000 in
theorem decimal_badB (s a b : ByteArray) (w : World)
    (hcut : Hid (∀ w, Calls Tryz.prog 44 #[.string s, .string ⟨#[46]⟩] w fun e w' => e = .returned (.tuple #[.string a, .string b, .bool true]) ∧ Below w.heap.size w w'))
    (hl : (a.size : Int) + (b.size : Int) ≤ 15) (ha : Hid ((dgs (bts a) && !a.toList.isEmpty) = true)) (hb : Hid ((dgs (bts b) && !b.toList.isEmpty) = false)) :
    Calls Tryz.prog 24 #[.string s] w fun e w' => e = .returned (.tuple #[.float .f64 0, .bool false]) ∧ Below w.heap.size w w' := by
  have hla : Hid (a.size ≤ 15) := by unfold Hid; omega
  have hlb : Hid (b.size ≤ 15) := by unfold Hid; omega
  have hq : decide ((15 : Int) < (a.size : Int) + (b.size : Int)) = false := decide_eq_false (by omega)
  go_enter Tryz.func24, Tryz.ntmps24
  go_wp2_with fail
  refine (hcut.out _).mono ?_
  rintro e w1 ⟨rfl, hb1⟩
  have B1 : Hid (Below w.heap.size w w1) := hb1
  clear hb1
  go_wp2_with fail
  refine (isDigits_any a _ hla.out).mono ?_
  rw [ha.out]
  rintro e w2 ⟨rfl, hb1⟩
  have B2 : Hid (Below w.heap.size w w2) := B1.out.trans (hb1.mono B1.out.size)
  clear hb1
  go_wp2_with fail
  refine (isDigits_any b _ hlb.out).mono ?_
  rw [hb.out]
  rintro e w3 ⟨rfl, hb1⟩
  have B3 : Hid (Below w.heap.size w w3) := B2.out.trans (hb1.mono B2.out.size)
  clear hb1
  go_wp2
  go_ret2
  exact ⟨rfl, B3.out⟩

set_option maxHeartbeats 2000000 in
set_option maxRecDepth 100000 in
theorem decimal_zero (s a b : ByteArray) (w : World)
    (hcut : Hid (∀ w, Calls Tryz.prog 44 #[.string s, .string ⟨#[46]⟩] w fun e w' => e = .returned (.tuple #[.string a, .string b, .bool true]) ∧ Below w.heap.size w w'))
    (hl : (a.size : Int) + (b.size : Int) ≤ 15) (ha : Hid ((dgs (bts a) && !a.toList.isEmpty) = true)) (hb : Hid ((dgs (bts b) && !b.toList.isEmpty) = true))
    (hz : (1 : Int) < (a.size : Int)) (hix : ∀ W, (Instr.index 9 (.string a) (.int .i64 0)).run Tryz.prog W = .ok (.int .u8 48) W) :
    Calls Tryz.prog 24 #[.string s] w fun e w' => e = .returned (.tuple #[.float .f64 0, .bool false]) ∧ Below w.heap.size w w' := by
  have hla : Hid (a.size ≤ 15) := by unfold Hid; omega
  have hlb : Hid (b.size ≤ 15) := by unfold Hid; omega
  have hq : decide ((15 : Int) < (a.size : Int) + (b.size : Int)) = false := decide_eq_false (by omega)
  go_enter Tryz.func24, Tryz.ntmps24
  go_wp2_with fail
  refine (hcut.out _).mono ?_
  rintro e w1 ⟨rfl, hb1⟩
  have B1 : Hid (Below w.heap.size w w1) := hb1
  clear hb1
  go_wp2_with fail
  refine (isDigits_any a _ hla.out).mono ?_
  rw [ha.out]
  rintro e w2 ⟨rfl, hb1⟩
  have B2 : Hid (Below w.heap.size w w2) := B1.out.trans (hb1.mono B1.out.size)
  clear hb1
  go_wp2_with fail
  refine (isDigits_any b _ hlb.out).mono ?_
  rw [hb.out]
  rintro e w3 ⟨rfl, hb1⟩
  have B3 : Hid (Below w.heap.size w w3) := B2.out.trans (hb1.mono B2.out.size)
  clear hb1
  go_wp2
  go_ret2
  exact ⟨rfl, B3.out⟩

set_option maxHeartbeats 2000000 in
set_option maxRecDepth 100000 in
theorem decimal_zero_no (s a b : ByteArray) (w : World)
    (hcut : Hid (∀ w, Calls Tryz.prog 44 #[.string s, .string ⟨#[46]⟩] w fun e w' => e = .returned (.tuple #[.string a, .string b, .bool false]) ∧ Below w.heap.size w w'))
    (hl : (a.size : Int) + (b.size : Int) ≤ 15) (ha : Hid ((dgs (bts a) && !a.toList.isEmpty) = true))
    (hz : (1 : Int) < (a.size : Int)) (hix : ∀ W, (Instr.index 9 (.string a) (.int .i64 0)).run Tryz.prog W = .ok (.int .u8 48) W) :
    Calls Tryz.prog 24 #[.string s] w fun e w' => e = .returned (.tuple #[.float .f64 0, .bool false]) ∧ Below w.heap.size w w' := by
  have hla : Hid (a.size ≤ 15) := by unfold Hid; omega
  have hq : decide ((15 : Int) < (a.size : Int) + (b.size : Int)) = false := decide_eq_false (by omega)
  go_enter Tryz.func24, Tryz.ntmps24
  go_wp2_with fail
  refine (hcut.out _).mono ?_
  rintro e w1 ⟨rfl, hb1⟩
  have B1 : Hid (Below w.heap.size w w1) := hb1
  clear hb1
  go_wp2_with fail
  refine (isDigits_any a _ hla.out).mono ?_
  rw [ha.out]
  rintro e w2 ⟨rfl, hb1⟩
  have B2 : Hid (Below w.heap.size w w2) := B1.out.trans (hb1.mono B1.out.size)
  clear hb1
  go_wp2
  go_ret2
  exact ⟨rfl, B2.out⟩

end Go.Proofs.YtieldmakbokekaaGreatDoor.Oct

/-
  real.decimal of any text, whole; real.Read of a text with digits and points alone.
-/
namespace Go.Proofs.YtieldmakbokekaaGreatDoor.Oct
open Go.RowKit
open Go.Proofs.YtieldmakbokekaaGreatDoor.Fl

theorem ix_both (c : UInt8) : ∀ l : List UInt8, (0 ≤ Lib.indexByte l c → l.contains c = true ∧ l.takeWhile (· != c) = l.take (Lib.indexByte l c).toNat ∧ (l.dropWhile (· != c)).drop 1 = l.drop (Lib.indexByte l c + 1).toNat)
    ∧ (¬ 0 ≤ Lib.indexByte l c → l.contains c = false ∧ l.takeWhile (· != c) = l ∧ l.dropWhile (· != c) = [])
  | [] => ⟨fun h => by simp [Lib.indexByte] at h, fun _ => ⟨rfl, rfl, rfl⟩⟩
  | b :: l => by
    have ih := ix_both c l
    have hge := Lib.indexByte_ge l c
    unfold Lib.indexByte
    rw [List.takeWhile_cons, List.dropWhile_cons, List.contains_cons]
    by_cases hb : b = c
    · subst hb
      simp
    · have h1 : (b == c) = false := by simpa using hb
      have h2 : (b != c) = true := by simpa using hb
      have h3 : (c == b) = false := by simpa using fun h => hb h.symm
      rw [h1, h2, h3]
      simp only [Bool.false_eq_true, if_false, if_true, Bool.false_or]
      by_cases hm : Lib.indexByte l c = -1
      · rw [hm] at ih ⊢
        have := ih.2 (by omega)
        refine ⟨fun h => by simp at h, fun _ => ⟨this.1, by rw [this.2.1], this.2.2⟩⟩
      · rw [show (Lib.indexByte l c == -1) = false by simpa using hm]
        simp only [Bool.false_eq_true, if_false]
        have := ih.1 (by omega)
        refine ⟨fun _ => ⟨this.1, ?_, ?_⟩, fun h => absurd (by omega) h⟩
        · rw [this.2.1, show (Lib.indexByte l c + 1).toNat = (Lib.indexByte l c).toNat + 1 by omega, List.take_succ_cons]
        · rw [this.2.2, show (Lib.indexByte l c + 1 + 1).toNat = (Lib.indexByte l c + 1).toNat + 1 by omega, List.drop_succ_cons]

theorem ba_eq {a b : ByteArray} (h : a.data.toList = b.data.toList) : a = b := by
  rw [← Lib.mk_data a, ← Lib.mk_data b, h]

theorem cutA_eq (l : List UInt8) : cutA ⟨l.toArray⟩ = ⟨(dA l).toArray⟩ := by
  have h := ix_both 46 l
  refine ba_eq ?_
  unfold cutA ptAt
  show _ = dA l
  unfold dA
  by_cases h0 : 0 ≤ Lib.indexByte l 46
  · rw [if_pos h0, (h.1 h0).2.1]
    simp
  · rw [if_neg h0, (h.2 h0).2.1]

theorem cutB_eq (l : List UInt8) : cutB ⟨l.toArray⟩ = ⟨(dB l).toArray⟩ := by
  have h := ix_both 46 l
  refine ba_eq ?_
  unfold cutB ptAt
  show _ = dB l
  unfold dB
  by_cases h0 : 0 ≤ Lib.indexByte l 46
  · rw [if_pos h0, (h.1 h0).2.2]
    rw [Lib.extract_to_end]
  · rw [if_neg h0, (h.2 h0).2.2]; rfl

theorem ptAt_eq (l : List UInt8) : decide (0 ≤ ptAt ⟨l.toArray⟩) = l.contains 46 := by
  have h := ix_both 46 l
  show decide (0 ≤ Lib.indexByte l 46) = _
  by_cases h0 : 0 ≤ Lib.indexByte l 46
  · rw [(h.1 h0).1, decide_eq_true h0]
  · rw [(h.2 h0).1, decide_eq_false h0]

theorem cut_list (l : List UInt8) (hs : l.length ≤ 2 ^ 62) : Hid (∀ w, Calls Tryz.prog 44 #[.string ⟨l.toArray⟩, .string ⟨#[46]⟩] w fun e w' => e = .returned (.tuple #[.string ⟨(dA l).toArray⟩, .string ⟨(dB l).toArray⟩, .bool (l.contains 46)]) ∧ Below w.heap.size w w') := by
  intro w
  have := cut_any ⟨l.toArray⟩ w (by simpa [ByteArray.size] using hs)
  rw [cutA_eq, cutB_eq, ptAt_eq] at this
  exact this

theorem bts_mk (m : List UInt8) : bts ⟨m.toArray⟩ = m.map UInt8.toNat := rfl
theorem tl_mk (m : List UInt8) : (⟨m.toArray⟩ : ByteArray).toList = m := by rw [ByteArray.toList_eq]
theorem sz_mk (m : List UInt8) : (⟨m.toArray⟩ : ByteArray).size = m.length := rfl
theorem dgs_mk (m : List UInt8) : dgs (bts ⟨m.toArray⟩) = m.all dgU := by
  rw [bts_mk]; unfold dgs; rw [List.all_map]; rfl
theorem app_mk (m k : List UInt8) : (⟨m.toArray⟩ : ByteArray) ++ (⟨k.toArray⟩ : ByteArray) = ⟨(m ++ k).toArray⟩ := by
  refine ba_eq ?_
  simp [ByteArray.data_append]

theorem index_mk (c : UInt8) (m : List UInt8) (W : World) : (Instr.index 9 (.string ⟨(c :: m).toArray⟩) (.int .i64 0)).run Tryz.prog W = .ok (.int .u8 (c.toNat : Int)) W := by
  rw [run_index_string _ 9 _ .i64 0 Tryz.underlying9]
  rw [dif_pos ⟨by omega, by rw [sz_mk]; simp⟩]
  rfl

theorem dA_le (l : List UInt8) : (dA l).length + (dB l).length ≤ l.length := by
  have h := congrArg List.length (List.takeWhile_append_dropWhile (p := (· != (46 : UInt8))) (l := l))
  rw [List.length_append] at h
  unfold dA dB
  rw [List.length_drop]
  omega

theorem quo_eq (x y : Nat) : nb (quo2 x y) = opN .quo x y := rfl

set_option maxHeartbeats 1000000 in
theorem decimal_any (l : List UInt8) (w : World) (hs : l.length ≤ 2 ^ 61) :
    Calls Tryz.prog 24 #[.string ⟨l.toArray⟩] w fun e w' => (∃ r, e = .returned (.tuple #[.float .f64 r, .bool (dOk l)]) ∧ r < 2 ^ 64 ∧ (dOk l = true → nb r = dV l) ∧ (dOk l = false → r = 0)) ∧ Below w.heap.size w w' := by
  have hcut := cut_list l (by omega)
  have hle := dA_le l
  have bad : (dOk l = false) → (Calls Tryz.prog 24 #[.string ⟨l.toArray⟩] w fun e w' => e = .returned (.tuple #[.float .f64 0, .bool false]) ∧ Below w.heap.size w w') → (Calls Tryz.prog 24 #[.string ⟨l.toArray⟩] w fun e w' => (∃ r, e = .returned (.tuple #[.float .f64 r, .bool (dOk l)]) ∧ r < 2 ^ 64 ∧ (dOk l = true → nb r = dV l) ∧ (dOk l = false → r = 0)) ∧ Below w.heap.size w w') := by
    intro h hc
    refine hc.mono ?_
    rintro e w' ⟨rfl, hb⟩
    rw [h]
    exact ⟨⟨0, rfl, by omega, (fun h => by cases h), fun _ => rfl⟩, hb⟩
  have good : (dOk l = true) → (Calls Tryz.prog 24 #[.string ⟨l.toArray⟩] w fun e w' => ∃ r, e = .returned (.tuple #[.float .f64 r, .bool true]) ∧ r < 2 ^ 64 ∧ nb r = dV l ∧ Below w.heap.size w w') → (Calls Tryz.prog 24 #[.string ⟨l.toArray⟩] w fun e w' => (∃ r, e = .returned (.tuple #[.float .f64 r, .bool (dOk l)]) ∧ r < 2 ^ 64 ∧ (dOk l = true → nb r = dV l) ∧ (dOk l = false → r = 0)) ∧ Below w.heap.size w w') := by
    intro h hc
    refine hc.mono ?_
    rintro e w' ⟨r, rfl, hr, hn, hb⟩
    rw [h]
    exact ⟨⟨r, rfl, hr, fun _ => hn, fun h => by cases h⟩, hb⟩
  by_cases h15 : 15 < (dA l).length + (dB l).length
  · refine bad ?_ (decimal_long _ _ _ _ w hcut (by rw [sz_mk, sz_mk]; omega) (by rw [sz_mk, sz_mk]; omega))
    unfold dOk; rw [decide_eq_false (by omega)]; rfl
  have hl15 : (((⟨(dA l).toArray⟩ : ByteArray).size : Nat) : Int) + (((⟨(dB l).toArray⟩ : ByteArray).size : Nat) : Int) ≤ 15 := by rw [sz_mk, sz_mk]; omega
  by_cases hA : (!(dA l).isEmpty && (dA l).all dgU) = true
  case neg =>
    rw [Bool.not_eq_true] at hA
    refine bad ?_ (decimal_badA _ _ _ _ w hcut hl15 ?_)
    · unfold dOk; rw [hA]; simp
    · unfold Hid; rw [dgs_mk, tl_mk, Bool.and_comm]; exact hA
  have hA' : Hid ((dgs (bts ⟨(dA l).toArray⟩) && !(⟨(dA l).toArray⟩ : ByteArray).toList.isEmpty) = true) := by
    unfold Hid; rw [dgs_mk, tl_mk, Bool.and_comm]; exact hA
  have hA1 : (dA l).all dgU = true := by simp at hA; simpa using hA.2
  have hA2 : (dA l).isEmpty = false := by simp at hA; simpa using hA.1
  have z10 : (10 ^ (dB l).length : Nat) = 10 ^ (⟨(dB l).toArray⟩ : ByteArray).size := rfl
  have hnum : num (bts (⟨(dA l).toArray⟩ ++ ⟨(dB l).toArray⟩)) ((⟨(dA l).toArray⟩ : ByteArray) ++ ⟨(dB l).toArray⟩).size = num ((dA l ++ dB l).map UInt8.toNat) (dA l ++ dB l).length := by
    rw [app_mk, bts_mk, sz_mk]
  obtain ⟨c, m, hcm⟩ : ∃ c m, dA l = c :: m := by
    cases h : dA l with
    | nil => rw [h] at hA2; cases hA2
    | cons c m => exact ⟨c, m, rfl⟩
  by_cases hp : l.contains 46 = true
  · rw [hp] at hcut
    by_cases hB : (!(dB l).isEmpty && (dB l).all dgU) = true
    case neg =>
      rw [Bool.not_eq_true] at hB
      refine bad ?_ (decimal_badB _ _ _ w hcut hl15 hA' ?_)
      · unfold dOk; rw [hB, hp]; simp
      · unfold Hid; rw [dgs_mk, tl_mk, Bool.and_comm]; exact hB
    have hB' : Hid ((dgs (bts ⟨(dB l).toArray⟩) && !(⟨(dB l).toArray⟩ : ByteArray).toList.isEmpty) = true) := by
      unfold Hid; rw [dgs_mk, tl_mk, Bool.and_comm]; exact hB
    have hB1 : (dB l).all dgU = true := by simp at hB; simpa using hB.2
    have hB2 : (dB l).isEmpty = false := by simp at hB; simpa using hB.1
    have hab : Hid (dgs (bts (⟨(dA l).toArray⟩ ++ ⟨(dB l).toArray⟩)) = true) := by unfold Hid; rw [app_mk, dgs_mk, List.all_append, hA1, hB1]; rfl
    by_cases h1 : 1 < (dA l).length
    · have hi : (1 : Int) < ((⟨(dA l).toArray⟩ : ByteArray).size : Int) := by rw [sz_mk]; omega
      by_cases h48 : c = 48
      · refine bad ?_ (decimal_zero _ _ _ w hcut hl15 hA' hB' hi (fun W => ?_))
        · unfold dOk; rw [decide_eq_true h1, hcm, h48]; simp
        · rw [hcm, h48]; exact index_mk 48 m W
      · refine good ?_ (decimal_pt2 _ _ _ w _ _ hcut hl15 (by unfold Hid; rw [dgs_mk]; exact hA1) (by unfold Hid; rw [tl_mk]; exact hA2) (by unfold Hid; rw [dgs_mk]; exact hB1) (by unfold Hid; rw [tl_mk]; exact hB2) hab hnum z10.symm hi (c.toNat : Int) (fun W => ?_) ?_)
        · unfold dOk; rw [hA, hB, hp, decide_eq_true h1, decide_eq_true (by omega : (dA l).length + (dB l).length ≤ 15), hcm]; simp [h48]
        · rw [hcm]; exact index_mk c m W
        · have : c.toNat ≠ 48 := fun h => h48 (UInt8.toNat_inj.1 h)
          simp; omega
    · have hi : decide ((1 : Int) < ((⟨(dA l).toArray⟩ : ByteArray).size : Int)) = false := by rw [sz_mk]; exact decide_eq_false (by omega)
      refine good ?_ (decimal_pt _ _ _ w _ _ hcut hl15 (by unfold Hid; rw [dgs_mk]; exact hA1) (by unfold Hid; rw [tl_mk]; exact hA2) (by unfold Hid; rw [dgs_mk]; exact hB1) (by unfold Hid; rw [tl_mk]; exact hB2) hab hnum z10.symm hi)
      unfold dOk; rw [hA, hB, hp, decide_eq_false h1, decide_eq_true (by omega : (dA l).length + (dB l).length ≤ 15)]; simp
  · rw [Bool.not_eq_true] at hp
    rw [hp] at hcut
    have hdb : dB l = [] := by
      have h := ix_both 46 l
      by_cases h0 : 0 ≤ Lib.indexByte l 46
      · rw [(h.1 h0).1] at hp; cases hp
      · unfold dB; rw [(h.2 h0).2.2]; rfl
    have hab : Hid (dgs (bts (⟨(dA l).toArray⟩ ++ ⟨(dB l).toArray⟩)) = true) := by unfold Hid; rw [app_mk, dgs_mk, List.all_append, hA1, hdb]; rfl
    by_cases h1 : 1 < (dA l).length
    · have hi : (1 : Int) < ((⟨(dA l).toArray⟩ : ByteArray).size : Int) := by rw [sz_mk]; omega
      by_cases h48 : c = 48
      · refine bad ?_ (decimal_zero_no _ _ _ w hcut hl15 hA' hi (fun W => ?_))
        · unfold dOk; rw [decide_eq_true h1, hcm, h48]; simp
        · rw [hcm, h48]; exact index_mk 48 m W
      · refine good ?_ (decimal_no2 _ _ _ w _ _ hcut hl15 (by unfold Hid; rw [dgs_mk]; exact hA1) (by unfold Hid; rw [tl_mk]; exact hA2) hab hnum z10.symm hi (c.toNat : Int) (fun W => ?_) ?_)
        · unfold dOk; rw [hA, hp, decide_eq_true h1, decide_eq_true (by omega : (dA l).length + (dB l).length ≤ 15), hcm]; simp [h48]
        · rw [hcm]; exact index_mk c m W
        · have : c.toNat ≠ 48 := fun h => h48 (UInt8.toNat_inj.1 h)
          simp; omega
    · have hi : decide ((1 : Int) < ((⟨(dA l).toArray⟩ : ByteArray).size : Int)) = false := by rw [sz_mk]; exact decide_eq_false (by omega)
      refine good ?_ (decimal_no _ _ _ w _ _ hcut hl15 (by unfold Hid; rw [dgs_mk]; exact hA1) (by unfold Hid; rw [tl_mk]; exact hA2) hab hnum z10.symm hi)
      unfold dOk; rw [hA, hp, decide_eq_false h1, decide_eq_true (by omega : (dA l).length + (dB l).length ≤ 15)]; simp

end Go.Proofs.YtieldmakbokekaaGreatDoor.Oct
