/-
  internal/strconv's atof64, strconv's ParseFloat, real's shown: at texts that begin with 0x or -0x they return.
-/
import Derived.Test.YtieldmakbokekaaGreatDoorWb
import Derived.Test.YtieldmakbokekaaGreatDoorWd
import Derived.Test.YtieldmakbokekaaGreatDoorShelfB
namespace Go.Proofs.YtieldmakbokekaaGreatDoor.Oct
open Go.RowKit
open Go.Proofs.YtieldmakbokekaaGreatDoor.Fl

/-- What the two variables hold. -/
def Er (w : World) : Prop := (∃ e1, w.cell? ⟨3, 0, none⟩ = some e1 ∧ (e1 = .nilIface ∨ ∃ te pe, e1 = .iface te pe)) ∧ ∃ e2, w.cell? ⟨4, 0, none⟩ = some e2 ∧ (e2 = .nilIface ∨ ∃ te pe, e2 = .iface te pe)
theorem Er.below {w w' : World} (h : Er w) (k : Below w.heap.size w w') : Er w' := by
  obtain ⟨⟨e1, h1, k1⟩, e2, h2, k2⟩ := h
  exact ⟨⟨e1, (k.cell (p := ⟨3, 0, none⟩) (block_lt_of_cell h1)).trans h1, k1⟩, e2, (k.cell (p := ⟨4, 0, none⟩) (block_lt_of_cell h2)).trans h2, k2⟩

theorem ext_size (s : ByteArray) (k : Nat) (h : k ≤ s.size) : (s.extract 0 k).size = k := by
  rw [ByteArray.size_extract]
  omega
theorem ext_byt (s : ByteArray) (k j : Nat) (hj : j < k) : byt (s.extract 0 k) j = byt s j := by
  unfold byt
  have : (s.extract 0 k).data.toList.getD j 0 = s.data.toList.getD j 0 := by
    rw [ByteArray.data_extract]
    simp [List.getD_eq_getElem?_getD, hj]
  rw [this]

/-- What atof64 answers. -/
def RetA (s : ByteArray) (e : Ending) : Prop := ∃ (r : Nat) (n : Nat) (v : Value), e = .returned (.tuple #[.float .f64 r, .int .i64 (n : Int), v]) ∧ r < 2 ^ 64 ∧ n ≤ s.size ∧ (v = .nilIface ∨ v = .iface 90 (.int .i64 1) ∨ v = .iface 90 (.int .i64 2))

set_option maxHeartbeats 1000000 in
set_option maxRecDepth 100000 in
theorem special_0 (s : ByteArray) (w : World) (hs : (1 : Int) ≤ (s.size : Int)) (_hse : ¬ s = ByteArray.empty)
    (i0 : ∀ W, (Instr.index 9 (.string s) (.int .i64 0)).run Tryz.prog W = .ok (.int .u8 48) W) :
    Calls Tryz.prog 103 #[.string s] w fun e w' => e = .returned (.tuple #[.float .f64 0, .int .i64 0, .bool false]) ∧ w = w' := by
  go_enter Tryz.func103, Tryz.ntmps103
  go_wp2_with fail
  exact bodyPost_ret (results_tmp3 rfl _ _ _) rfl ⟨rfl, rfl⟩

set_option maxHeartbeats 1000000 in
set_option maxRecDepth 100000 in
theorem special_m (s t : ByteArray) (w : World) (hs : (2 : Int) ≤ (s.size : Int)) (hm : (s.size : Int) ≤ 140737488355328) (_hse : ¬ s = ByteArray.empty)
    (i0 : ∀ W, (Instr.index 9 (.string s) (.int .i64 0)).run Tryz.prog W = .ok (.int .u8 45) W)
    (hsl : ∀ W, (Instr.slice 9 (.string s) (some (.int .i64 1)) none none).run Tryz.prog W = .ok (.string t) W)
    (hts : (1 : Int) ≤ (t.size : Int)) (htm : (t.size : Int) ≤ 140737488355328)
    (it : ∀ W, (Instr.index 9 (.string t) (.int .i64 0)).run Tryz.prog W = .ok (.int .u8 48) W) :
    Calls Tryz.prog 103 #[.string s] w fun e w' => e = .returned (.tuple #[.float .f64 0, .int .i64 0, .bool false]) ∧ w = w' := by
  have c := cpl_no t w hts (by omega) it
  clear it
  go_enter Tryz.func103, Tryz.ntmps103
  go_wp2_with fail
  refine c.mono ?_
  clear c
  rintro e w' ⟨rfl, rfl⟩
  go_wp2_with fail
  exact bodyPost_ret (results_tmp3 rfl _ _ _) rfl ⟨rfl, rfl⟩

set_option maxHeartbeats 2000000 in
set_option maxRecDepth 100000 in
/-- atof64, whatever readFloat says of a text in hex. -/
theorem atof_of (s : ByteArray) (w : World) (neg : Bool) (hF : Fi w) (_hm : (s.size : Int) ≤ 140737488355328)
    (c1 : Calls Tryz.prog 103 #[.string s] w fun e w' => e = .returned (.tuple #[.float .f64 0, .int .i64 0, .bool false]) ∧ w = w')
    (c2 : Calls Tryz.prog 104 #[.string s] w fun e w' => RetF s neg e ∧ w = w') :
    Calls Tryz.prog 95 #[.string s] w fun e w' => RetA s e ∧ Below w.heap.size w w' := by
  have HF : Hid (Fi w) := hF
  clear hF
  go_enter Tryz.func95, Tryz.ntmps95
  go_wp2_with fail
  refine c1.mono ?_
  clear c1
  rintro e w1 ⟨rfl, rfl⟩
  go_wp2_with fail
  refine c2.mono ?_
  clear c2
  rintro e w1 ⟨⟨M, z, tr, ok, n, rfl, hM0, hM1, hn⟩, rfl⟩
  have HN : Hid (n ≤ s.size) := hn
  cases ok
  · go_wp2_with fail
    refine bodyPost_ret (results_tmp3 rfl _ _ _) rfl ⟨?_, Below.refl _ _⟩
    exact ⟨0, n, _, rfl, by decide, HN.out, .inr (.inr rfl)⟩
  · have hn' : (n : Int) ≤ (s.size : Int) := by omega
    obtain ⟨m, rfl⟩ := Int.eq_ofNat_of_zero_le hM0
    have HC : Hid _ := hexf_tot (s.extract 0 n) m z neg tr w HF.out (by omega)
    clear hM0 hM1 hn
    go_wp2_with fail
    refine (Calls.mono HC.out) ?_
    rintro e w1 ⟨⟨r, v, rfl, hr, hv⟩, hb⟩
    have HR : Hid (r < 2 ^ 64) := hr
    have HB : Hid (Below w.heap.size w w1) := hb
    clear hr hb HC
    rcases hv with rfl | rfl
    · go_wp2_with fail
      refine bodyPost_ret (results_tmp3 rfl _ _ _) rfl ⟨?_, HB.out⟩
      exact ⟨r, n, _, rfl, HR.out, HN.out, .inl rfl⟩
    · go_wp2_with fail
      refine bodyPost_ret (results_tmp3 rfl _ _ _) rfl ⟨?_, HB.out⟩
      exact ⟨r, n, _, rfl, HR.out, HN.out, .inr (.inl rfl)⟩

set_option maxHeartbeats 1000000 in
set_option maxRecDepth 100000 in
theorem prefix_tot (s : ByteArray) (w : World) (c : Calls Tryz.prog 95 #[.string s] w fun e w' => RetA s e ∧ Below w.heap.size w w') :
    Calls Tryz.prog 80 #[.string s, .int .i64 64] w fun e w' => RetA s e ∧ Below w.heap.size w w' := by
  go_enter Tryz.func80, Tryz.ntmps80
  go_wp2_with fail
  refine c.mono ?_
  clear c
  rintro e w1 ⟨⟨r, n, v, rfl, hr, hn, hv⟩, hb⟩
  have HB : Hid (Below w.heap.size w w1) := hb
  have HR : Hid (r < 2 ^ 64) := hr
  have HN : Hid (n ≤ s.size) := hn
  clear hb hr hn
  rcases hv with rfl | rfl | rfl
  · go_wp2
    refine bodyPost_ret (results_tmp3 rfl _ _ _) rfl ⟨?_, HB.out⟩
    exact ⟨r, n, _, rfl, HR.out, HN.out, .inl rfl⟩
  · go_wp2
    refine bodyPost_ret (results_tmp3 rfl _ _ _) rfl ⟨?_, HB.out⟩
    exact ⟨r, n, _, rfl, HR.out, HN.out, .inr (.inl rfl)⟩
  · go_wp2
    refine bodyPost_ret (results_tmp3 rfl _ _ _) rfl ⟨?_, HB.out⟩
    exact ⟨r, n, _, rfl, HR.out, HN.out, .inr (.inr rfl)⟩

/-- What the inner ParseFloat answers. -/
def RetP (e : Ending) : Prop := ∃ (r : Nat) (v : Value), e = .returned (.tuple #[.float .f64 r, v]) ∧ r < 2 ^ 64 ∧ (v = .nilIface ∨ v = .iface 90 (.int .i64 1) ∨ v = .iface 90 (.int .i64 2))

set_option maxHeartbeats 1000000 in
set_option maxRecDepth 100000 in
theorem parsei_tot (s : ByteArray) (w : World) (_hm : (s.size : Int) ≤ 140737488355328) (c : Calls Tryz.prog 95 #[.string s] w fun e w' => RetA s e ∧ Below w.heap.size w w') :
    Calls Tryz.prog 67 #[.string s, .int .i64 64] w fun e w' => RetP e ∧ Below w.heap.size w w' := by
  have c1 := prefix_tot s w c
  clear c
  go_enter Tryz.func67, Tryz.ntmps67
  go_wp2_with fail
  refine c1.mono ?_
  clear c1
  rintro e w1 ⟨⟨r, n, v, rfl, hr, hn, hv⟩, hb⟩
  have HB : Hid (Below w.heap.size w w1) := hb
  have HR : Hid (r < 2 ^ 64) := hr
  clear hb hr hn
  cases hne : ((n : Int) != (s.size : Int))
  · rcases hv with rfl | rfl | rfl
    · go_wp2
      go_ret2
      exact ⟨⟨r, _, rfl, HR.out, .inl rfl⟩, HB.out⟩
    · go_wp2
      go_ret2
      exact ⟨⟨r, _, rfl, HR.out, .inr (.inl rfl)⟩, HB.out⟩
    · go_wp2
      go_ret2
      exact ⟨⟨r, _, rfl, HR.out, .inr (.inr rfl)⟩, HB.out⟩
  · rcases hv with rfl | rfl | rfl
    all_goals
      go_wp2
      go_ret2
      exact ⟨⟨0, _, rfl, by decide, .inr (.inr rfl)⟩, HB.out⟩

/-- What strconv's ParseFloat answers. -/
def RetQ (e : Ending) : Prop := ∃ (r : Nat) (v : Value), e = .returned (.tuple #[.float .f64 r, v]) ∧ r < 2 ^ 64 ∧ (v = .nilIface ∨ ∃ N, v = .iface 91 (.pointer (some ⟨N, 0, none⟩)))

set_option maxHeartbeats 1000000 in
set_option maxRecDepth 100000 in
theorem parse_tot (s : ByteArray) (w : World) (hE : Er w) (hm : (s.size : Int) ≤ 140737488355328) (c : Calls Tryz.prog 95 #[.string s] w fun e w' => RetA s e ∧ Below w.heap.size w w') :
    Calls Tryz.prog 48 #[.string s, .int .i64 64] w fun e w' => RetQ e ∧ Below w.heap.size w w' := by
  have c1 := parsei_tot s w hm c
  have HE : Hid (Er w) := hE
  clear c hE
  go_enter Tryz.func48, Tryz.ntmps48
  go_wp2_with fail
  refine c1.mono ?_
  clear c1
  rintro e w1 ⟨⟨r, v, rfl, hr, hv⟩, hb⟩
  have HB : Hid (Below w.heap.size w w1) := hb
  have HR : Hid (r < 2 ^ 64) := hr
  clear hr hb
  rcases hv with rfl | rfl | rfl
  · go_wp2
    go_ret2
    exact ⟨⟨r, _, rfl, HR.out, .inl rfl⟩, HB.out⟩
  · obtain ⟨_, ev, hv, hev⟩ := HE.out.below HB.out
    have HT : Hid _ := Tryz.strconv_toError_range ⟨#[80, 97, 114, 115, 101, 70, 108, 111, 97, 116]⟩ s 0 64 ev w1 (by omega) hv hev
    clear hv hev
    go_wp2_with fail
    refine (Calls.mono HT.out) ?_
    rintro e w2 ⟨N, rfl, _, _, hb2⟩
    have HB2 : Hid (Below w.heap.size w w2) := HB.out.trans (hb2.mono HB.out.size)
    clear hb2
    go_wp2
    go_ret2
    exact ⟨⟨r, _, rfl, HR.out, .inr ⟨N, rfl⟩⟩, HB2.out⟩
  · obtain ⟨⟨ev, hv, hev⟩, _⟩ := HE.out.below HB.out
    have HT : Hid _ := Tryz.strconv_toError_syntax ⟨#[80, 97, 114, 115, 101, 70, 108, 111, 97, 116]⟩ s 0 64 ev w1 (by omega) hv hev
    clear hv hev
    go_wp2_with fail
    refine (Calls.mono HT.out) ?_
    rintro e w2 ⟨N, rfl, _, _, hb2⟩
    have HB2 : Hid (Below w.heap.size w w2) := HB.out.trans (hb2.mono HB.out.size)
    clear hb2
    go_wp2
    go_ret2
    exact ⟨⟨r, _, rfl, HR.out, .inr ⟨N, rfl⟩⟩, HB2.out⟩

set_option maxHeartbeats 1000000 in
set_option maxRecDepth 100000 in
/-- shown at a text that Show never says. -/
theorem shown_tot (s : ByteArray) (w : World) (hE : Er w) (hm : (s.size : Int) ≤ 140737488355328) (c : Calls Tryz.prog 95 #[.string s] w fun e w' => RetA s e ∧ Below w.heap.size w w')
    (hsh : ∀ r w1, r < 2 ^ 64 → Below w.heap.size w w1 → Calls Tryz.prog 6 #[.float .f64 r] w1 fun e w' => ∃ t, e = .returned (.string t) ∧ (t.toList == s.toList) = false ∧ Below w1.heap.size w1 w') :
    Calls Tryz.prog 26 #[.string s] w fun e w' => e = .returned (.tuple #[.float .f64 0, .bool false]) ∧ Below w.heap.size w w' := by
  have c1 := parse_tot s w hE hm c
  have HS : Hid _ := hsh
  clear c hsh hE
  go_enter Tryz.func26, Tryz.ntmps26
  go_wp2_with fail
  refine c1.mono ?_
  clear c1
  rintro e w1 ⟨⟨r, v, rfl, hr, hv⟩, hb⟩
  have HB : Hid (Below w.heap.size w w1) := hb
  have HSH : Hid _ := HS.out r w1 hr hb
  clear hb hr
  rcases hv with rfl | ⟨N, rfl⟩
  · go_wp2_with fail
    refine (Calls.mono HSH.out) ?_
    rintro e w2 ⟨t, rfl, hne, hb⟩
    have HB2 : Hid (Below w.heap.size w w2) := HB.out.trans (hb.mono HB.out.size)
    clear hb HSH HS
    go_wp2
    go_ret2
    exact ⟨rfl, HB2.out⟩
  · go_wp2
    go_ret2
    exact ⟨rfl, HB.out⟩
end Go.Proofs.YtieldmakbokekaaGreatDoor.Oct
