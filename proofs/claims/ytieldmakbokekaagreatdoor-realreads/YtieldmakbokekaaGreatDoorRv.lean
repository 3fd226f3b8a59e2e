/-
  The document's Show, walked.
-/
import Derived.Test.YtieldmakbokekaaGreatDoorRt
namespace Go.Proofs.YtieldmakbokekaaGreatDoor.Oct
open Go.RowKit
open Go.Proofs.YtieldmakbokekaaGreatDoor.Fl
set_option linter.unusedVariables false

def szOf : Value → Nat
  | .string s => s.size
  | _ => 0

theorem dec_size (n : Nat) (h : n ≤ 2000) : (⟨(Lib.decDigits n).toArray⟩ : ByteArray).size ≤ 22 := by
  have := hxe_size (n : Int) (by omega) (by omega)
  unfold hxe Lib.itoa at this
  rw [if_neg (by omega), if_neg (by omega), ByteArray.size_append, Int.toNat_natCast] at this
  omega

theorem Xp.or {x a E f M : Nat} (hX : Xp x a E f) (hM : Mn f M) : bits .or .u64 (f : Int) 4503599627370496 = (M : Int) := by
  obtain ⟨M', h1, h2⟩ := hX.mn
  rw [h2, ← h1.1, hM.1]

set_option maxRecDepth 100000 in
set_option maxHeartbeats 4000000 in
theorem rlow_neg (x a E F M0  : Nat) (Z : Int) (w : World) (hX : Xp x a E F) (hM0 : Mn F M0) (hsg : ((x : Int) / 9223372036854775808 == 1) = true) (h0 : ¬ (E : Int) = 0) (hk : (E : Int) - 1023 = Z) (hS : Sf a F Z) (hZ : Z < 0) :
    Calls Tryz.prog 8 #[.float .f64 x] w fun e w' => e = .returned (.string (⟨#[45]⟩ ++ hxs a)) ∧ Below w.heap.size w w' := by
  obtain ⟨sg, hsgn⟩ : ∃ sg : ByteArray, (⟨#[45]⟩ : ByteArray) = sg := ⟨_, rfl⟩
  have HSG : Hid (sg.data.toList = [45]) := by rw [← hsgn]; rfl
  rw [hsgn]
  clear hsgn
  have hs := ne_self x
  rw [decide_eq_false hX.nan] at hs
  have hb := rbits_any x w
  rw [nb_num hX.nan] at hb
  have a2 := hX.frac
  have hxl : x < 18446744073709551616 := hX.lt
  have a3 := hX.and
  have hE2 : E < 2047 := by have := hX.ea; have := hX.num; omega
  have hord := hX.ord
  have a4 : bits .or .u64 (F : Int) 4503599627370496 = (M0 : Int) := hX.or hM0
  have hq := hM0.q
  obtain ⟨r0, HR0, g0⟩ : ∃ r0 : Nat, Hid (r0 = rs F 0) ∧ IntKind.u64.wrap ((M0 : Int) * 4096) = (r0 : Int) := ⟨_, rfl, hM0.r⟩
  have HS : Hid (Sf a F Z) := hS
  obtain ⟨n, hn⟩ : ∃ n : Nat, -Z = (n : Int) := ⟨(-Z).toNat, by omega⟩
  have HN : Hid ((Z < 0 ∧ -Z = (n : Int)) ∧ n ≤ 2000) := ⟨⟨hZ, hn⟩, by omega⟩
  clear hX hM0 hS
  go_enter Tryz.func8, Tryz.ntmps8
  go_wp2_with fail
  refine hb.mono ?_
  rintro e w' ⟨rfl, rfl⟩
  clear hb
  go_wp2_with fail
  clear a2 a3 a4 hsg hxl hord hs
  go_loop [5, 6] (fun y z => y = .int .i64 (E : Int) ∧ z = .int .u64 (M0 : Int)) (fun _ _ => 0)
  case atStart => exact ⟨rfl, rfl⟩
  case round =>
    obtain ⟨rfl, rfl⟩ := hrel
    by_cases hz : r0 = 0
    · subst hz
      go_wp2_with fail
      go_loopw [7, 8] (fun y z wr => ∃ (o : ByteArray), y = .string o ∧ z = .int .u64 0 ∧ Hid (o.data.toList = [45, 48, 120, 49]) ∧ o.size ≤ 20 ∧ Hid (Below w.heap.size w wr)) (fun _ _ _ => 0)
      case atStart => exact ⟨_, rfl, rfl, (rfl : _ = _), by decide, Below.refl _ w⟩
      case round =>
        obtain ⟨o, rfl, rfl, HO, ho, HB⟩ := hrel
        have HRES : Hid (o ++ ⟨#[112, 45]⟩ ++ ⟨(Lib.decDigits n).toArray⟩ = sg ++ hxs a) := (hxs_is (n := n) (t := 0) (o := o) (sg := sg) HS.out (by omega) HR0.out.symm (fun h => absurd h (by omega)) (by rw [HO.out, HSG.out]; rfl)).1 HN.out.1.1 HN.out.1.2
        have hd := dec_any n wr (by have := HN.out.2; omega)
        obtain ⟨ds, hds⟩ : ∃ ds, (⟨(Lib.decDigits n).toArray⟩ : ByteArray) = ds := ⟨_, rfl⟩
        have hdl : ds.size ≤ 22 := by rw [← hds]; exact dec_size n (by have := HN.out.2; omega)
        rw [hds] at hd
        have HDS : Hid ((⟨(Lib.decDigits n).toArray⟩ : ByteArray) = ds) := hds
        clear hds
        go_wp2_with fail
        refine hd.mono ?_
        clear hd
        rintro e w2 ⟨rfl, hb⟩
        have HB2 : Hid (Below w.heap.size w w2) := HB.out.trans (hb.mono HB.out.size)
        clear hb
        have c1 := run_cat o ⟨#[112, 45]⟩ w2 (by have : (⟨#[112, 45]⟩ : ByteArray).size = 2 := rfl; omega)
        have c2 := run_cat (o ++ ⟨#[112, 45]⟩) ds w2 (by have : (⟨#[112, 45]⟩ : ByteArray).size = 2 := rfl; rw [ByteArray.size_append]; omega)
        have HSS : Hid (o ++ ⟨#[112, 45]⟩ ++ ds = sg ++ hxs a) := by rw [← HDS.out]; exact HRES.out
        go_wp2
        go_ret
        exact ⟨by show Ending.returned (Value.string (o ++ ⟨#[112, 45]⟩ ++ ds)) = _; rw [HSS.out], HB2.out⟩
    · have hz' : ¬ (r0 : Int) = 0 := by omega
      go_wp2_with fail
      go_loopw [7, 8] (fun y z wr => ∃ (t q : Nat) (o : ByteArray), y = .string o ∧ z = .int .u64 (q : Int) ∧ Hid (t ≤ 13 ∧ q = rs F t ∧ o.data.toList = [45, 48, 120, 49, 46] ++ (xl F).take t ∧ (0 < t → q = 0 → xd F (t - 1) ≠ 0) ∧ o.size = 5 + t) ∧ o.size ≤ 20 ∧ Hid (Below w.heap.size w wr)) (fun y _ _ => 40 - szOf y)
      case atStart => exact ⟨0, r0, _, rfl, rfl, ⟨by omega, HR0.out, by simp [ByteArray.data_append], fun h => absurd h (by omega), rfl⟩, by decide, Below.refl _ w⟩
      case round =>
        obtain ⟨t, q, o, rfl, rfl, HT, ho, HB⟩ := hrel
        by_cases hq0 : q = 0
        · have HRES : Hid (o ++ ⟨#[112, 45]⟩ ++ ⟨(Lib.decDigits n).toArray⟩ = sg ++ hxs a) := by
            have h0 : t ≠ 0 := by
              rintro rfl
              apply hz
              rw [HR0.out, ← HT.out.2.1, hq0]
            refine (hxs_is (n := n) (t := t) (o := o) (sg := sg) HS.out HT.out.1 (by rw [← HT.out.2.1, hq0]) (fun h => HT.out.2.2.2.1 h hq0) (by rw [HT.out.2.2.1, HSG.out, if_neg h0]; simp)).1 HN.out.1.1 HN.out.1.2
          subst hq0
          have hd := dec_any n wr (by have := HN.out.2; omega)
          obtain ⟨ds, hds⟩ : ∃ ds, (⟨(Lib.decDigits n).toArray⟩ : ByteArray) = ds := ⟨_, rfl⟩
          have hdl : ds.size ≤ 22 := by rw [← hds]; exact dec_size n (by have := HN.out.2; omega)
          rw [hds] at hd
          have HDS : Hid ((⟨(Lib.decDigits n).toArray⟩ : ByteArray) = ds) := hds
          clear hds
          go_wp2_with fail
          refine hd.mono ?_
          clear hd
          rintro e w2 ⟨rfl, hb⟩
          have HB2 : Hid (Below w.heap.size w w2) := HB.out.trans (hb.mono HB.out.size)
          clear hb
          have c1 := run_cat o ⟨#[112, 45]⟩ w2 (by have : (⟨#[112, 45]⟩ : ByteArray).size = 2 := rfl; omega)
          have c2 := run_cat (o ++ ⟨#[112, 45]⟩) ds w2 (by have : (⟨#[112, 45]⟩ : ByteArray).size = 2 := rfl; rw [ByteArray.size_append]; omega)
          have HSS : Hid (o ++ ⟨#[112, 45]⟩ ++ ds = sg ++ hxs a) := by rw [← HDS.out]; exact HRES.out
          go_wp2
          go_ret
          exact ⟨by show Ending.returned (Value.string (o ++ ⟨#[112, 45]⟩ ++ ds)) = _; rw [HSS.out], HB2.out⟩
        · have hq1 : ¬ (q : Int) = 0 := by omega
          obtain ⟨h13, ⟨d, HD, gd⟩, ⟨q', HQ, gq⟩⟩ := dig_at HT.out.1 HT.out.2.1 hq0
          have hi := fun W => idx_hex d HD.out.2 W
          obtain ⟨c, HC, hcv, hcs⟩ := chr_at d wr
          have hadd := run_cat o c (wr.alloc (.cells #[.int .u8 (hxd d : Nat)] 5)) (by omega)
          have HW : Hid (Below w.heap.size w (wr.alloc (.cells #[.int .u8 (hxd d : Nat)] 5))) := HB.out.alloc HB.out.size _
          obtain ⟨D, hD⟩ : ∃ D, hxd d = D := ⟨_, rfl⟩
          rw [hD] at hi hcv hadd HW
          have HDD : Hid (hxd d = D) := hD
          have H13 : Hid (t < 13) := h13
          clear hD h13
          go_wp2
          go_roundw
          case rel =>
            have hc1 : c.size = 1 := by have := HC.out; rw [← ByteArray.size_data, ← Array.length_toList, this]; rfl
            have hos := HT.out.2.2.2.2
            refine ⟨t + 1, q', o ++ c, rfl, rfl, ⟨H13.out, HQ.out, ?_, ?_, ?_⟩, ?_, HW.out⟩
            · have hg := xl_get F t H13.out
              rw [ByteArray.data_append, Array.toList_append, HT.out.2.2.1, HC.out, List.append_assoc, List.take_add_one, hg, HD.out.1]
              rfl
            · intro _ h
              show xd F t ≠ 0
              exact xd_last H13.out (by rw [← HT.out.2.1]; exact hq0) (by rw [← HQ.out]; exact h)
            · rw [ByteArray.size_append]; omega
            · rw [ByteArray.size_append]; have := H13.out; omega
          case measure =>
            have hc1 : c.size = 1 := by have := HC.out; rw [← ByteArray.size_data, ← Array.length_toList, this]; rfl
            have hos := HT.out.2.2.2.2
            simp only [szOf]
            rw [ByteArray.size_append]
            have := H13.out
            omega

set_option maxRecDepth 100000 in
set_option maxHeartbeats 4000000 in
theorem rlow_pos (x a E F M0  : Nat) (Z : Int) (w : World) (hX : Xp x a E F) (hM0 : Mn F M0) (hsg : ((x : Int) / 9223372036854775808 == 1) = false) (h0 : ¬ (E : Int) = 0) (hk : (E : Int) - 1023 = Z) (hS : Sf a F Z) (hZ : Z < 0) :
    Calls Tryz.prog 8 #[.float .f64 x] w fun e w' => e = .returned (.string (⟨#[]⟩ ++ hxs a)) ∧ Below w.heap.size w w' := by
  obtain ⟨sg, hsgn⟩ : ∃ sg : ByteArray, (⟨#[]⟩ : ByteArray) = sg := ⟨_, rfl⟩
  have HSG : Hid (sg.data.toList = []) := by rw [← hsgn]; rfl
  rw [hsgn]
  clear hsgn
  have hs := ne_self x
  rw [decide_eq_false hX.nan] at hs
  have hb := rbits_any x w
  rw [nb_num hX.nan] at hb
  have a2 := hX.frac
  have hxl : x < 18446744073709551616 := hX.lt
  have a3 := hX.and
  have hE2 : E < 2047 := by have := hX.ea; have := hX.num; omega
  have hord := hX.ord
  have a4 : bits .or .u64 (F : Int) 4503599627370496 = (M0 : Int) := hX.or hM0
  have hq := hM0.q
  obtain ⟨r0, HR0, g0⟩ : ∃ r0 : Nat, Hid (r0 = rs F 0) ∧ IntKind.u64.wrap ((M0 : Int) * 4096) = (r0 : Int) := ⟨_, rfl, hM0.r⟩
  have HS : Hid (Sf a F Z) := hS
  obtain ⟨n, hn⟩ : ∃ n : Nat, -Z = (n : Int) := ⟨(-Z).toNat, by omega⟩
  have HN : Hid ((Z < 0 ∧ -Z = (n : Int)) ∧ n ≤ 2000) := ⟨⟨hZ, hn⟩, by omega⟩
  clear hX hM0 hS
  go_enter Tryz.func8, Tryz.ntmps8
  go_wp2_with fail
  refine hb.mono ?_
  rintro e w' ⟨rfl, rfl⟩
  clear hb
  go_wp2_with fail
  clear a2 a3 a4 hsg hxl hord hs
  go_loop [5, 6] (fun y z => y = .int .i64 (E : Int) ∧ z = .int .u64 (M0 : Int)) (fun _ _ => 0)
  case atStart => exact ⟨rfl, rfl⟩
  case round =>
    obtain ⟨rfl, rfl⟩ := hrel
    by_cases hz : r0 = 0
    · subst hz
      go_wp2_with fail
      go_loopw [7, 8] (fun y z wr => ∃ (o : ByteArray), y = .string o ∧ z = .int .u64 0 ∧ Hid (o.data.toList = [48, 120, 49]) ∧ o.size ≤ 20 ∧ Hid (Below w.heap.size w wr)) (fun _ _ _ => 0)
      case atStart => exact ⟨_, rfl, rfl, (rfl : _ = _), by decide, Below.refl _ w⟩
      case round =>
        obtain ⟨o, rfl, rfl, HO, ho, HB⟩ := hrel
        have HRES : Hid (o ++ ⟨#[112, 45]⟩ ++ ⟨(Lib.decDigits n).toArray⟩ = sg ++ hxs a) := (hxs_is (n := n) (t := 0) (o := o) (sg := sg) HS.out (by omega) HR0.out.symm (fun h => absurd h (by omega)) (by rw [HO.out, HSG.out]; rfl)).1 HN.out.1.1 HN.out.1.2
        have hd := dec_any n wr (by have := HN.out.2; omega)
        obtain ⟨ds, hds⟩ : ∃ ds, (⟨(Lib.decDigits n).toArray⟩ : ByteArray) = ds := ⟨_, rfl⟩
        have hdl : ds.size ≤ 22 := by rw [← hds]; exact dec_size n (by have := HN.out.2; omega)
        rw [hds] at hd
        have HDS : Hid ((⟨(Lib.decDigits n).toArray⟩ : ByteArray) = ds) := hds
        clear hds
        go_wp2_with fail
        refine hd.mono ?_
        clear hd
        rintro e w2 ⟨rfl, hb⟩
        have HB2 : Hid (Below w.heap.size w w2) := HB.out.trans (hb.mono HB.out.size)
        clear hb
        have c1 := run_cat o ⟨#[112, 45]⟩ w2 (by have : (⟨#[112, 45]⟩ : ByteArray).size = 2 := rfl; omega)
        have c2 := run_cat (o ++ ⟨#[112, 45]⟩) ds w2 (by have : (⟨#[112, 45]⟩ : ByteArray).size = 2 := rfl; rw [ByteArray.size_append]; omega)
        have HSS : Hid (o ++ ⟨#[112, 45]⟩ ++ ds = sg ++ hxs a) := by rw [← HDS.out]; exact HRES.out
        go_wp2
        go_ret
        exact ⟨by show Ending.returned (Value.string (o ++ ⟨#[112, 45]⟩ ++ ds)) = _; rw [HSS.out], HB2.out⟩
    · have hz' : ¬ (r0 : Int) = 0 := by omega
      go_wp2_with fail
      go_loopw [7, 8] (fun y z wr => ∃ (t q : Nat) (o : ByteArray), y = .string o ∧ z = .int .u64 (q : Int) ∧ Hid (t ≤ 13 ∧ q = rs F t ∧ o.data.toList = [48, 120, 49, 46] ++ (xl F).take t ∧ (0 < t → q = 0 → xd F (t - 1) ≠ 0) ∧ o.size = 4 + t) ∧ o.size ≤ 20 ∧ Hid (Below w.heap.size w wr)) (fun y _ _ => 40 - szOf y)
      case atStart => exact ⟨0, r0, _, rfl, rfl, ⟨by omega, HR0.out, by simp [ByteArray.data_append], fun h => absurd h (by omega), rfl⟩, by decide, Below.refl _ w⟩
      case round =>
        obtain ⟨t, q, o, rfl, rfl, HT, ho, HB⟩ := hrel
        by_cases hq0 : q = 0
        · have HRES : Hid (o ++ ⟨#[112, 45]⟩ ++ ⟨(Lib.decDigits n).toArray⟩ = sg ++ hxs a) := by
            have h0 : t ≠ 0 := by
              rintro rfl
              apply hz
              rw [HR0.out, ← HT.out.2.1, hq0]
            refine (hxs_is (n := n) (t := t) (o := o) (sg := sg) HS.out HT.out.1 (by rw [← HT.out.2.1, hq0]) (fun h => HT.out.2.2.2.1 h hq0) (by rw [HT.out.2.2.1, HSG.out, if_neg h0]; simp)).1 HN.out.1.1 HN.out.1.2
          subst hq0
          have hd := dec_any n wr (by have := HN.out.2; omega)
          obtain ⟨ds, hds⟩ : ∃ ds, (⟨(Lib.decDigits n).toArray⟩ : ByteArray) = ds := ⟨_, rfl⟩
          have hdl : ds.size ≤ 22 := by rw [← hds]; exact dec_size n (by have := HN.out.2; omega)
          rw [hds] at hd
          have HDS : Hid ((⟨(Lib.decDigits n).toArray⟩ : ByteArray) = ds) := hds
          clear hds
          go_wp2_with fail
          refine hd.mono ?_
          clear hd
          rintro e w2 ⟨rfl, hb⟩
          have HB2 : Hid (Below w.heap.size w w2) := HB.out.trans (hb.mono HB.out.size)
          clear hb
          have c1 := run_cat o ⟨#[112, 45]⟩ w2 (by have : (⟨#[112, 45]⟩ : ByteArray).size = 2 := rfl; omega)
          have c2 := run_cat (o ++ ⟨#[112, 45]⟩) ds w2 (by have : (⟨#[112, 45]⟩ : ByteArray).size = 2 := rfl; rw [ByteArray.size_append]; omega)
          have HSS : Hid (o ++ ⟨#[112, 45]⟩ ++ ds = sg ++ hxs a) := by rw [← HDS.out]; exact HRES.out
          go_wp2
          go_ret
          exact ⟨by show Ending.returned (Value.string (o ++ ⟨#[112, 45]⟩ ++ ds)) = _; rw [HSS.out], HB2.out⟩
        · have hq1 : ¬ (q : Int) = 0 := by omega
          obtain ⟨h13, ⟨d, HD, gd⟩, ⟨q', HQ, gq⟩⟩ := dig_at HT.out.1 HT.out.2.1 hq0
          have hi := fun W => idx_hex d HD.out.2 W
          obtain ⟨c, HC, hcv, hcs⟩ := chr_at d wr
          have hadd := run_cat o c (wr.alloc (.cells #[.int .u8 (hxd d : Nat)] 5)) (by omega)
          have HW : Hid (Below w.heap.size w (wr.alloc (.cells #[.int .u8 (hxd d : Nat)] 5))) := HB.out.alloc HB.out.size _
          obtain ⟨D, hD⟩ : ∃ D, hxd d = D := ⟨_, rfl⟩
          rw [hD] at hi hcv hadd HW
          have HDD : Hid (hxd d = D) := hD
          have H13 : Hid (t < 13) := h13
          clear hD h13
          go_wp2
          go_roundw
          case rel =>
            have hc1 : c.size = 1 := by have := HC.out; rw [← ByteArray.size_data, ← Array.length_toList, this]; rfl
            have hos := HT.out.2.2.2.2
            refine ⟨t + 1, q', o ++ c, rfl, rfl, ⟨H13.out, HQ.out, ?_, ?_, ?_⟩, ?_, HW.out⟩
            · have hg := xl_get F t H13.out
              rw [ByteArray.data_append, Array.toList_append, HT.out.2.2.1, HC.out, List.append_assoc, List.take_add_one, hg, HD.out.1]
              rfl
            · intro _ h
              show xd F t ≠ 0
              exact xd_last H13.out (by rw [← HT.out.2.1]; exact hq0) (by rw [← HQ.out]; exact h)
            · rw [ByteArray.size_append]; omega
            · rw [ByteArray.size_append]; have := H13.out; omega
          case measure =>
            have hc1 : c.size = 1 := by have := HC.out; rw [← ByteArray.size_data, ← Array.length_toList, this]; rfl
            have hos := HT.out.2.2.2.2
            simp only [szOf]
            rw [ByteArray.size_append]
            have := H13.out
            omega

set_option maxRecDepth 100000 in
set_option maxHeartbeats 4000000 in
theorem rhigh_neg (x a E F M0 n : Nat)  (w : World) (hX : Xp x a E F) (hM0 : Mn F M0) (hsg : ((x : Int) / 9223372036854775808 == 1) = true) (h0 : ¬ (E : Int) = 0) (hk : (E : Int) - 1023 = (n : Int)) (hS : Sf a F (n : Int)) (hZ : (52 : Int) < n) :
    Calls Tryz.prog 8 #[.float .f64 x] w fun e w' => e = .returned (.string (⟨#[45]⟩ ++ hxs a)) ∧ Below w.heap.size w w' := by
  obtain ⟨sg, hsgn⟩ : ∃ sg : ByteArray, (⟨#[45]⟩ : ByteArray) = sg := ⟨_, rfl⟩
  have HSG : Hid (sg.data.toList = [45]) := by rw [← hsgn]; rfl
  rw [hsgn]
  clear hsgn
  have hs := ne_self x
  rw [decide_eq_false hX.nan] at hs
  have hb := rbits_any x w
  rw [nb_num hX.nan] at hb
  have a2 := hX.frac
  have hxl : x < 18446744073709551616 := hX.lt
  have a3 := hX.and
  have hE2 : E < 2047 := by have := hX.ea; have := hX.num; omega
  have hord := hX.ord
  have a4 : bits .or .u64 (F : Int) 4503599627370496 = (M0 : Int) := hX.or hM0
  have hq := hM0.q
  obtain ⟨r0, HR0, g0⟩ : ∃ r0 : Nat, Hid (r0 = rs F 0) ∧ IntKind.u64.wrap ((M0 : Int) * 4096) = (r0 : Int) := ⟨_, rfl, hM0.r⟩

  obtain ⟨Z, hZn⟩ : ∃ Z : Int, Z = (n : Int) := ⟨_, rfl⟩
  have HN : Hid ((0 ≤ Z ∧ Z = (n : Int)) ∧ n ≤ 2000) := ⟨⟨by omega, hZn⟩, by omega⟩
  have HS : Hid (Sf a F Z) := by rw [hZn]; exact hS
  clear hZn
  have hn0 : (0 : Int) ≤ n := by omega
  clear hX hM0 hS
  go_enter Tryz.func8, Tryz.ntmps8
  go_wp2_with fail
  refine hb.mono ?_
  rintro e w' ⟨rfl, rfl⟩
  clear hb
  go_wp2_with fail
  clear a2 a3 a4 hsg hxl hord hs
  go_loop [5, 6] (fun y z => y = .int .i64 (E : Int) ∧ z = .int .u64 (M0 : Int)) (fun _ _ => 0)
  case atStart => exact ⟨rfl, rfl⟩
  case round =>
    obtain ⟨rfl, rfl⟩ := hrel
    by_cases hz : r0 = 0
    · subst hz
      go_wp2_with fail
      go_loopw [7, 8] (fun y z wr => ∃ (o : ByteArray), y = .string o ∧ z = .int .u64 0 ∧ Hid (o.data.toList = [45, 48, 120, 49]) ∧ o.size ≤ 20 ∧ Hid (Below w.heap.size w wr)) (fun _ _ _ => 0)
      case atStart => exact ⟨_, rfl, rfl, (rfl : _ = _), by decide, Below.refl _ w⟩
      case round =>
        obtain ⟨o, rfl, rfl, HO, ho, HB⟩ := hrel
        have HRES : Hid (o ++ ⟨#[112, 43]⟩ ++ ⟨(Lib.decDigits n).toArray⟩ = sg ++ hxs a) := (hxs_is (n := n) (t := 0) (o := o) (sg := sg) HS.out (by omega) HR0.out.symm (fun h => absurd h (by omega)) (by rw [HO.out, HSG.out]; rfl)).2 HN.out.1.1 HN.out.1.2
        have hd := dec_any n wr (by have := HN.out.2; omega)
        obtain ⟨ds, hds⟩ : ∃ ds, (⟨(Lib.decDigits n).toArray⟩ : ByteArray) = ds := ⟨_, rfl⟩
        have hdl : ds.size ≤ 22 := by rw [← hds]; exact dec_size n (by have := HN.out.2; omega)
        rw [hds] at hd
        have HDS : Hid ((⟨(Lib.decDigits n).toArray⟩ : ByteArray) = ds) := hds
        clear hds
        go_wp2_with fail
        refine hd.mono ?_
        clear hd
        rintro e w2 ⟨rfl, hb⟩
        have HB2 : Hid (Below w.heap.size w w2) := HB.out.trans (hb.mono HB.out.size)
        clear hb
        have c1 := run_cat o ⟨#[112, 43]⟩ w2 (by have : (⟨#[112, 43]⟩ : ByteArray).size = 2 := rfl; omega)
        have c2 := run_cat (o ++ ⟨#[112, 43]⟩) ds w2 (by have : (⟨#[112, 43]⟩ : ByteArray).size = 2 := rfl; rw [ByteArray.size_append]; omega)
        have HSS : Hid (o ++ ⟨#[112, 43]⟩ ++ ds = sg ++ hxs a) := by rw [← HDS.out]; exact HRES.out
        go_wp2
        go_ret
        exact ⟨by show Ending.returned (Value.string (o ++ ⟨#[112, 43]⟩ ++ ds)) = _; rw [HSS.out], HB2.out⟩
    · have hz' : ¬ (r0 : Int) = 0 := by omega
      go_wp2_with fail
      go_loopw [7, 8] (fun y z wr => ∃ (t q : Nat) (o : ByteArray), y = .string o ∧ z = .int .u64 (q : Int) ∧ Hid (t ≤ 13 ∧ q = rs F t ∧ o.data.toList = [45, 48, 120, 49, 46] ++ (xl F).take t ∧ (0 < t → q = 0 → xd F (t - 1) ≠ 0) ∧ o.size = 5 + t) ∧ o.size ≤ 20 ∧ Hid (Below w.heap.size w wr)) (fun y _ _ => 40 - szOf y)
      case atStart => exact ⟨0, r0, _, rfl, rfl, ⟨by omega, HR0.out, by simp [ByteArray.data_append], fun h => absurd h (by omega), rfl⟩, by decide, Below.refl _ w⟩
      case round =>
        obtain ⟨t, q, o, rfl, rfl, HT, ho, HB⟩ := hrel
        by_cases hq0 : q = 0
        · have HRES : Hid (o ++ ⟨#[112, 43]⟩ ++ ⟨(Lib.decDigits n).toArray⟩ = sg ++ hxs a) := by
            have h0 : t ≠ 0 := by
              rintro rfl
              apply hz
              rw [HR0.out, ← HT.out.2.1, hq0]
            refine (hxs_is (n := n) (t := t) (o := o) (sg := sg) HS.out HT.out.1 (by rw [← HT.out.2.1, hq0]) (fun h => HT.out.2.2.2.1 h hq0) (by rw [HT.out.2.2.1, HSG.out, if_neg h0]; simp)).2 HN.out.1.1 HN.out.1.2
          subst hq0
          have hd := dec_any n wr (by have := HN.out.2; omega)
          obtain ⟨ds, hds⟩ : ∃ ds, (⟨(Lib.decDigits n).toArray⟩ : ByteArray) = ds := ⟨_, rfl⟩
          have hdl : ds.size ≤ 22 := by rw [← hds]; exact dec_size n (by have := HN.out.2; omega)
          rw [hds] at hd
          have HDS : Hid ((⟨(Lib.decDigits n).toArray⟩ : ByteArray) = ds) := hds
          clear hds
          go_wp2_with fail
          refine hd.mono ?_
          clear hd
          rintro e w2 ⟨rfl, hb⟩
          have HB2 : Hid (Below w.heap.size w w2) := HB.out.trans (hb.mono HB.out.size)
          clear hb
          have c1 := run_cat o ⟨#[112, 43]⟩ w2 (by have : (⟨#[112, 43]⟩ : ByteArray).size = 2 := rfl; omega)
          have c2 := run_cat (o ++ ⟨#[112, 43]⟩) ds w2 (by have : (⟨#[112, 43]⟩ : ByteArray).size = 2 := rfl; rw [ByteArray.size_append]; omega)
          have HSS : Hid (o ++ ⟨#[112, 43]⟩ ++ ds = sg ++ hxs a) := by rw [← HDS.out]; exact HRES.out
          go_wp2
          go_ret
          exact ⟨by show Ending.returned (Value.string (o ++ ⟨#[112, 43]⟩ ++ ds)) = _; rw [HSS.out], HB2.out⟩
        · have hq1 : ¬ (q : Int) = 0 := by omega
          obtain ⟨h13, ⟨d, HD, gd⟩, ⟨q', HQ, gq⟩⟩ := dig_at HT.out.1 HT.out.2.1 hq0
          have hi := fun W => idx_hex d HD.out.2 W
          obtain ⟨c, HC, hcv, hcs⟩ := chr_at d wr
          have hadd := run_cat o c (wr.alloc (.cells #[.int .u8 (hxd d : Nat)] 5)) (by omega)
          have HW : Hid (Below w.heap.size w (wr.alloc (.cells #[.int .u8 (hxd d : Nat)] 5))) := HB.out.alloc HB.out.size _
          obtain ⟨D, hD⟩ : ∃ D, hxd d = D := ⟨_, rfl⟩
          rw [hD] at hi hcv hadd HW
          have HDD : Hid (hxd d = D) := hD
          have H13 : Hid (t < 13) := h13
          clear hD h13
          go_wp2
          go_roundw
          case rel =>
            have hc1 : c.size = 1 := by have := HC.out; rw [← ByteArray.size_data, ← Array.length_toList, this]; rfl
            have hos := HT.out.2.2.2.2
            refine ⟨t + 1, q', o ++ c, rfl, rfl, ⟨H13.out, HQ.out, ?_, ?_, ?_⟩, ?_, HW.out⟩
            · have hg := xl_get F t H13.out
              rw [ByteArray.data_append, Array.toList_append, HT.out.2.2.1, HC.out, List.append_assoc, List.take_add_one, hg, HD.out.1]
              rfl
            · intro _ h
              show xd F t ≠ 0
              exact xd_last H13.out (by rw [← HT.out.2.1]; exact hq0) (by rw [← HQ.out]; exact h)
            · rw [ByteArray.size_append]; omega
            · rw [ByteArray.size_append]; have := H13.out; omega
          case measure =>
            have hc1 : c.size = 1 := by have := HC.out; rw [← ByteArray.size_data, ← Array.length_toList, this]; rfl
            have hos := HT.out.2.2.2.2
            simp only [szOf]
            rw [ByteArray.size_append]
            have := H13.out
            omega

set_option maxRecDepth 100000 in
set_option maxHeartbeats 4000000 in
theorem rhigh_pos (x a E F M0 n : Nat)  (w : World) (hX : Xp x a E F) (hM0 : Mn F M0) (hsg : ((x : Int) / 9223372036854775808 == 1) = false) (h0 : ¬ (E : Int) = 0) (hk : (E : Int) - 1023 = (n : Int)) (hS : Sf a F (n : Int)) (hZ : (52 : Int) < n) :
    Calls Tryz.prog 8 #[.float .f64 x] w fun e w' => e = .returned (.string (⟨#[]⟩ ++ hxs a)) ∧ Below w.heap.size w w' := by
  obtain ⟨sg, hsgn⟩ : ∃ sg : ByteArray, (⟨#[]⟩ : ByteArray) = sg := ⟨_, rfl⟩
  have HSG : Hid (sg.data.toList = []) := by rw [← hsgn]; rfl
  rw [hsgn]
  clear hsgn
  have hs := ne_self x
  rw [decide_eq_false hX.nan] at hs
  have hb := rbits_any x w
  rw [nb_num hX.nan] at hb
  have a2 := hX.frac
  have hxl : x < 18446744073709551616 := hX.lt
  have a3 := hX.and
  have hE2 : E < 2047 := by have := hX.ea; have := hX.num; omega
  have hord := hX.ord
  have a4 : bits .or .u64 (F : Int) 4503599627370496 = (M0 : Int) := hX.or hM0
  have hq := hM0.q
  obtain ⟨r0, HR0, g0⟩ : ∃ r0 : Nat, Hid (r0 = rs F 0) ∧ IntKind.u64.wrap ((M0 : Int) * 4096) = (r0 : Int) := ⟨_, rfl, hM0.r⟩

  obtain ⟨Z, hZn⟩ : ∃ Z : Int, Z = (n : Int) := ⟨_, rfl⟩
  have HN : Hid ((0 ≤ Z ∧ Z = (n : Int)) ∧ n ≤ 2000) := ⟨⟨by omega, hZn⟩, by omega⟩
  have HS : Hid (Sf a F Z) := by rw [hZn]; exact hS
  clear hZn
  have hn0 : (0 : Int) ≤ n := by omega
  clear hX hM0 hS
  go_enter Tryz.func8, Tryz.ntmps8
  go_wp2_with fail
  refine hb.mono ?_
  rintro e w' ⟨rfl, rfl⟩
  clear hb
  go_wp2_with fail
  clear a2 a3 a4 hsg hxl hord hs
  go_loop [5, 6] (fun y z => y = .int .i64 (E : Int) ∧ z = .int .u64 (M0 : Int)) (fun _ _ => 0)
  case atStart => exact ⟨rfl, rfl⟩
  case round =>
    obtain ⟨rfl, rfl⟩ := hrel
    by_cases hz : r0 = 0
    · subst hz
      go_wp2_with fail
      go_loopw [7, 8] (fun y z wr => ∃ (o : ByteArray), y = .string o ∧ z = .int .u64 0 ∧ Hid (o.data.toList = [48, 120, 49]) ∧ o.size ≤ 20 ∧ Hid (Below w.heap.size w wr)) (fun _ _ _ => 0)
      case atStart => exact ⟨_, rfl, rfl, (rfl : _ = _), by decide, Below.refl _ w⟩
      case round =>
        obtain ⟨o, rfl, rfl, HO, ho, HB⟩ := hrel
        have HRES : Hid (o ++ ⟨#[112, 43]⟩ ++ ⟨(Lib.decDigits n).toArray⟩ = sg ++ hxs a) := (hxs_is (n := n) (t := 0) (o := o) (sg := sg) HS.out (by omega) HR0.out.symm (fun h => absurd h (by omega)) (by rw [HO.out, HSG.out]; rfl)).2 HN.out.1.1 HN.out.1.2
        have hd := dec_any n wr (by have := HN.out.2; omega)
        obtain ⟨ds, hds⟩ : ∃ ds, (⟨(Lib.decDigits n).toArray⟩ : ByteArray) = ds := ⟨_, rfl⟩
        have hdl : ds.size ≤ 22 := by rw [← hds]; exact dec_size n (by have := HN.out.2; omega)
        rw [hds] at hd
        have HDS : Hid ((⟨(Lib.decDigits n).toArray⟩ : ByteArray) = ds) := hds
        clear hds
        go_wp2_with fail
        refine hd.mono ?_
        clear hd
        rintro e w2 ⟨rfl, hb⟩
        have HB2 : Hid (Below w.heap.size w w2) := HB.out.trans (hb.mono HB.out.size)
        clear hb
        have c1 := run_cat o ⟨#[112, 43]⟩ w2 (by have : (⟨#[112, 43]⟩ : ByteArray).size = 2 := rfl; omega)
        have c2 := run_cat (o ++ ⟨#[112, 43]⟩) ds w2 (by have : (⟨#[112, 43]⟩ : ByteArray).size = 2 := rfl; rw [ByteArray.size_append]; omega)
        have HSS : Hid (o ++ ⟨#[112, 43]⟩ ++ ds = sg ++ hxs a) := by rw [← HDS.out]; exact HRES.out
        go_wp2
        go_ret
        exact ⟨by show Ending.returned (Value.string (o ++ ⟨#[112, 43]⟩ ++ ds)) = _; rw [HSS.out], HB2.out⟩
    · have hz' : ¬ (r0 : Int) = 0 := by omega
      go_wp2_with fail
      go_loopw [7, 8] (fun y z wr => ∃ (t q : Nat) (o : ByteArray), y = .string o ∧ z = .int .u64 (q : Int) ∧ Hid (t ≤ 13 ∧ q = rs F t ∧ o.data.toList = [48, 120, 49, 46] ++ (xl F).take t ∧ (0 < t → q = 0 → xd F (t - 1) ≠ 0) ∧ o.size = 4 + t) ∧ o.size ≤ 20 ∧ Hid (Below w.heap.size w wr)) (fun y _ _ => 40 - szOf y)
      case atStart => exact ⟨0, r0, _, rfl, rfl, ⟨by omega, HR0.out, by simp [ByteArray.data_append], fun h => absurd h (by omega), rfl⟩, by decide, Below.refl _ w⟩
      case round =>
        obtain ⟨t, q, o, rfl, rfl, HT, ho, HB⟩ := hrel
        by_cases hq0 : q = 0
        · have HRES : Hid (o ++ ⟨#[112, 43]⟩ ++ ⟨(Lib.decDigits n).toArray⟩ = sg ++ hxs a) := by
            have h0 : t ≠ 0 := by
              rintro rfl
              apply hz
              rw [HR0.out, ← HT.out.2.1, hq0]
            refine (hxs_is (n := n) (t := t) (o := o) (sg := sg) HS.out HT.out.1 (by rw [← HT.out.2.1, hq0]) (fun h => HT.out.2.2.2.1 h hq0) (by rw [HT.out.2.2.1, HSG.out, if_neg h0]; simp)).2 HN.out.1.1 HN.out.1.2
          subst hq0
          have hd := dec_any n wr (by have := HN.out.2; omega)
          obtain ⟨ds, hds⟩ : ∃ ds, (⟨(Lib.decDigits n).toArray⟩ : ByteArray) = ds := ⟨_, rfl⟩
          have hdl : ds.size ≤ 22 := by rw [← hds]; exact dec_size n (by have := HN.out.2; omega)
          rw [hds] at hd
          have HDS : Hid ((⟨(Lib.decDigits n).toArray⟩ : ByteArray) = ds) := hds
          clear hds
          go_wp2_with fail
          refine hd.mono ?_
          clear hd
          rintro e w2 ⟨rfl, hb⟩
          have HB2 : Hid (Below w.heap.size w w2) := HB.out.trans (hb.mono HB.out.size)
          clear hb
          have c1 := run_cat o ⟨#[112, 43]⟩ w2 (by have : (⟨#[112, 43]⟩ : ByteArray).size = 2 := rfl; omega)
          have c2 := run_cat (o ++ ⟨#[112, 43]⟩) ds w2 (by have : (⟨#[112, 43]⟩ : ByteArray).size = 2 := rfl; rw [ByteArray.size_append]; omega)
          have HSS : Hid (o ++ ⟨#[112, 43]⟩ ++ ds = sg ++ hxs a) := by rw [← HDS.out]; exact HRES.out
          go_wp2
          go_ret
          exact ⟨by show Ending.returned (Value.string (o ++ ⟨#[112, 43]⟩ ++ ds)) = _; rw [HSS.out], HB2.out⟩
        · have hq1 : ¬ (q : Int) = 0 := by omega
          obtain ⟨h13, ⟨d, HD, gd⟩, ⟨q', HQ, gq⟩⟩ := dig_at HT.out.1 HT.out.2.1 hq0
          have hi := fun W => idx_hex d HD.out.2 W
          obtain ⟨c, HC, hcv, hcs⟩ := chr_at d wr
          have hadd := run_cat o c (wr.alloc (.cells #[.int .u8 (hxd d : Nat)] 5)) (by omega)
          have HW : Hid (Below w.heap.size w (wr.alloc (.cells #[.int .u8 (hxd d : Nat)] 5))) := HB.out.alloc HB.out.size _
          obtain ⟨D, hD⟩ : ∃ D, hxd d = D := ⟨_, rfl⟩
          rw [hD] at hi hcv hadd HW
          have HDD : Hid (hxd d = D) := hD
          have H13 : Hid (t < 13) := h13
          clear hD h13
          go_wp2
          go_roundw
          case rel =>
            have hc1 : c.size = 1 := by have := HC.out; rw [← ByteArray.size_data, ← Array.length_toList, this]; rfl
            have hos := HT.out.2.2.2.2
            refine ⟨t + 1, q', o ++ c, rfl, rfl, ⟨H13.out, HQ.out, ?_, ?_, ?_⟩, ?_, HW.out⟩
            · have hg := xl_get F t H13.out
              rw [ByteArray.data_append, Array.toList_append, HT.out.2.2.1, HC.out, List.append_assoc, List.take_add_one, hg, HD.out.1]
              rfl
            · intro _ h
              show xd F t ≠ 0
              exact xd_last H13.out (by rw [← HT.out.2.1]; exact hq0) (by rw [← HQ.out]; exact h)
            · rw [ByteArray.size_append]; omega
            · rw [ByteArray.size_append]; have := H13.out; omega
          case measure =>
            have hc1 : c.size = 1 := by have := HC.out; rw [← ByteArray.size_data, ← Array.length_toList, this]; rfl
            have hos := HT.out.2.2.2.2
            simp only [szOf]
            rw [ByteArray.size_append]
            have := H13.out
            omega

set_option maxRecDepth 100000 in
set_option maxHeartbeats 4000000 in
theorem rmidR_neg (x a E F M0 n : Nat)  (w : World) (hX : Xp x a E F) (hM0 : Mn F M0) (hsg : ((x : Int) / 9223372036854775808 == 1) = true) (h0 : ¬ (E : Int) = 0) (hk : (E : Int) - 1023 = (n : Int)) (hS : Sf a F (n : Int)) (hZ : (n : Int) ≤ 52) (R : Int) (g1 : IntKind.u64.wrap ((M0 : Int) * 2 ^ (12 + (n : Int)).toNat) = R) (hR : ¬ R = 0) :
    Calls Tryz.prog 8 #[.float .f64 x] w fun e w' => e = .returned (.string (⟨#[45]⟩ ++ hxs a)) ∧ Below w.heap.size w w' := by
  obtain ⟨sg, hsgn⟩ : ∃ sg : ByteArray, (⟨#[45]⟩ : ByteArray) = sg := ⟨_, rfl⟩
  have HSG : Hid (sg.data.toList = [45]) := by rw [← hsgn]; rfl
  rw [hsgn]
  clear hsgn
  have hs := ne_self x
  rw [decide_eq_false hX.nan] at hs
  have hb := rbits_any x w
  rw [nb_num hX.nan] at hb
  have a2 := hX.frac
  have hxl : x < 18446744073709551616 := hX.lt
  have a3 := hX.and
  have hE2 : E < 2047 := by have := hX.ea; have := hX.num; omega
  have hord := hX.ord
  have a4 : bits .or .u64 (F : Int) 4503599627370496 = (M0 : Int) := hX.or hM0
  have hq := hM0.q
  obtain ⟨r0, HR0, g0⟩ : ∃ r0 : Nat, Hid (r0 = rs F 0) ∧ IntKind.u64.wrap ((M0 : Int) * 4096) = (r0 : Int) := ⟨_, rfl, hM0.r⟩

  obtain ⟨Z, hZn⟩ : ∃ Z : Int, Z = (n : Int) := ⟨_, rfl⟩
  have HN : Hid ((0 ≤ Z ∧ Z = (n : Int)) ∧ n ≤ 2000) := ⟨⟨by omega, hZn⟩, by omega⟩
  have HS : Hid (Sf a F Z) := by rw [hZn]; exact hS
  clear hZn
  have hn0 : (0 : Int) ≤ n := by omega
  clear hX hM0 hS
  go_enter Tryz.func8, Tryz.ntmps8
  go_wp2_with fail
  refine hb.mono ?_
  rintro e w' ⟨rfl, rfl⟩
  clear hb
  go_wp2_with fail
  clear a2 a3 a4 hsg hxl hord hs
  go_loop [5, 6] (fun y z => y = .int .i64 (E : Int) ∧ z = .int .u64 (M0 : Int)) (fun _ _ => 0)
  case atStart => exact ⟨rfl, rfl⟩
  case round =>
    obtain ⟨rfl, rfl⟩ := hrel
    by_cases hz : r0 = 0
    · subst hz
      go_wp2_with fail
      go_loopw [7, 8] (fun y z wr => ∃ (o : ByteArray), y = .string o ∧ z = .int .u64 0 ∧ Hid (o.data.toList = [45, 48, 120, 49]) ∧ o.size ≤ 20 ∧ Hid (Below w.heap.size w wr)) (fun _ _ _ => 0)
      case atStart => exact ⟨_, rfl, rfl, (rfl : _ = _), by decide, Below.refl _ w⟩
      case round =>
        obtain ⟨o, rfl, rfl, HO, ho, HB⟩ := hrel
        have HRES : Hid (o ++ ⟨#[112, 43]⟩ ++ ⟨(Lib.decDigits n).toArray⟩ = sg ++ hxs a) := (hxs_is (n := n) (t := 0) (o := o) (sg := sg) HS.out (by omega) HR0.out.symm (fun h => absurd h (by omega)) (by rw [HO.out, HSG.out]; rfl)).2 HN.out.1.1 HN.out.1.2
        have hd := dec_any n wr (by have := HN.out.2; omega)
        obtain ⟨ds, hds⟩ : ∃ ds, (⟨(Lib.decDigits n).toArray⟩ : ByteArray) = ds := ⟨_, rfl⟩
        have hdl : ds.size ≤ 22 := by rw [← hds]; exact dec_size n (by have := HN.out.2; omega)
        rw [hds] at hd
        have HDS : Hid ((⟨(Lib.decDigits n).toArray⟩ : ByteArray) = ds) := hds
        clear hds
        go_wp2_with fail
        refine hd.mono ?_
        clear hd
        rintro e w2 ⟨rfl, hb⟩
        have HB2 : Hid (Below w.heap.size w w2) := HB.out.trans (hb.mono HB.out.size)
        clear hb
        have c1 := run_cat o ⟨#[112, 43]⟩ w2 (by have : (⟨#[112, 43]⟩ : ByteArray).size = 2 := rfl; omega)
        have c2 := run_cat (o ++ ⟨#[112, 43]⟩) ds w2 (by have : (⟨#[112, 43]⟩ : ByteArray).size = 2 := rfl; rw [ByteArray.size_append]; omega)
        have HSS : Hid (o ++ ⟨#[112, 43]⟩ ++ ds = sg ++ hxs a) := by rw [← HDS.out]; exact HRES.out
        go_wp2
        go_ret
        exact ⟨by show Ending.returned (Value.string (o ++ ⟨#[112, 43]⟩ ++ ds)) = _; rw [HSS.out], HB2.out⟩
    · have hz' : ¬ (r0 : Int) = 0 := by omega
      go_wp2_with fail
      go_loopw [7, 8] (fun y z wr => ∃ (t q : Nat) (o : ByteArray), y = .string o ∧ z = .int .u64 (q : Int) ∧ Hid (t ≤ 13 ∧ q = rs F t ∧ o.data.toList = [45, 48, 120, 49, 46] ++ (xl F).take t ∧ (0 < t → q = 0 → xd F (t - 1) ≠ 0) ∧ o.size = 5 + t) ∧ o.size ≤ 20 ∧ Hid (Below w.heap.size w wr)) (fun y _ _ => 40 - szOf y)
      case atStart => exact ⟨0, r0, _, rfl, rfl, ⟨by omega, HR0.out, by simp [ByteArray.data_append], fun h => absurd h (by omega), rfl⟩, by decide, Below.refl _ w⟩
      case round =>
        obtain ⟨t, q, o, rfl, rfl, HT, ho, HB⟩ := hrel
        by_cases hq0 : q = 0
        · have HRES : Hid (o ++ ⟨#[112, 43]⟩ ++ ⟨(Lib.decDigits n).toArray⟩ = sg ++ hxs a) := by
            have h0 : t ≠ 0 := by
              rintro rfl
              apply hz
              rw [HR0.out, ← HT.out.2.1, hq0]
            refine (hxs_is (n := n) (t := t) (o := o) (sg := sg) HS.out HT.out.1 (by rw [← HT.out.2.1, hq0]) (fun h => HT.out.2.2.2.1 h hq0) (by rw [HT.out.2.2.1, HSG.out, if_neg h0]; simp)).2 HN.out.1.1 HN.out.1.2
          subst hq0
          have hd := dec_any n wr (by have := HN.out.2; omega)
          obtain ⟨ds, hds⟩ : ∃ ds, (⟨(Lib.decDigits n).toArray⟩ : ByteArray) = ds := ⟨_, rfl⟩
          have hdl : ds.size ≤ 22 := by rw [← hds]; exact dec_size n (by have := HN.out.2; omega)
          rw [hds] at hd
          have HDS : Hid ((⟨(Lib.decDigits n).toArray⟩ : ByteArray) = ds) := hds
          clear hds
          go_wp2_with fail
          refine hd.mono ?_
          clear hd
          rintro e w2 ⟨rfl, hb⟩
          have HB2 : Hid (Below w.heap.size w w2) := HB.out.trans (hb.mono HB.out.size)
          clear hb
          have c1 := run_cat o ⟨#[112, 43]⟩ w2 (by have : (⟨#[112, 43]⟩ : ByteArray).size = 2 := rfl; omega)
          have c2 := run_cat (o ++ ⟨#[112, 43]⟩) ds w2 (by have : (⟨#[112, 43]⟩ : ByteArray).size = 2 := rfl; rw [ByteArray.size_append]; omega)
          have HSS : Hid (o ++ ⟨#[112, 43]⟩ ++ ds = sg ++ hxs a) := by rw [← HDS.out]; exact HRES.out
          go_wp2
          go_ret
          exact ⟨by show Ending.returned (Value.string (o ++ ⟨#[112, 43]⟩ ++ ds)) = _; rw [HSS.out], HB2.out⟩
        · have hq1 : ¬ (q : Int) = 0 := by omega
          obtain ⟨h13, ⟨d, HD, gd⟩, ⟨q', HQ, gq⟩⟩ := dig_at HT.out.1 HT.out.2.1 hq0
          have hi := fun W => idx_hex d HD.out.2 W
          obtain ⟨c, HC, hcv, hcs⟩ := chr_at d wr
          have hadd := run_cat o c (wr.alloc (.cells #[.int .u8 (hxd d : Nat)] 5)) (by omega)
          have HW : Hid (Below w.heap.size w (wr.alloc (.cells #[.int .u8 (hxd d : Nat)] 5))) := HB.out.alloc HB.out.size _
          obtain ⟨D, hD⟩ : ∃ D, hxd d = D := ⟨_, rfl⟩
          rw [hD] at hi hcv hadd HW
          have HDD : Hid (hxd d = D) := hD
          have H13 : Hid (t < 13) := h13
          clear hD h13
          go_wp2
          go_roundw
          case rel =>
            have hc1 : c.size = 1 := by have := HC.out; rw [← ByteArray.size_data, ← Array.length_toList, this]; rfl
            have hos := HT.out.2.2.2.2
            refine ⟨t + 1, q', o ++ c, rfl, rfl, ⟨H13.out, HQ.out, ?_, ?_, ?_⟩, ?_, HW.out⟩
            · have hg := xl_get F t H13.out
              rw [ByteArray.data_append, Array.toList_append, HT.out.2.2.1, HC.out, List.append_assoc, List.take_add_one, hg, HD.out.1]
              rfl
            · intro _ h
              show xd F t ≠ 0
              exact xd_last H13.out (by rw [← HT.out.2.1]; exact hq0) (by rw [← HQ.out]; exact h)
            · rw [ByteArray.size_append]; omega
            · rw [ByteArray.size_append]; have := H13.out; omega
          case measure =>
            have hc1 : c.size = 1 := by have := HC.out; rw [← ByteArray.size_data, ← Array.length_toList, this]; rfl
            have hos := HT.out.2.2.2.2
            simp only [szOf]
            rw [ByteArray.size_append]
            have := H13.out
            omega

set_option maxRecDepth 100000 in
set_option maxHeartbeats 4000000 in
theorem rmidR_pos (x a E F M0 n : Nat)  (w : World) (hX : Xp x a E F) (hM0 : Mn F M0) (hsg : ((x : Int) / 9223372036854775808 == 1) = false) (h0 : ¬ (E : Int) = 0) (hk : (E : Int) - 1023 = (n : Int)) (hS : Sf a F (n : Int)) (hZ : (n : Int) ≤ 52) (R : Int) (g1 : IntKind.u64.wrap ((M0 : Int) * 2 ^ (12 + (n : Int)).toNat) = R) (hR : ¬ R = 0) :
    Calls Tryz.prog 8 #[.float .f64 x] w fun e w' => e = .returned (.string (⟨#[]⟩ ++ hxs a)) ∧ Below w.heap.size w w' := by
  obtain ⟨sg, hsgn⟩ : ∃ sg : ByteArray, (⟨#[]⟩ : ByteArray) = sg := ⟨_, rfl⟩
  have HSG : Hid (sg.data.toList = []) := by rw [← hsgn]; rfl
  rw [hsgn]
  clear hsgn
  have hs := ne_self x
  rw [decide_eq_false hX.nan] at hs
  have hb := rbits_any x w
  rw [nb_num hX.nan] at hb
  have a2 := hX.frac
  have hxl : x < 18446744073709551616 := hX.lt
  have a3 := hX.and
  have hE2 : E < 2047 := by have := hX.ea; have := hX.num; omega
  have hord := hX.ord
  have a4 : bits .or .u64 (F : Int) 4503599627370496 = (M0 : Int) := hX.or hM0
  have hq := hM0.q
  obtain ⟨r0, HR0, g0⟩ : ∃ r0 : Nat, Hid (r0 = rs F 0) ∧ IntKind.u64.wrap ((M0 : Int) * 4096) = (r0 : Int) := ⟨_, rfl, hM0.r⟩

  obtain ⟨Z, hZn⟩ : ∃ Z : Int, Z = (n : Int) := ⟨_, rfl⟩
  have HN : Hid ((0 ≤ Z ∧ Z = (n : Int)) ∧ n ≤ 2000) := ⟨⟨by omega, hZn⟩, by omega⟩
  have HS : Hid (Sf a F Z) := by rw [hZn]; exact hS
  clear hZn
  have hn0 : (0 : Int) ≤ n := by omega
  clear hX hM0 hS
  go_enter Tryz.func8, Tryz.ntmps8
  go_wp2_with fail
  refine hb.mono ?_
  rintro e w' ⟨rfl, rfl⟩
  clear hb
  go_wp2_with fail
  clear a2 a3 a4 hsg hxl hord hs
  go_loop [5, 6] (fun y z => y = .int .i64 (E : Int) ∧ z = .int .u64 (M0 : Int)) (fun _ _ => 0)
  case atStart => exact ⟨rfl, rfl⟩
  case round =>
    obtain ⟨rfl, rfl⟩ := hrel
    by_cases hz : r0 = 0
    · subst hz
      go_wp2_with fail
      go_loopw [7, 8] (fun y z wr => ∃ (o : ByteArray), y = .string o ∧ z = .int .u64 0 ∧ Hid (o.data.toList = [48, 120, 49]) ∧ o.size ≤ 20 ∧ Hid (Below w.heap.size w wr)) (fun _ _ _ => 0)
      case atStart => exact ⟨_, rfl, rfl, (rfl : _ = _), by decide, Below.refl _ w⟩
      case round =>
        obtain ⟨o, rfl, rfl, HO, ho, HB⟩ := hrel
        have HRES : Hid (o ++ ⟨#[112, 43]⟩ ++ ⟨(Lib.decDigits n).toArray⟩ = sg ++ hxs a) := (hxs_is (n := n) (t := 0) (o := o) (sg := sg) HS.out (by omega) HR0.out.symm (fun h => absurd h (by omega)) (by rw [HO.out, HSG.out]; rfl)).2 HN.out.1.1 HN.out.1.2
        have hd := dec_any n wr (by have := HN.out.2; omega)
        obtain ⟨ds, hds⟩ : ∃ ds, (⟨(Lib.decDigits n).toArray⟩ : ByteArray) = ds := ⟨_, rfl⟩
        have hdl : ds.size ≤ 22 := by rw [← hds]; exact dec_size n (by have := HN.out.2; omega)
        rw [hds] at hd
        have HDS : Hid ((⟨(Lib.decDigits n).toArray⟩ : ByteArray) = ds) := hds
        clear hds
        go_wp2_with fail
        refine hd.mono ?_
        clear hd
        rintro e w2 ⟨rfl, hb⟩
        have HB2 : Hid (Below w.heap.size w w2) := HB.out.trans (hb.mono HB.out.size)
        clear hb
        have c1 := run_cat o ⟨#[112, 43]⟩ w2 (by have : (⟨#[112, 43]⟩ : ByteArray).size = 2 := rfl; omega)
        have c2 := run_cat (o ++ ⟨#[112, 43]⟩) ds w2 (by have : (⟨#[112, 43]⟩ : ByteArray).size = 2 := rfl; rw [ByteArray.size_append]; omega)
        have HSS : Hid (o ++ ⟨#[112, 43]⟩ ++ ds = sg ++ hxs a) := by rw [← HDS.out]; exact HRES.out
        go_wp2
        go_ret
        exact ⟨by show Ending.returned (Value.string (o ++ ⟨#[112, 43]⟩ ++ ds)) = _; rw [HSS.out], HB2.out⟩
    · have hz' : ¬ (r0 : Int) = 0 := by omega
      go_wp2_with fail
      go_loopw [7, 8] (fun y z wr => ∃ (t q : Nat) (o : ByteArray), y = .string o ∧ z = .int .u64 (q : Int) ∧ Hid (t ≤ 13 ∧ q = rs F t ∧ o.data.toList = [48, 120, 49, 46] ++ (xl F).take t ∧ (0 < t → q = 0 → xd F (t - 1) ≠ 0) ∧ o.size = 4 + t) ∧ o.size ≤ 20 ∧ Hid (Below w.heap.size w wr)) (fun y _ _ => 40 - szOf y)
      case atStart => exact ⟨0, r0, _, rfl, rfl, ⟨by omega, HR0.out, by simp [ByteArray.data_append], fun h => absurd h (by omega), rfl⟩, by decide, Below.refl _ w⟩
      case round =>
        obtain ⟨t, q, o, rfl, rfl, HT, ho, HB⟩ := hrel
        by_cases hq0 : q = 0
        · have HRES : Hid (o ++ ⟨#[112, 43]⟩ ++ ⟨(Lib.decDigits n).toArray⟩ = sg ++ hxs a) := by
            have h0 : t ≠ 0 := by
              rintro rfl
              apply hz
              rw [HR0.out, ← HT.out.2.1, hq0]
            refine (hxs_is (n := n) (t := t) (o := o) (sg := sg) HS.out HT.out.1 (by rw [← HT.out.2.1, hq0]) (fun h => HT.out.2.2.2.1 h hq0) (by rw [HT.out.2.2.1, HSG.out, if_neg h0]; simp)).2 HN.out.1.1 HN.out.1.2
          subst hq0
          have hd := dec_any n wr (by have := HN.out.2; omega)
          obtain ⟨ds, hds⟩ : ∃ ds, (⟨(Lib.decDigits n).toArray⟩ : ByteArray) = ds := ⟨_, rfl⟩
          have hdl : ds.size ≤ 22 := by rw [← hds]; exact dec_size n (by have := HN.out.2; omega)
          rw [hds] at hd
          have HDS : Hid ((⟨(Lib.decDigits n).toArray⟩ : ByteArray) = ds) := hds
          clear hds
          go_wp2_with fail
          refine hd.mono ?_
          clear hd
          rintro e w2 ⟨rfl, hb⟩
          have HB2 : Hid (Below w.heap.size w w2) := HB.out.trans (hb.mono HB.out.size)
          clear hb
          have c1 := run_cat o ⟨#[112, 43]⟩ w2 (by have : (⟨#[112, 43]⟩ : ByteArray).size = 2 := rfl; omega)
          have c2 := run_cat (o ++ ⟨#[112, 43]⟩) ds w2 (by have : (⟨#[112, 43]⟩ : ByteArray).size = 2 := rfl; rw [ByteArray.size_append]; omega)
          have HSS : Hid (o ++ ⟨#[112, 43]⟩ ++ ds = sg ++ hxs a) := by rw [← HDS.out]; exact HRES.out
          go_wp2
          go_ret
          exact ⟨by show Ending.returned (Value.string (o ++ ⟨#[112, 43]⟩ ++ ds)) = _; rw [HSS.out], HB2.out⟩
        · have hq1 : ¬ (q : Int) = 0 := by omega
          obtain ⟨h13, ⟨d, HD, gd⟩, ⟨q', HQ, gq⟩⟩ := dig_at HT.out.1 HT.out.2.1 hq0
          have hi := fun W => idx_hex d HD.out.2 W
          obtain ⟨c, HC, hcv, hcs⟩ := chr_at d wr
          have hadd := run_cat o c (wr.alloc (.cells #[.int .u8 (hxd d : Nat)] 5)) (by omega)
          have HW : Hid (Below w.heap.size w (wr.alloc (.cells #[.int .u8 (hxd d : Nat)] 5))) := HB.out.alloc HB.out.size _
          obtain ⟨D, hD⟩ : ∃ D, hxd d = D := ⟨_, rfl⟩
          rw [hD] at hi hcv hadd HW
          have HDD : Hid (hxd d = D) := hD
          have H13 : Hid (t < 13) := h13
          clear hD h13
          go_wp2
          go_roundw
          case rel =>
            have hc1 : c.size = 1 := by have := HC.out; rw [← ByteArray.size_data, ← Array.length_toList, this]; rfl
            have hos := HT.out.2.2.2.2
            refine ⟨t + 1, q', o ++ c, rfl, rfl, ⟨H13.out, HQ.out, ?_, ?_, ?_⟩, ?_, HW.out⟩
            · have hg := xl_get F t H13.out
              rw [ByteArray.data_append, Array.toList_append, HT.out.2.2.1, HC.out, List.append_assoc, List.take_add_one, hg, HD.out.1]
              rfl
            · intro _ h
              show xd F t ≠ 0
              exact xd_last H13.out (by rw [← HT.out.2.1]; exact hq0) (by rw [← HQ.out]; exact h)
            · rw [ByteArray.size_append]; omega
            · rw [ByteArray.size_append]; have := H13.out; omega
          case measure =>
            have hc1 : c.size = 1 := by have := HC.out; rw [← ByteArray.size_data, ← Array.length_toList, this]; rfl
            have hos := HT.out.2.2.2.2
            simp only [szOf]
            rw [ByteArray.size_append]
            have := H13.out
            omega

end Go.Proofs.YtieldmakbokekaaGreatDoor.Oct
