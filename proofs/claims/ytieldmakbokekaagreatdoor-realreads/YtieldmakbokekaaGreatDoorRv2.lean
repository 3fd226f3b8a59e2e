/-
  The document's Show, walked: the last ways.
-/
import Derived.Test.YtieldmakbokekaaGreatDoorRv
namespace Go.Proofs.YtieldmakbokekaaGreatDoor.Oct
open Go.RowKit
open Go.Proofs.YtieldmakbokekaaGreatDoor.Fl
set_option linter.unusedVariables false

set_option maxRecDepth 100000 in
set_option maxHeartbeats 4000000 in
theorem rmidB_neg (x a E F M0 n : Nat)  (w : World) (hX : Xp x a E F) (hM0 : Mn F M0) (hsg : ((x : Int) / 9223372036854775808 == 1) = true) (h0 : ¬ (E : Int) = 0) (hk : (E : Int) - 1023 = (n : Int)) (hS : Sf a F (n : Int)) (hZ : (n : Int) ≤ 52) (R : Int) (g1 : IntKind.u64.wrap ((M0 : Int) * 2 ^ (12 + (n : Int)).toNat) = 0) (g2 : (M0 : Int) / 2 ^ (52 - n) = R) (hR : (1000000000000000 : Int) ≤ R) :
    Calls Tryz.prog 8 #[.float .f64 x] w fun e w' => e = .returned (.string (⟨#[45]⟩ ++ hxs a)) ∧ Below w.heap.size w w' := by
  obtain ⟨sg, hsgn⟩ : ∃ sg : ByteArray, (⟨#[45]⟩ : ByteArray) = sg := ⟨_, rfl⟩
  have HSG : Hid (sg.data.toList = [45]) := by rw [← hsgn]; rfl
  rw [hsgn]
  clear hsgn
  have hs := ne_self x
  rw [decide_eq_false hX.nan] at hs
  have hb := rbits_any x w
  rw [nb_num hX.nan] at hb
  have a2 := hX.frac
  have hxl : x < 18446744073709551616 := hX.lt
  have a3 := hX.and
  have hE2 : E < 2047 := by have := hX.ea; have := hX.num; omega
  have hord := hX.ord
  have a4 : bits .or .u64 (F : Int) 4503599627370496 = (M0 : Int) := hX.or hM0
  have hq := hM0.q
  obtain ⟨r0, HR0, g0⟩ : ∃ r0 : Nat, Hid (r0 = rs F 0) ∧ IntKind.u64.wrap ((M0 : Int) * 4096) = (r0 : Int) := ⟨_, rfl, hM0.r⟩

  obtain ⟨Z, hZn⟩ : ∃ Z : Int, Z = (n : Int) := ⟨_, rfl⟩
  have HN : Hid ((0 ≤ Z ∧ Z = (n : Int)) ∧ n ≤ 2000) := ⟨⟨by omega, hZn⟩, by omega⟩
  have HS : Hid (Sf a F Z) := by rw [hZn]; exact hS
  clear hZn
  have hn0 : (0 : Int) ≤ n := by omega
  have g3 : (M0 : Int) / 2 ^ (52 - (n : Int)).toNat = R := by rw [← g2]; congr 2; omega
  clear hX hM0 hS
  go_enter Tryz.func8, Tryz.ntmps8
  go_wp2_with fail
  refine hb.mono ?_
  rintro e w' ⟨rfl, rfl⟩
  clear hb
  go_wp2_with fail
  clear a2 a3 a4 hsg hxl hord hs
  go_loop [5, 6] (fun y z => y = .int .i64 (E : Int) ∧ z = .int .u64 (M0 : Int)) (fun _ _ => 0)
  case atStart => exact ⟨rfl, rfl⟩
  case round =>
    obtain ⟨rfl, rfl⟩ := hrel
    by_cases hz : r0 = 0
    · subst hz
      go_wp2_with fail
      go_loopw [7, 8] (fun y z wr => ∃ (o : ByteArray), y = .string o ∧ z = .int .u64 0 ∧ Hid (o.data.toList = [45, 48, 120, 49]) ∧ o.size ≤ 20 ∧ Hid (Below w.heap.size w wr)) (fun _ _ _ => 0)
      case atStart => exact ⟨_, rfl, rfl, (rfl : _ = _), by decide, Below.refl _ w⟩
      case round =>
        obtain ⟨o, rfl, rfl, HO, ho, HB⟩ := hrel
        have HRES : Hid (o ++ ⟨#[112, 43]⟩ ++ ⟨(Lib.decDigits n).toArray⟩ = sg ++ hxs a) := (hxs_is (n := n) (t := 0) (o := o) (sg := sg) HS.out (by omega) HR0.out.symm (fun h => absurd h (by omega)) (by rw [HO.out, HSG.out]; rfl)).2 HN.out.1.1 HN.out.1.2
        have hd := dec_any n wr (by have := HN.out.2; omega)
        obtain ⟨ds, hds⟩ : ∃ ds, (⟨(Lib.decDigits n).toArray⟩ : ByteArray) = ds := ⟨_, rfl⟩
        have hdl : ds.size ≤ 22 := by rw [← hds]; exact dec_size n (by have := HN.out.2; omega)
        rw [hds] at hd
        have HDS : Hid ((⟨(Lib.decDigits n).toArray⟩ : ByteArray) = ds) := hds
        clear hds
        go_wp2_with fail
        refine hd.mono ?_
        clear hd
        rintro e w2 ⟨rfl, hb⟩
        have HB2 : Hid (Below w.heap.size w w2) := HB.out.trans (hb.mono HB.out.size)
        clear hb
        have c1 := run_cat o ⟨#[112, 43]⟩ w2 (by have : (⟨#[112, 43]⟩ : ByteArray).size = 2 := rfl; omega)
        have c2 := run_cat (o ++ ⟨#[112, 43]⟩) ds w2 (by have : (⟨#[112, 43]⟩ : ByteArray).size = 2 := rfl; rw [ByteArray.size_append]; omega)
        have HSS : Hid (o ++ ⟨#[112, 43]⟩ ++ ds = sg ++ hxs a) := by rw [← HDS.out]; exact HRES.out
        go_wp2
        go_ret
        exact ⟨by show Ending.returned (Value.string (o ++ ⟨#[112, 43]⟩ ++ ds)) = _; rw [HSS.out], HB2.out⟩
    · have hz' : ¬ (r0 : Int) = 0 := by omega
      go_wp2_with fail
      go_loopw [7, 8] (fun y z wr => ∃ (t q : Nat) (o : ByteArray), y = .string o ∧ z = .int .u64 (q : Int) ∧ Hid (t ≤ 13 ∧ q = rs F t ∧ o.data.toList = [45, 48, 120, 49, 46] ++ (xl F).take t ∧ (0 < t → q = 0 → xd F (t - 1) ≠ 0) ∧ o.size = 5 + t) ∧ o.size ≤ 20 ∧ Hid (Below w.heap.size w wr)) (fun y _ _ => 40 - szOf y)
      case atStart => exact ⟨0, r0, _, rfl, rfl, ⟨by omega, HR0.out, by simp [ByteArray.data_append], fun h => absurd h (by omega), rfl⟩, by decide, Below.refl _ w⟩
      case round =>
        obtain ⟨t, q, o, rfl, rfl, HT, ho, HB⟩ := hrel
        by_cases hq0 : q = 0
        · have HRES : Hid (o ++ ⟨#[112, 43]⟩ ++ ⟨(Lib.decDigits n).toArray⟩ = sg ++ hxs a) := by
            have h0 : t ≠ 0 := by
              rintro rfl
              apply hz
              rw [HR0.out, ← HT.out.2.1, hq0]
            refine (hxs_is (n := n) (t := t) (o := o) (sg := sg) HS.out HT.out.1 (by rw [← HT.out.2.1, hq0]) (fun h => HT.out.2.2.2.1 h hq0) (by rw [HT.out.2.2.1, HSG.out, if_neg h0]; simp)).2 HN.out.1.1 HN.out.1.2
          subst hq0
          have hd := dec_any n wr (by have := HN.out.2; omega)
          obtain ⟨ds, hds⟩ : ∃ ds, (⟨(Lib.decDigits n).toArray⟩ : ByteArray) = ds := ⟨_, rfl⟩
          have hdl : ds.size ≤ 22 := by rw [← hds]; exact dec_size n (by have := HN.out.2; omega)
          rw [hds] at hd
          have HDS : Hid ((⟨(Lib.decDigits n).toArray⟩ : ByteArray) = ds) := hds
          clear hds
          go_wp2_with fail
          refine hd.mono ?_
          clear hd
          rintro e w2 ⟨rfl, hb⟩
          have HB2 : Hid (Below w.heap.size w w2) := HB.out.trans (hb.mono HB.out.size)
          clear hb
          have c1 := run_cat o ⟨#[112, 43]⟩ w2 (by have : (⟨#[112, 43]⟩ : ByteArray).size = 2 := rfl; omega)
          have c2 := run_cat (o ++ ⟨#[112, 43]⟩) ds w2 (by have : (⟨#[112, 43]⟩ : ByteArray).size = 2 := rfl; rw [ByteArray.size_append]; omega)
          have HSS : Hid (o ++ ⟨#[112, 43]⟩ ++ ds = sg ++ hxs a) := by rw [← HDS.out]; exact HRES.out
          go_wp2
          go_ret
          exact ⟨by show Ending.returned (Value.string (o ++ ⟨#[112, 43]⟩ ++ ds)) = _; rw [HSS.out], HB2.out⟩
        · have hq1 : ¬ (q : Int) = 0 := by omega
          obtain ⟨h13, ⟨d, HD, gd⟩, ⟨q', HQ, gq⟩⟩ := dig_at HT.out.1 HT.out.2.1 hq0
          have hi := fun W => idx_hex d HD.out.2 W
          obtain ⟨c, HC, hcv, hcs⟩ := chr_at d wr
          have hadd := run_cat o c (wr.alloc (.cells #[.int .u8 (hxd d : Nat)] 5)) (by omega)
          have HW : Hid (Below w.heap.size w (wr.alloc (.cells #[.int .u8 (hxd d : Nat)] 5))) := HB.out.alloc HB.out.size _
          obtain ⟨D, hD⟩ : ∃ D, hxd d = D := ⟨_, rfl⟩
          rw [hD] at hi hcv hadd HW
          have HDD : Hid (hxd d = D) := hD
          have H13 : Hid (t < 13) := h13
          clear hD h13
          go_wp2
          go_roundw
          case rel =>
            have hc1 : c.size = 1 := by have := HC.out; rw [← ByteArray.size_data, ← Array.length_toList, this]; rfl
            have hos := HT.out.2.2.2.2
            refine ⟨t + 1, q', o ++ c, rfl, rfl, ⟨H13.out, HQ.out, ?_, ?_, ?_⟩, ?_, HW.out⟩
            · have hg := xl_get F t H13.out
              rw [ByteArray.data_append, Array.toList_append, HT.out.2.2.1, HC.out, List.append_assoc, List.take_add_one, hg, HD.out.1]
              rfl
            · intro _ h
              show xd F t ≠ 0
              exact xd_last H13.out (by rw [← HT.out.2.1]; exact hq0) (by rw [← HQ.out]; exact h)
            · rw [ByteArray.size_append]; omega
            · rw [ByteArray.size_append]; have := H13.out; omega
          case measure =>
            have hc1 : c.size = 1 := by have := HC.out; rw [← ByteArray.size_data, ← Array.length_toList, this]; rfl
            have hos := HT.out.2.2.2.2
            simp only [szOf]
            rw [ByteArray.size_append]
            have := H13.out
            omega

set_option maxRecDepth 100000 in
set_option maxHeartbeats 4000000 in
theorem rmidB_pos (x a E F M0 n : Nat)  (w : World) (hX : Xp x a E F) (hM0 : Mn F M0) (hsg : ((x : Int) / 9223372036854775808 == 1) = false) (h0 : ¬ (E : Int) = 0) (hk : (E : Int) - 1023 = (n : Int)) (hS : Sf a F (n : Int)) (hZ : (n : Int) ≤ 52) (R : Int) (g1 : IntKind.u64.wrap ((M0 : Int) * 2 ^ (12 + (n : Int)).toNat) = 0) (g2 : (M0 : Int) / 2 ^ (52 - n) = R) (hR : (1000000000000000 : Int) ≤ R) :
    Calls Tryz.prog 8 #[.float .f64 x] w fun e w' => e = .returned (.string (⟨#[]⟩ ++ hxs a)) ∧ Below w.heap.size w w' := by
  obtain ⟨sg, hsgn⟩ : ∃ sg : ByteArray, (⟨#[]⟩ : ByteArray) = sg := ⟨_, rfl⟩
  have HSG : Hid (sg.data.toList = []) := by rw [← hsgn]; rfl
  rw [hsgn]
  clear hsgn
  have hs := ne_self x
  rw [decide_eq_false hX.nan] at hs
  have hb := rbits_any x w
  rw [nb_num hX.nan] at hb
  have a2 := hX.frac
  have hxl : x < 18446744073709551616 := hX.lt
  have a3 := hX.and
  have hE2 : E < 2047 := by have := hX.ea; have := hX.num; omega
  have hord := hX.ord
  have a4 : bits .or .u64 (F : Int) 4503599627370496 = (M0 : Int) := hX.or hM0
  have hq := hM0.q
  obtain ⟨r0, HR0, g0⟩ : ∃ r0 : Nat, Hid (r0 = rs F 0) ∧ IntKind.u64.wrap ((M0 : Int) * 4096) = (r0 : Int) := ⟨_, rfl, hM0.r⟩

  obtain ⟨Z, hZn⟩ : ∃ Z : Int, Z = (n : Int) := ⟨_, rfl⟩
  have HN : Hid ((0 ≤ Z ∧ Z = (n : Int)) ∧ n ≤ 2000) := ⟨⟨by omega, hZn⟩, by omega⟩
  have HS : Hid (Sf a F Z) := by rw [hZn]; exact hS
  clear hZn
  have hn0 : (0 : Int) ≤ n := by omega
  have g3 : (M0 : Int) / 2 ^ (52 - (n : Int)).toNat = R := by rw [← g2]; congr 2; omega
  clear hX hM0 hS
  go_enter Tryz.func8, Tryz.ntmps8
  go_wp2_with fail
  refine hb.mono ?_
  rintro e w' ⟨rfl, rfl⟩
  clear hb
  go_wp2_with fail
  clear a2 a3 a4 hsg hxl hord hs
  go_loop [5, 6] (fun y z => y = .int .i64 (E : Int) ∧ z = .int .u64 (M0 : Int)) (fun _ _ => 0)
  case atStart => exact ⟨rfl, rfl⟩
  case round =>
    obtain ⟨rfl, rfl⟩ := hrel
    by_cases hz : r0 = 0
    · subst hz
      go_wp2_with fail
      go_loopw [7, 8] (fun y z wr => ∃ (o : ByteArray), y = .string o ∧ z = .int .u64 0 ∧ Hid (o.data.toList = [48, 120, 49]) ∧ o.size ≤ 20 ∧ Hid (Below w.heap.size w wr)) (fun _ _ _ => 0)
      case atStart => exact ⟨_, rfl, rfl, (rfl : _ = _), by decide, Below.refl _ w⟩
      case round =>
        obtain ⟨o, rfl, rfl, HO, ho, HB⟩ := hrel
        have HRES : Hid (o ++ ⟨#[112, 43]⟩ ++ ⟨(Lib.decDigits n).toArray⟩ = sg ++ hxs a) := (hxs_is (n := n) (t := 0) (o := o) (sg := sg) HS.out (by omega) HR0.out.symm (fun h => absurd h (by omega)) (by rw [HO.out, HSG.out]; rfl)).2 HN.out.1.1 HN.out.1.2
        have hd := dec_any n wr (by have := HN.out.2; omega)
        obtain ⟨ds, hds⟩ : ∃ ds, (⟨(Lib.decDigits n).toArray⟩ : ByteArray) = ds := ⟨_, rfl⟩
        have hdl : ds.size ≤ 22 := by rw [← hds]; exact dec_size n (by have := HN.out.2; omega)
        rw [hds] at hd
        have HDS : Hid ((⟨(Lib.decDigits n).toArray⟩ : ByteArray) = ds) := hds
        clear hds
        go_wp2_with fail
        refine hd.mono ?_
        clear hd
        rintro e w2 ⟨rfl, hb⟩
        have HB2 : Hid (Below w.heap.size w w2) := HB.out.trans (hb.mono HB.out.size)
        clear hb
        have c1 := run_cat o ⟨#[112, 43]⟩ w2 (by have : (⟨#[112, 43]⟩ : ByteArray).size = 2 := rfl; omega)
        have c2 := run_cat (o ++ ⟨#[112, 43]⟩) ds w2 (by have : (⟨#[112, 43]⟩ : ByteArray).size = 2 := rfl; rw [ByteArray.size_append]; omega)
        have HSS : Hid (o ++ ⟨#[112, 43]⟩ ++ ds = sg ++ hxs a) := by rw [← HDS.out]; exact HRES.out
        go_wp2
        go_ret
        exact ⟨by show Ending.returned (Value.string (o ++ ⟨#[112, 43]⟩ ++ ds)) = _; rw [HSS.out], HB2.out⟩
    · have hz' : ¬ (r0 : Int) = 0 := by omega
      go_wp2_with fail
      go_loopw [7, 8] (fun y z wr => ∃ (t q : Nat) (o : ByteArray), y = .string o ∧ z = .int .u64 (q : Int) ∧ Hid (t ≤ 13 ∧ q = rs F t ∧ o.data.toList = [48, 120, 49, 46] ++ (xl F).take t ∧ (0 < t → q = 0 → xd F (t - 1) ≠ 0) ∧ o.size = 4 + t) ∧ o.size ≤ 20 ∧ Hid (Below w.heap.size w wr)) (fun y _ _ => 40 - szOf y)
      case atStart => exact ⟨0, r0, _, rfl, rfl, ⟨by omega, HR0.out, by simp [ByteArray.data_append], fun h => absurd h (by omega), rfl⟩, by decide, Below.refl _ w⟩
      case round =>
        obtain ⟨t, q, o, rfl, rfl, HT, ho, HB⟩ := hrel
        by_cases hq0 : q = 0
        · have HRES : Hid (o ++ ⟨#[112, 43]⟩ ++ ⟨(Lib.decDigits n).toArray⟩ = sg ++ hxs a) := by
            have h0 : t ≠ 0 := by
              rintro rfl
              apply hz
              rw [HR0.out, ← HT.out.2.1, hq0]
            refine (hxs_is (n := n) (t := t) (o := o) (sg := sg) HS.out HT.out.1 (by rw [← HT.out.2.1, hq0]) (fun h => HT.out.2.2.2.1 h hq0) (by rw [HT.out.2.2.1, HSG.out, if_neg h0]; simp)).2 HN.out.1.1 HN.out.1.2
          subst hq0
          have hd := dec_any n wr (by have := HN.out.2; omega)
          obtain ⟨ds, hds⟩ : ∃ ds, (⟨(Lib.decDigits n).toArray⟩ : ByteArray) = ds := ⟨_, rfl⟩
          have hdl : ds.size ≤ 22 := by rw [← hds]; exact dec_size n (by have := HN.out.2; omega)
          rw [hds] at hd
          have HDS : Hid ((⟨(Lib.decDigits n).toArray⟩ : ByteArray) = ds) := hds
          clear hds
          go_wp2_with fail
          refine hd.mono ?_
          clear hd
          rintro e w2 ⟨rfl, hb⟩
          have HB2 : Hid (Below w.heap.size w w2) := HB.out.trans (hb.mono HB.out.size)
          clear hb
          have c1 := run_cat o ⟨#[112, 43]⟩ w2 (by have : (⟨#[112, 43]⟩ : ByteArray).size = 2 := rfl; omega)
          have c2 := run_cat (o ++ ⟨#[112, 43]⟩) ds w2 (by have : (⟨#[112, 43]⟩ : ByteArray).size = 2 := rfl; rw [ByteArray.size_append]; omega)
          have HSS : Hid (o ++ ⟨#[112, 43]⟩ ++ ds = sg ++ hxs a) := by rw [← HDS.out]; exact HRES.out
          go_wp2
          go_ret
          exact ⟨by show Ending.returned (Value.string (o ++ ⟨#[112, 43]⟩ ++ ds)) = _; rw [HSS.out], HB2.out⟩
        · have hq1 : ¬ (q : Int) = 0 := by omega
          obtain ⟨h13, ⟨d, HD, gd⟩, ⟨q', HQ, gq⟩⟩ := dig_at HT.out.1 HT.out.2.1 hq0
          have hi := fun W => idx_hex d HD.out.2 W
          obtain ⟨c, HC, hcv, hcs⟩ := chr_at d wr
          have hadd := run_cat o c (wr.alloc (.cells #[.int .u8 (hxd d : Nat)] 5)) (by omega)
          have HW : Hid (Below w.heap.size w (wr.alloc (.cells #[.int .u8 (hxd d : Nat)] 5))) := HB.out.alloc HB.out.size _
          obtain ⟨D, hD⟩ : ∃ D, hxd d = D := ⟨_, rfl⟩
          rw [hD] at hi hcv hadd HW
          have HDD : Hid (hxd d = D) := hD
          have H13 : Hid (t < 13) := h13
          clear hD h13
          go_wp2
          go_roundw
          case rel =>
            have hc1 : c.size = 1 := by have := HC.out; rw [← ByteArray.size_data, ← Array.length_toList, this]; rfl
            have hos := HT.out.2.2.2.2
            refine ⟨t + 1, q', o ++ c, rfl, rfl, ⟨H13.out, HQ.out, ?_, ?_, ?_⟩, ?_, HW.out⟩
            · have hg := xl_get F t H13.out
              rw [ByteArray.data_append, Array.toList_append, HT.out.2.2.1, HC.out, List.append_assoc, List.take_add_one, hg, HD.out.1]
              rfl
            · intro _ h
              show xd F t ≠ 0
              exact xd_last H13.out (by rw [← HT.out.2.1]; exact hq0) (by rw [← HQ.out]; exact h)
            · rw [ByteArray.size_append]; omega
            · rw [ByteArray.size_append]; have := H13.out; omega
          case measure =>
            have hc1 : c.size = 1 := by have := HC.out; rw [← ByteArray.size_data, ← Array.length_toList, this]; rfl
            have hos := HT.out.2.2.2.2
            simp only [szOf]
            rw [ByteArray.size_append]
            have := H13.out
            omega

set_option maxRecDepth 100000 in
set_option maxHeartbeats 4000000 in
theorem rwhole_neg (x a E F M0 n : Nat)  (w : World) (hX : Xp x a E F) (hM0 : Mn F M0) (hsg : ((x : Int) / 9223372036854775808 == 1) = true) (h0 : ¬ (E : Int) = 0) (hk : (E : Int) - 1023 = (n : Int))  (hZ : (n : Int) ≤ 52) (R : Int) (g1 : IntKind.u64.wrap ((M0 : Int) * 2 ^ (12 + (n : Int)).toNat) = 0) (g2 : (M0 : Int) / 2 ^ (52 - n) = R) (hR : R < 1000000000000000) (hR0 : 0 ≤ R) :
    Calls Tryz.prog 8 #[.float .f64 x] w fun e w' => e = .returned (.string (⟨#[45]⟩ ++ ⟨(Lib.decDigits R.toNat).toArray⟩)) ∧ Below w.heap.size w w' := by
  have hs := ne_self x
  rw [decide_eq_false hX.nan] at hs
  have hb := rbits_any x w
  rw [nb_num hX.nan] at hb
  have a2 := hX.frac
  have hxl : x < 18446744073709551616 := hX.lt
  have a3 := hX.and
  have hE2 : E < 2047 := by have := hX.ea; have := hX.num; omega
  have hord := hX.ord
  have a4 : bits .or .u64 (F : Int) 4503599627370496 = (M0 : Int) := hX.or hM0
  have hq := hM0.q
  obtain ⟨r0, HR0, g0⟩ : ∃ r0 : Nat, Hid (r0 = rs F 0) ∧ IntKind.u64.wrap ((M0 : Int) * 4096) = (r0 : Int) := ⟨_, rfl, hM0.r⟩

  have hn0 : (0 : Int) ≤ n := by omega
  obtain ⟨ds, hds⟩ : ∃ ds, (⟨(Lib.decDigits R.toNat).toArray⟩ : ByteArray) = ds := ⟨_, rfl⟩
  have hdl : ds.size ≤ 22 := by
    rw [← hds]
    have := Lib.itoa_length_le R (by omega) (by omega)
    unfold Lib.itoa at this
    rw [if_neg (by omega)] at this
    show (Lib.decDigits R.toNat).length ≤ 22
    omega
  have HD : Hid (∀ w, Calls Tryz.prog 27 #[.int .u64 R] w fun e w' => e = .returned (.string ds) ∧ Below w.heap.size w w') := fun w => by
    have := dec_any R.toNat w (by omega)
    rwa [Int.toNat_of_nonneg hR0, hds] at this
  rw [hds]
  clear hds
  have HR : Hid (R < 1000000000000000) := hR
  clear hR
  have g3 : (M0 : Int) / 2 ^ (52 - (n : Int)).toNat = R := by rw [← g2]; congr 2; omega
  clear hX hM0 
  go_enter Tryz.func8, Tryz.ntmps8
  go_wp2_with fail
  refine hb.mono ?_
  rintro e w' ⟨rfl, rfl⟩
  clear hb
  go_wp2_with fail
  clear a2 a3 a4 hsg hxl hord hs
  go_loop [5, 6] (fun y z => y = .int .i64 (E : Int) ∧ z = .int .u64 (M0 : Int)) (fun _ _ => 0)
  case atStart => exact ⟨rfl, rfl⟩
  case round =>
    obtain ⟨rfl, rfl⟩ := hrel
    have hR := HR.out
    go_wp2_with fail
    refine (HD.out _).mono ?_
    rintro e w2 ⟨rfl, hb⟩
    have HB2 : Hid (Below w.heap.size w w2) := hb
    clear hb
    go_wp2
    go_ret
    exact ⟨rfl, HB2.out⟩

set_option maxRecDepth 100000 in
set_option maxHeartbeats 4000000 in
theorem rwhole_pos (x a E F M0 n : Nat)  (w : World) (hX : Xp x a E F) (hM0 : Mn F M0) (hsg : ((x : Int) / 9223372036854775808 == 1) = false) (h0 : ¬ (E : Int) = 0) (hk : (E : Int) - 1023 = (n : Int))  (hZ : (n : Int) ≤ 52) (R : Int) (g1 : IntKind.u64.wrap ((M0 : Int) * 2 ^ (12 + (n : Int)).toNat) = 0) (g2 : (M0 : Int) / 2 ^ (52 - n) = R) (hR : R < 1000000000000000) (hR0 : 0 ≤ R) :
    Calls Tryz.prog 8 #[.float .f64 x] w fun e w' => e = .returned (.string (⟨#[]⟩ ++ ⟨(Lib.decDigits R.toNat).toArray⟩)) ∧ Below w.heap.size w w' := by
  have hs := ne_self x
  rw [decide_eq_false hX.nan] at hs
  have hb := rbits_any x w
  rw [nb_num hX.nan] at hb
  have a2 := hX.frac
  have hxl : x < 18446744073709551616 := hX.lt
  have a3 := hX.and
  have hE2 : E < 2047 := by have := hX.ea; have := hX.num; omega
  have hord := hX.ord
  have a4 : bits .or .u64 (F : Int) 4503599627370496 = (M0 : Int) := hX.or hM0
  have hq := hM0.q
  obtain ⟨r0, HR0, g0⟩ : ∃ r0 : Nat, Hid (r0 = rs F 0) ∧ IntKind.u64.wrap ((M0 : Int) * 4096) = (r0 : Int) := ⟨_, rfl, hM0.r⟩

  have hn0 : (0 : Int) ≤ n := by omega
  obtain ⟨ds, hds⟩ : ∃ ds, (⟨(Lib.decDigits R.toNat).toArray⟩ : ByteArray) = ds := ⟨_, rfl⟩
  have hdl : ds.size ≤ 22 := by
    rw [← hds]
    have := Lib.itoa_length_le R (by omega) (by omega)
    unfold Lib.itoa at this
    rw [if_neg (by omega)] at this
    show (Lib.decDigits R.toNat).length ≤ 22
    omega
  have HD : Hid (∀ w, Calls Tryz.prog 27 #[.int .u64 R] w fun e w' => e = .returned (.string ds) ∧ Below w.heap.size w w') := fun w => by
    have := dec_any R.toNat w (by omega)
    rwa [Int.toNat_of_nonneg hR0, hds] at this
  rw [hds]
  clear hds
  have HR : Hid (R < 1000000000000000) := hR
  clear hR
  have g3 : (M0 : Int) / 2 ^ (52 - (n : Int)).toNat = R := by rw [← g2]; congr 2; omega
  clear hX hM0 
  go_enter Tryz.func8, Tryz.ntmps8
  go_wp2_with fail
  refine hb.mono ?_
  rintro e w' ⟨rfl, rfl⟩
  clear hb
  go_wp2_with fail
  clear a2 a3 a4 hsg hxl hord hs
  go_loop [5, 6] (fun y z => y = .int .i64 (E : Int) ∧ z = .int .u64 (M0 : Int)) (fun _ _ => 0)
  case atStart => exact ⟨rfl, rfl⟩
  case round =>
    obtain ⟨rfl, rfl⟩ := hrel
    have hR := HR.out
    go_wp2_with fail
    refine (HD.out _).mono ?_
    rintro e w2 ⟨rfl, hb⟩
    have HB2 : Hid (Below w.heap.size w w2) := hb
    clear hb
    go_wp2
    go_ret
    exact ⟨rfl, HB2.out⟩

end Go.Proofs.YtieldmakbokekaaGreatDoor.Oct

/-
  The document's Show, walked: numbers below the normal ones.
-/
namespace Go.Proofs.YtieldmakbokekaaGreatDoor.Oct
open Go.RowKit
open Go.Proofs.YtieldmakbokekaaGreatDoor.Fl
set_option linter.unusedVariables false

/-- A number below the normal ones on its way up. -/
def Sb (a m : Nat) (v : Int) : Prop := ∃ j : Nat, j ≤ 52 ∧ m = a * 2 ^ j ∧ v = 1 - (j : Int) ∧ m < 9007199254740992

theorem sb_begin {x a : Nat} (hX : Xp x a 0 a) : Sb a a 1 := ⟨0, by omega, by simp, by omega, by have := hX.ea; omega⟩

theorem Sb.either {x a m : Nat} {v : Int} (h : Sb a m v) (hX : Xp x a 0 a) :
    ((m : Int) / 4503599627370496 = 0 ∧ ∃ M' : Nat, IntKind.u64.wrap ((m : Int) * 2) = (M' : Int) ∧ Sb a M' (v - 1) ∧ -51 ≤ v) ∨ ((m : Int) / 4503599627370496 = 1 ∧ ∃ F, Mn F m ∧ Sf a F (v - 1023)) := by
  obtain ⟨j, hj, hm, hv, hl⟩ := h
  have ha : a < 4503599627370496 := by have := hX.ea; omega
  by_cases hs : m < 4503599627370496
  · have hj2 : j < 52 := by
      refine Nat.lt_of_not_le fun h52 => ?_
      have h1 : 1 * 2 ^ 52 ≤ a * 2 ^ j := Nat.mul_le_mul hX.pos (Nat.pow_le_pow_right (by decide) h52)
      omega
    refine .inl ⟨by omega, m * 2, by rw [IntKind.wrap_u64]; omega, ⟨j + 1, by omega, ?_, by omega, by omega⟩, by omega⟩
    rw [hm, Nat.pow_succ, Nat.mul_assoc]
  · refine .inr ⟨by omega, m - 4503599627370496, ⟨by omega, by omega⟩, ?_⟩
    have := fb_shift ha hj (by omega) (by omega)
    rw [← hm] at this
    exact ⟨by omega, by omega⟩

set_option maxRecDepth 100000 in
set_option maxHeartbeats 4000000 in
theorem rsub_neg (x a : Nat) (w : World) (hX : Xp x a 0 a) (hsg : ((x : Int) / 9223372036854775808 == 1) = true) :
    Calls Tryz.prog 8 #[.float .f64 x] w fun e w' => e = .returned (.string (⟨#[45]⟩ ++ hxs a)) ∧ Below w.heap.size w w' := by
  obtain ⟨sg, hsgn⟩ : ∃ sg : ByteArray, (⟨#[45]⟩ : ByteArray) = sg := ⟨_, rfl⟩
  have HSG : Hid (sg.data.toList = [45]) := by rw [← hsgn]; rfl
  rw [hsgn]
  clear hsgn
  have hs := ne_self x
  rw [decide_eq_false hX.nan] at hs
  have hb := rbits_any x w
  rw [nb_num hX.nan] at hb
  have a2 := hX.frac
  have hxl : x < 18446744073709551616 := hX.lt
  have a3 := hX.and
  have hord := hX.ord
  have HX : Hid (Xp x a 0 a) := hX
  clear hX
  go_enter Tryz.func8, Tryz.ntmps8
  go_wp2_with fail
  refine hb.mono ?_
  rintro e w' ⟨rfl, rfl⟩
  clear hb
  go_wp2_with fail
  clear a2 a3 hsg hxl hord hs
  go_loop [5, 6] (fun y z => ∃ (m : Nat) (v : Int), Hid (Sb a m v) ∧ -60 ≤ v ∧ v ≤ 1 ∧ y = .int .i64 v ∧ z = .int .u64 (m : Int)) (fun y _ => (intOf y + 100).toNat)
  case atStart => exact ⟨a, 1, sb_begin HX.out, by omega, by omega, rfl, rfl⟩
  case round =>
    obtain ⟨M0, v, HV, hv0, hv1, rfl, rfl⟩ := hrel
    rcases HV.out.either HX.out with ⟨hq, M', gM, hV', hv'⟩ | ⟨hq, F, hM0, hS⟩
    · have HV' : Hid (Sb a M' (v - 1)) := hV'
      clear hV'
      go_wp2
      go_round
      case rel => exact ⟨M', v - 1, HV'.out, by omega, by omega, rfl, rfl⟩
      case measure => simp [intOf]; omega
    · obtain ⟨Z, hk⟩ : ∃ Z : Int, v - 1023 = Z := ⟨_, rfl⟩
      rw [hk] at hS
      have HS : Hid (Sf a F Z) := hS
      have hZ : Z < 0 := by omega
      obtain ⟨r0, HR0, g0⟩ : ∃ r0 : Nat, Hid (r0 = rs F 0) ∧ IntKind.u64.wrap ((M0 : Int) * 4096) = (r0 : Int) := ⟨_, rfl, hM0.r⟩
      obtain ⟨n, hn⟩ : ∃ n : Nat, -Z = (n : Int) := ⟨(-Z).toNat, by omega⟩
      have HN : Hid ((Z < 0 ∧ -Z = (n : Int)) ∧ n ≤ 2000) := ⟨⟨hZ, hn⟩, by omega⟩
      clear hM0 hS
      by_cases hz : r0 = 0
      · subst hz
        go_wp2_with fail
        go_loopw [7, 8] (fun y z wr => ∃ (o : ByteArray), y = .string o ∧ z = .int .u64 0 ∧ Hid (o.data.toList = [45, 48, 120, 49]) ∧ o.size ≤ 20 ∧ Hid (Below w.heap.size w wr)) (fun _ _ _ => 0)
        case atStart => exact ⟨_, rfl, rfl, (rfl : _ = _), by decide, Below.refl _ w⟩
        case round =>
          obtain ⟨o, rfl, rfl, HO, ho, HB⟩ := hrel
          have HRES : Hid (o ++ ⟨#[112, 45]⟩ ++ ⟨(Lib.decDigits n).toArray⟩ = sg ++ hxs a) := (hxs_is (n := n) (t := 0) (o := o) (sg := sg) HS.out (by omega) HR0.out.symm (fun h => absurd h (by omega)) (by rw [HO.out, HSG.out]; rfl)).1 HN.out.1.1 HN.out.1.2
          have hd := dec_any n wr (by have := HN.out.2; omega)
          obtain ⟨ds, hds⟩ : ∃ ds, (⟨(Lib.decDigits n).toArray⟩ : ByteArray) = ds := ⟨_, rfl⟩
          have hdl : ds.size ≤ 22 := by rw [← hds]; exact dec_size n (by have := HN.out.2; omega)
          rw [hds] at hd
          have HDS : Hid ((⟨(Lib.decDigits n).toArray⟩ : ByteArray) = ds) := hds
          clear hds
          go_wp2_with fail
          refine hd.mono ?_
          clear hd
          rintro e w2 ⟨rfl, hb⟩
          have HB2 : Hid (Below w.heap.size w w2) := HB.out.trans (hb.mono HB.out.size)
          clear hb
          have c1 := run_cat o ⟨#[112, 45]⟩ w2 (by have : (⟨#[112, 45]⟩ : ByteArray).size = 2 := rfl; omega)
          have c2 := run_cat (o ++ ⟨#[112, 45]⟩) ds w2 (by have : (⟨#[112, 45]⟩ : ByteArray).size = 2 := rfl; rw [ByteArray.size_append]; omega)
          have HSS : Hid (o ++ ⟨#[112, 45]⟩ ++ ds = sg ++ hxs a) := by rw [← HDS.out]; exact HRES.out
          go_wp2
          go_ret
          exact ⟨by show Ending.returned (Value.string (o ++ ⟨#[112, 45]⟩ ++ ds)) = _; rw [HSS.out], HB2.out⟩
      · have hz' : ¬ (r0 : Int) = 0 := by omega
        go_wp2_with fail
        go_loopw [7, 8] (fun y z wr => ∃ (t q : Nat) (o : ByteArray), y = .string o ∧ z = .int .u64 (q : Int) ∧ Hid (t ≤ 13 ∧ q = rs F t ∧ o.data.toList = [45, 48, 120, 49, 46] ++ (xl F).take t ∧ (0 < t → q = 0 → xd F (t - 1) ≠ 0) ∧ o.size = 5 + t) ∧ o.size ≤ 20 ∧ Hid (Below w.heap.size w wr)) (fun y _ _ => 40 - szOf y)
        case atStart => exact ⟨0, r0, _, rfl, rfl, ⟨by omega, HR0.out, by simp [ByteArray.data_append], fun h => absurd h (by omega), rfl⟩, by decide, Below.refl _ w⟩
        case round =>
          obtain ⟨t, q, o, rfl, rfl, HT, ho, HB⟩ := hrel
          by_cases hq0 : q = 0
          · have HRES : Hid (o ++ ⟨#[112, 45]⟩ ++ ⟨(Lib.decDigits n).toArray⟩ = sg ++ hxs a) := by
              have h0 : t ≠ 0 := by
                rintro rfl
                apply hz
                rw [HR0.out, ← HT.out.2.1, hq0]
              refine (hxs_is (n := n) (t := t) (o := o) (sg := sg) HS.out HT.out.1 (by rw [← HT.out.2.1, hq0]) (fun h => HT.out.2.2.2.1 h hq0) (by rw [HT.out.2.2.1, HSG.out, if_neg h0]; simp)).1 HN.out.1.1 HN.out.1.2
            subst hq0
            have hd := dec_any n wr (by have := HN.out.2; omega)
            obtain ⟨ds, hds⟩ : ∃ ds, (⟨(Lib.decDigits n).toArray⟩ : ByteArray) = ds := ⟨_, rfl⟩
            have hdl : ds.size ≤ 22 := by rw [← hds]; exact dec_size n (by have := HN.out.2; omega)
            rw [hds] at hd
            have HDS : Hid ((⟨(Lib.decDigits n).toArray⟩ : ByteArray) = ds) := hds
            clear hds
            go_wp2_with fail
            refine hd.mono ?_
            clear hd
            rintro e w2 ⟨rfl, hb⟩
            have HB2 : Hid (Below w.heap.size w w2) := HB.out.trans (hb.mono HB.out.size)
            clear hb
            have c1 := run_cat o ⟨#[112, 45]⟩ w2 (by have : (⟨#[112, 45]⟩ : ByteArray).size = 2 := rfl; omega)
            have c2 := run_cat (o ++ ⟨#[112, 45]⟩) ds w2 (by have : (⟨#[112, 45]⟩ : ByteArray).size = 2 := rfl; rw [ByteArray.size_append]; omega)
            have HSS : Hid (o ++ ⟨#[112, 45]⟩ ++ ds = sg ++ hxs a) := by rw [← HDS.out]; exact HRES.out
            go_wp2
            go_ret
            exact ⟨by show Ending.returned (Value.string (o ++ ⟨#[112, 45]⟩ ++ ds)) = _; rw [HSS.out], HB2.out⟩
          · have hq1 : ¬ (q : Int) = 0 := by omega
            obtain ⟨h13, ⟨d, HD, gd⟩, ⟨q', HQ, gq⟩⟩ := dig_at HT.out.1 HT.out.2.1 hq0
            have hi := fun W => idx_hex d HD.out.2 W
            obtain ⟨c, HC, hcv, hcs⟩ := chr_at d wr
            have hadd := run_cat o c (wr.alloc (.cells #[.int .u8 (hxd d : Nat)] 5)) (by omega)
            have HW : Hid (Below w.heap.size w (wr.alloc (.cells #[.int .u8 (hxd d : Nat)] 5))) := HB.out.alloc HB.out.size _
            obtain ⟨D, hD⟩ : ∃ D, hxd d = D := ⟨_, rfl⟩
            rw [hD] at hi hcv hadd HW
            have HDD : Hid (hxd d = D) := hD
            have H13 : Hid (t < 13) := h13
            clear hD h13
            go_wp2
            go_roundw
            case rel =>
              have hc1 : c.size = 1 := by have := HC.out; rw [← ByteArray.size_data, ← Array.length_toList, this]; rfl
              have hos := HT.out.2.2.2.2
              refine ⟨t + 1, q', o ++ c, rfl, rfl, ⟨H13.out, HQ.out, ?_, ?_, ?_⟩, ?_, HW.out⟩
              · have hg := xl_get F t H13.out
                rw [ByteArray.data_append, Array.toList_append, HT.out.2.2.1, HC.out, List.append_assoc, List.take_add_one, hg, HD.out.1]
                rfl
              · intro _ h
                show xd F t ≠ 0
                exact xd_last H13.out (by rw [← HT.out.2.1]; exact hq0) (by rw [← HQ.out]; exact h)
              · rw [ByteArray.size_append]; omega
              · rw [ByteArray.size_append]; have := H13.out; omega
            case measure =>
              have hc1 : c.size = 1 := by have := HC.out; rw [← ByteArray.size_data, ← Array.length_toList, this]; rfl
              have hos := HT.out.2.2.2.2
              simp only [szOf]
              rw [ByteArray.size_append]
              have := H13.out
              omega

set_option maxRecDepth 100000 in
set_option maxHeartbeats 4000000 in
theorem rsub_pos (x a : Nat) (w : World) (hX : Xp x a 0 a) (hsg : ((x : Int) / 9223372036854775808 == 1) = false) :
    Calls Tryz.prog 8 #[.float .f64 x] w fun e w' => e = .returned (.string (⟨#[]⟩ ++ hxs a)) ∧ Below w.heap.size w w' := by
  obtain ⟨sg, hsgn⟩ : ∃ sg : ByteArray, (⟨#[]⟩ : ByteArray) = sg := ⟨_, rfl⟩
  have HSG : Hid (sg.data.toList = []) := by rw [← hsgn]; rfl
  rw [hsgn]
  clear hsgn
  have hs := ne_self x
  rw [decide_eq_false hX.nan] at hs
  have hb := rbits_any x w
  rw [nb_num hX.nan] at hb
  have a2 := hX.frac
  have hxl : x < 18446744073709551616 := hX.lt
  have a3 := hX.and
  have hord := hX.ord
  have HX : Hid (Xp x a 0 a) := hX
  clear hX
  go_enter Tryz.func8, Tryz.ntmps8
  go_wp2_with fail
  refine hb.mono ?_
  rintro e w' ⟨rfl, rfl⟩
  clear hb
  go_wp2_with fail
  clear a2 a3 hsg hxl hord hs
  go_loop [5, 6] (fun y z => ∃ (m : Nat) (v : Int), Hid (Sb a m v) ∧ -60 ≤ v ∧ v ≤ 1 ∧ y = .int .i64 v ∧ z = .int .u64 (m : Int)) (fun y _ => (intOf y + 100).toNat)
  case atStart => exact ⟨a, 1, sb_begin HX.out, by omega, by omega, rfl, rfl⟩
  case round =>
    obtain ⟨M0, v, HV, hv0, hv1, rfl, rfl⟩ := hrel
    rcases HV.out.either HX.out with ⟨hq, M', gM, hV', hv'⟩ | ⟨hq, F, hM0, hS⟩
    · have HV' : Hid (Sb a M' (v - 1)) := hV'
      clear hV'
      go_wp2
      go_round
      case rel => exact ⟨M', v - 1, HV'.out, by omega, by omega, rfl, rfl⟩
      case measure => simp [intOf]; omega
    · obtain ⟨Z, hk⟩ : ∃ Z : Int, v - 1023 = Z := ⟨_, rfl⟩
      rw [hk] at hS
      have HS : Hid (Sf a F Z) := hS
      have hZ : Z < 0 := by omega
      obtain ⟨r0, HR0, g0⟩ : ∃ r0 : Nat, Hid (r0 = rs F 0) ∧ IntKind.u64.wrap ((M0 : Int) * 4096) = (r0 : Int) := ⟨_, rfl, hM0.r⟩
      obtain ⟨n, hn⟩ : ∃ n : Nat, -Z = (n : Int) := ⟨(-Z).toNat, by omega⟩
      have HN : Hid ((Z < 0 ∧ -Z = (n : Int)) ∧ n ≤ 2000) := ⟨⟨hZ, hn⟩, by omega⟩
      clear hM0 hS
      by_cases hz : r0 = 0
      · subst hz
        go_wp2_with fail
        go_loopw [7, 8] (fun y z wr => ∃ (o : ByteArray), y = .string o ∧ z = .int .u64 0 ∧ Hid (o.data.toList = [48, 120, 49]) ∧ o.size ≤ 20 ∧ Hid (Below w.heap.size w wr)) (fun _ _ _ => 0)
        case atStart => exact ⟨_, rfl, rfl, (rfl : _ = _), by decide, Below.refl _ w⟩
        case round =>
          obtain ⟨o, rfl, rfl, HO, ho, HB⟩ := hrel
          have HRES : Hid (o ++ ⟨#[112, 45]⟩ ++ ⟨(Lib.decDigits n).toArray⟩ = sg ++ hxs a) := (hxs_is (n := n) (t := 0) (o := o) (sg := sg) HS.out (by omega) HR0.out.symm (fun h => absurd h (by omega)) (by rw [HO.out, HSG.out]; rfl)).1 HN.out.1.1 HN.out.1.2
          have hd := dec_any n wr (by have := HN.out.2; omega)
          obtain ⟨ds, hds⟩ : ∃ ds, (⟨(Lib.decDigits n).toArray⟩ : ByteArray) = ds := ⟨_, rfl⟩
          have hdl : ds.size ≤ 22 := by rw [← hds]; exact dec_size n (by have := HN.out.2; omega)
          rw [hds] at hd
          have HDS : Hid ((⟨(Lib.decDigits n).toArray⟩ : ByteArray) = ds) := hds
          clear hds
          go_wp2_with fail
          refine hd.mono ?_
          clear hd
          rintro e w2 ⟨rfl, hb⟩
          have HB2 : Hid (Below w.heap.size w w2) := HB.out.trans (hb.mono HB.out.size)
          clear hb
          have c1 := run_cat o ⟨#[112, 45]⟩ w2 (by have : (⟨#[112, 45]⟩ : ByteArray).size = 2 := rfl; omega)
          have c2 := run_cat (o ++ ⟨#[112, 45]⟩) ds w2 (by have : (⟨#[112, 45]⟩ : ByteArray).size = 2 := rfl; rw [ByteArray.size_append]; omega)
          have HSS : Hid (o ++ ⟨#[112, 45]⟩ ++ ds = sg ++ hxs a) := by rw [← HDS.out]; exact HRES.out
          go_wp2
          go_ret
          exact ⟨by show Ending.returned (Value.string (o ++ ⟨#[112, 45]⟩ ++ ds)) = _; rw [HSS.out], HB2.out⟩
      · have hz' : ¬ (r0 : Int) = 0 := by omega
        go_wp2_with fail
        go_loopw [7, 8] (fun y z wr => ∃ (t q : Nat) (o : ByteArray), y = .string o ∧ z = .int .u64 (q : Int) ∧ Hid (t ≤ 13 ∧ q = rs F t ∧ o.data.toList = [48, 120, 49, 46] ++ (xl F).take t ∧ (0 < t → q = 0 → xd F (t - 1) ≠ 0) ∧ o.size = 4 + t) ∧ o.size ≤ 20 ∧ Hid (Below w.heap.size w wr)) (fun y _ _ => 40 - szOf y)
        case atStart => exact ⟨0, r0, _, rfl, rfl, ⟨by omega, HR0.out, by simp [ByteArray.data_append], fun h => absurd h (by omega), rfl⟩, by decide, Below.refl _ w⟩
        case round =>
          obtain ⟨t, q, o, rfl, rfl, HT, ho, HB⟩ := hrel
          by_cases hq0 : q = 0
          · have HRES : Hid (o ++ ⟨#[112, 45]⟩ ++ ⟨(Lib.decDigits n).toArray⟩ = sg ++ hxs a) := by
              have h0 : t ≠ 0 := by
                rintro rfl
                apply hz
                rw [HR0.out, ← HT.out.2.1, hq0]
              refine (hxs_is (n := n) (t := t) (o := o) (sg := sg) HS.out HT.out.1 (by rw [← HT.out.2.1, hq0]) (fun h => HT.out.2.2.2.1 h hq0) (by rw [HT.out.2.2.1, HSG.out, if_neg h0]; simp)).1 HN.out.1.1 HN.out.1.2
            subst hq0
            have hd := dec_any n wr (by have := HN.out.2; omega)
            obtain ⟨ds, hds⟩ : ∃ ds, (⟨(Lib.decDigits n).toArray⟩ : ByteArray) = ds := ⟨_, rfl⟩
            have hdl : ds.size ≤ 22 := by rw [← hds]; exact dec_size n (by have := HN.out.2; omega)
            rw [hds] at hd
            have HDS : Hid ((⟨(Lib.decDigits n).toArray⟩ : ByteArray) = ds) := hds
            clear hds
            go_wp2_with fail
            refine hd.mono ?_
            clear hd
            rintro e w2 ⟨rfl, hb⟩
            have HB2 : Hid (Below w.heap.size w w2) := HB.out.trans (hb.mono HB.out.size)
            clear hb
            have c1 := run_cat o ⟨#[112, 45]⟩ w2 (by have : (⟨#[112, 45]⟩ : ByteArray).size = 2 := rfl; omega)
            have c2 := run_cat (o ++ ⟨#[112, 45]⟩) ds w2 (by have : (⟨#[112, 45]⟩ : ByteArray).size = 2 := rfl; rw [ByteArray.size_append]; omega)
            have HSS : Hid (o ++ ⟨#[112, 45]⟩ ++ ds = sg ++ hxs a) := by rw [← HDS.out]; exact HRES.out
            go_wp2
            go_ret
            exact ⟨by show Ending.returned (Value.string (o ++ ⟨#[112, 45]⟩ ++ ds)) = _; rw [HSS.out], HB2.out⟩
          · have hq1 : ¬ (q : Int) = 0 := by omega
            obtain ⟨h13, ⟨d, HD, gd⟩, ⟨q', HQ, gq⟩⟩ := dig_at HT.out.1 HT.out.2.1 hq0
            have hi := fun W => idx_hex d HD.out.2 W
            obtain ⟨c, HC, hcv, hcs⟩ := chr_at d wr
            have hadd := run_cat o c (wr.alloc (.cells #[.int .u8 (hxd d : Nat)] 5)) (by omega)
            have HW : Hid (Below w.heap.size w (wr.alloc (.cells #[.int .u8 (hxd d : Nat)] 5))) := HB.out.alloc HB.out.size _
            obtain ⟨D, hD⟩ : ∃ D, hxd d = D := ⟨_, rfl⟩
            rw [hD] at hi hcv hadd HW
            have HDD : Hid (hxd d = D) := hD
            have H13 : Hid (t < 13) := h13
            clear hD h13
            go_wp2
            go_roundw
            case rel =>
              have hc1 : c.size = 1 := by have := HC.out; rw [← ByteArray.size_data, ← Array.length_toList, this]; rfl
              have hos := HT.out.2.2.2.2
              refine ⟨t + 1, q', o ++ c, rfl, rfl, ⟨H13.out, HQ.out, ?_, ?_, ?_⟩, ?_, HW.out⟩
              · have hg := xl_get F t H13.out
                rw [ByteArray.data_append, Array.toList_append, HT.out.2.2.1, HC.out, List.append_assoc, List.take_add_one, hg, HD.out.1]
                rfl
              · intro _ h
                show xd F t ≠ 0
                exact xd_last H13.out (by rw [← HT.out.2.1]; exact hq0) (by rw [← HQ.out]; exact h)
              · rw [ByteArray.size_append]; omega
              · rw [ByteArray.size_append]; have := H13.out; omega
            case measure =>
              have hc1 : c.size = 1 := by have := HC.out; rw [← ByteArray.size_data, ← Array.length_toList, this]; rfl
              have hos := HT.out.2.2.2.2
              simp only [szOf]
              rw [ByteArray.size_append]
              have := H13.out
              omega

end Go.Proofs.YtieldmakbokekaaGreatDoor.Oct

/-
  The document's Show at every number.
-/
namespace Go.Proofs.YtieldmakbokekaaGreatDoor.Oct
open Go.RowKit
open Go.Proofs.YtieldmakbokekaaGreatDoor.Fl

set_option maxRecDepth 100000 in
theorem rshow_nan (x : Nat) (w : World) (h : Nan x) : Calls Tryz.prog 8 #[.float .f64 x] w fun e w' => e = .returned (.string ⟨#[110, 97, 110]⟩) ∧ w = w' := by
  have hs := ne_self x
  rw [decide_eq_true h] at hs
  have hb := rbits_any x w
  rw [nb_nan h] at hb
  go_enter Tryz.func8, Tryz.ntmps8
  go_wp2_with fail
  refine hb.mono ?_
  rintro e w' ⟨rfl, rfl⟩
  clear hb
  have a1 : bits .and .u64 2047 2047 = 2047 := by decide
  go_wp2
  go_ret
  exact ⟨rfl, rfl⟩

/-- What Show says of a number that is not a NaN. -/
def shw (x : Nat) : ByteArray :=
  if x % 2 ^ 63 = 0x7ff0000000000000 then sgn x ++ ⟨#[105, 110, 102]⟩
  else if whole x = true then sgn x ++ ⟨(Lib.decDigits (wh (x % 2 ^ 63))).toArray⟩
  else sgn x ++ hxs (x % 2 ^ 63)

theorem sgn_of (x : Nat) (hl : x < 2 ^ 64) : (((x : Int) / 9223372036854775808 == 1) = true ∧ sgn x = ⟨#[45]⟩) ∨ (((x : Int) / 9223372036854775808 == 1) = false ∧ sgn x = ⟨#[]⟩) := by
  unfold sgn
  by_cases h : 2 ^ 63 ≤ x
  · exact .inl ⟨by simp; omega, by simp [h]⟩
  · exact .inr ⟨by simp; omega, by simp [h]⟩

/-- The numbers that the document shows in digits are the whole ones. -/
theorem rshow_norm (x a E F M0 : Nat) (w : World) (hX : Xp x a E F) (h0 : ¬ (E : Int) = 0) (hM : Mn F M0) :
    Calls Tryz.prog 8 #[.float .f64 x] w fun e w' => e = .returned (.string (shw x)) ∧ Below w.heap.size w w' := by
  have ha : a = E * 4503599627370496 + (M0 - 4503599627370496) := by have := hX.ea; have := hX.fa; have := hM.1; omega
  have hnum := hX.num
  have hax := hX.ax
  have hE2 : E < 2047 := by have := hX.ea; omega
  have hM1 : 4503599627370496 ≤ M0 := by have := hM.1; omega
  have hM2 : M0 < 9007199254740992 := by have := hM.1; have := hM.2; omega
  have hS : Sf a F ((E : Int) - 1023) := by
    obtain ⟨h1, h2⟩ := fb_norm (a := a) (by omega)
    have := hX.ea; have := hX.fa
    refine ⟨by rw [h1]; exact hX.fa, by rw [h1, h2]; omega⟩
  have e0 : shw x = if whole x = true then sgn x ++ ⟨(Lib.decDigits (wh a)).toArray⟩ else sgn x ++ hxs a := by
    unfold shw; rw [← hax, if_neg (by omega)]
  have ew : (whole x = true) ↔ a < 4831355200913801216 ∧ fi (wh a) = a := by unfold whole; rw [← hax]; simp
  rcases sgn_of x hX.lt with ⟨hs, hsg⟩ | ⟨hs, hsg⟩
  all_goals
    rw [hsg] at e0
    rw [e0]
    by_cases hlow : E < 1023
    · have hw : ¬ whole x = true := fun h => whole_low (by omega) hlow hM1 hM2 ha (ew.1 h).2
      rw [if_neg hw]
      first | exact rlow_neg x a E F M0 _ w hX hM hs h0 rfl hS (by omega) | exact rlow_pos x a E F M0 _ w hX hM hs h0 rfl hS (by omega)
    · obtain ⟨n, rfl⟩ : ∃ n, E = 1023 + n := ⟨E - 1023, by omega⟩
      have hk : ((1023 + n : Nat) : Int) - 1023 = (n : Int) := by omega
      rw [hk] at hS
      by_cases h52 : n ≤ 52
      · obtain ⟨hd, hwh⟩ := whole_mid h52 hM1 hM2 ha
        have hR : (M0 : Int) / 2 ^ (52 - n) = ((wh a : Nat) : Int) := by rw [hwh]; simp
        have hsh : IntKind.u64.wrap ((M0 : Int) * 2 ^ (12 + (n : Int)).toNat) = ((M0 % 2 ^ (52 - n) * 2 ^ (12 + n) : Nat) : Int) := by
          rw [IntKind.wrap_u64, show (12 + (n : Int)).toNat = 12 + n by omega, show (M0 : Int) * 2 ^ (12 + n) = ((M0 * 2 ^ (12 + n) : Nat) : Int) by simp]
          have : 18446744073709551616 = 2 ^ (52 - n) * 2 ^ (12 + n) := by rw [← Nat.pow_add, show 52 - n + (12 + n) = 64 by omega]
          rw [← Nat.mul_mod_mul_right, ← this]
          omega
        by_cases hz : M0 % 2 ^ (52 - n) = 0
        · have hfi := hd.2 hz
          rw [hz, Nat.zero_mul] at hsh
          have hsz := whole_size (by omega) hfi
          by_cases hb : wh a < 1000000000000000
          · have hw : whole x = true := ew.2 ⟨hsz.2 hb, hfi⟩
            rw [if_pos hw]
            first
              | exact rwhole_neg x a _ F M0 n w hX hM hs h0 hk (by omega) (wh a : Nat) hsh hR (by omega) (by omega)
              | exact rwhole_pos x a _ F M0 n w hX hM hs h0 hk (by omega) (wh a : Nat) hsh hR (by omega) (by omega)
          · have hw : ¬ whole x = true := fun h => hb (hsz.1 (ew.1 h).1)
            rw [if_neg hw]
            first
              | exact rmidB_neg x a _ F M0 n w hX hM hs h0 hk hS (by omega) (wh a : Nat) hsh hR (by omega)
              | exact rmidB_pos x a _ F M0 n w hX hM hs h0 hk hS (by omega) (wh a : Nat) hsh hR (by omega)
        · have hw : ¬ whole x = true := fun h => hz (hd.1 (ew.1 h).2)
          rw [if_neg hw]
          have hnz : ¬ ((M0 % 2 ^ (52 - n) * 2 ^ (12 + n) : Nat) : Int) = 0 := by
            intro h
            have h1 : M0 % 2 ^ (52 - n) * 2 ^ (12 + n) = 0 := by omega
            rcases Nat.mul_eq_zero.1 h1 with h2 | h2
            · exact hz h2
            · exact absurd h2 (Nat.ne_of_gt (Nat.two_pow_pos _))
          first
            | exact rmidR_neg x a _ F M0 n w hX hM hs h0 hk hS (by omega) _ hsh hnz
            | exact rmidR_pos x a _ F M0 n w hX hM hs h0 hk hS (by omega) _ hsh hnz
      · have hw : ¬ whole x = true := fun h => by have := (ew.1 h).1; omega
        rw [if_neg hw]
        first | exact rhigh_neg x a _ F M0 n w hX hM hs h0 hk hS (by omega) | exact rhigh_pos x a _ F M0 n w hX hM hs h0 hk hS (by omega)

theorem and_exp (x : Nat) (hl : x < 2 ^ 64) : bits .and .u64 ((x : Int) / 4503599627370496) 2047 = ((x % 2 ^ 63 / 4503599627370496 : Nat) : Int) := by
  have h1 : (BitVec.ofInt 64 ((x / 4503599627370496 : Nat) : Int)).toNat = x / 4503599627370496 := by
    rw [BitVec.ofInt_natCast, BitVec.toNat_ofNat]; exact Nat.mod_eq_of_lt (by omega)
  have h2 : (BitVec.ofInt 64 2047).toNat = 2 ^ 11 - 1 := by decide
  show IntKind.u64.wrap ((BitVec.ofInt 64 ((x / 4503599627370496 : Nat) : Int) &&& BitVec.ofInt 64 2047).toNat : Int) = _
  rw [BitVec.toNat_and, h1, h2, Nat.and_two_pow_sub_one_eq_mod, IntKind.wrap_u64]
  omega

set_option maxRecDepth 100000 in
theorem rshow_inf (x : Nat) (w : World) (hl : x < 2 ^ 64) (h : x % 2 ^ 63 = 0x7ff0000000000000) : Calls Tryz.prog 8 #[.float .f64 x] w fun e w' => e = .returned (.string (sgn x ++ ⟨#[105, 110, 102]⟩)) ∧ w = w' := by
  have hn : ¬ Nan x := by rw [nan_iff]; omega
  have hs := ne_self x
  rw [decide_eq_false hn] at hs
  have hb := rbits_any x w
  rw [nb_num hn] at hb
  have a3 := and_exp x hl
  rw [h, show 0x7ff0000000000000 / 4503599627370496 = 2047 by decide] at a3
  have a2 := andm x hl
  obtain ⟨f, hf⟩ : ∃ f, x % 4503599627370496 = f := ⟨_, rfl⟩
  rw [hf] at a2
  have hxl : x < 18446744073709551616 := hl
  clear hf h hn
  rcases sgn_of x hl with ⟨hs2, hsg⟩ | ⟨hs2, hsg⟩
  all_goals
    rw [hsg]
    clear hsg hl
    go_enter Tryz.func8, Tryz.ntmps8
    go_wp2_with fail
    refine hb.mono ?_
    rintro e w' ⟨rfl, rfl⟩
    clear hb
    go_wp2
    go_ret
    exact ⟨rfl, rfl⟩

set_option maxRecDepth 100000 in
theorem rshow_zero (x : Nat) (w : World) (hl : x < 2 ^ 64) (h : x % 2 ^ 63 = 0) : Calls Tryz.prog 8 #[.float .f64 x] w fun e w' => e = .returned (.string (sgn x ++ ⟨#[48]⟩)) ∧ w = w' := by
  have hn : ¬ Nan x := by rw [nan_iff]; omega
  have hs := ne_self x
  rw [decide_eq_false hn] at hs
  have hb := rbits_any x w
  rw [nb_num hn] at hb
  have a3 := and_exp x hl
  rw [h, show 0 / 4503599627370496 = 0 by decide] at a3
  have a2 := andm x hl
  obtain ⟨f, hf⟩ : ∃ f, x % 4503599627370496 = f := ⟨_, rfl⟩
  rw [hf] at a2
  have hord : (FloatKind.f64.format.order x 0 == some .eq) = true := by
    have : x = 0 ∨ x = 9223372036854775808 := by omega
    rcases this with rfl | rfl <;> decide +kernel
  have hxl : x < 18446744073709551616 := hl
  clear hf h hn
  rcases sgn_of x hl with ⟨hs2, hsg⟩ | ⟨hs2, hsg⟩
  all_goals
    rw [hsg]
    clear hsg hl
    go_enter Tryz.func8, Tryz.ntmps8
    go_wp2_with fail
    refine hb.mono ?_
    rintro e w' ⟨rfl, rfl⟩
    clear hb
    go_wp2
    go_ret
    exact ⟨rfl, rfl⟩

theorem rshow_any (x : Nat) (w : World) (hl : x < 2 ^ 64) (hn : ¬ Nan x) : Calls Tryz.prog 8 #[.float .f64 x] w fun e w' => e = .returned (.string (shw x)) ∧ Below w.heap.size w w' := by
  rw [nan_iff] at hn
  by_cases hi : x % 2 ^ 63 = 0x7ff0000000000000
  · refine (rshow_inf x w hl hi).mono ?_
    rintro e w' ⟨rfl, rfl⟩
    unfold shw
    rw [if_pos hi]
    exact ⟨rfl, Below.refl _ w⟩
  · by_cases hz : x % 2 ^ 63 = 0
    · refine (rshow_zero x w hl hz).mono ?_
      rintro e w' ⟨rfl, rfl⟩
      have hw0 : wh 0 = 0 := by unfold wh; rw [V_zero, Nat.zero_div]
      have hw : whole x = true := by unfold whole; rw [hz, hw0, fi_zero]; decide
      unfold shw
      rw [if_neg hi, if_pos hw, hz, hw0, Lib.decDigits, dif_pos (by omega)]
      exact ⟨rfl, Below.refl _ w⟩
    · have hX : Xp x (x % 2 ^ 63) (x % 2 ^ 63 / 4503599627370496) (x % 2 ^ 63 % 4503599627370496) := ⟨hl, rfl, by omega, by omega, rfl, rfl⟩
      by_cases hE : x % 2 ^ 63 / 4503599627370496 = 0
      · have ha : x % 2 ^ 63 % 4503599627370496 = x % 2 ^ 63 := by omega
        rw [hE, ha] at hX
        have hw : ¬ whole x = true := by
          intro h
          unfold whole at h
          have h2 : fi (wh (x % 2 ^ 63)) = x % 2 ^ 63 := by simp at h; exact h.2
          rw [whole_dvd (by omega), V_lo (by omega)] at h2
          have h4 : pw 63 ≤ pw 1074 := pw_le (by decide)
          rw [pw_eq 63] at h4
          have h3 : x % 2 ^ 63 < pw 1074 := Nat.lt_of_lt_of_le (show x % 2 ^ 63 < 2 ^ 63 by omega) h4
          rw [Nat.mod_eq_of_lt h3] at h2
          exact hz h2
        have e0 : shw x = sgn x ++ hxs (x % 2 ^ 63) := by unfold shw; rw [if_neg hi, if_neg hw]
        rw [e0]
        rcases sgn_of x hl with ⟨hs, hsg⟩ | ⟨hs, hsg⟩
        · rw [hsg]; exact rsub_neg x _ w hX hs
        · rw [hsg]; exact rsub_pos x _ w hX hs
      · obtain ⟨M0, hM, _⟩ := hX.mn
        exact rshow_norm x _ _ _ M0 w hX (by omega) hM

/-- The program's. -/
theorem show_any (x : Nat) (w : World) (hl : x < 2 ^ 64) (hn : ¬ Nan x) (ht : Tab w) (hz : Tz w) : Calls Tryz.prog 6 #[.float .f64 x] w fun e w' => e = .returned (.string (shw x)) ∧ Below w.heap.size w w' := by
  rw [nan_iff] at hn
  unfold shw
  by_cases hi : x % 2 ^ 63 = 0x7ff0000000000000
  · rw [if_pos hi]
    refine (show_inf x w hl hi).mono ?_
    rintro e w' ⟨rfl, rfl⟩
    exact ⟨rfl, Below.refl _ w⟩
  · rw [if_neg hi]
    by_cases hw : whole x = true
    · rw [if_pos hw]
      exact show_whole x w hl hw (.inl ht)
    · rw [if_neg hw]
      refine show_hex x w hl (by omega) ?_ (by simpa using hw) ht hz
      refine Nat.pos_of_ne_zero fun h0 => hw ?_
      have hw0 : wh 0 = 0 := by unfold wh; rw [V_zero, Nat.zero_div]
      unfold whole; rw [h0, hw0, fi_zero]; decide

end Go.Proofs.YtieldmakbokekaaGreatDoor.Oct
