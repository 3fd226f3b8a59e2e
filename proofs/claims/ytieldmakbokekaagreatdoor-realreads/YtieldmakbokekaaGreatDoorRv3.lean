/-
  The document's Show, walked: numbers below the normal ones.
-/
import Derived.Test.YtieldmakbokekaaGreatDoorRv
namespace Go.Proofs.YtieldmakbokekaaGreatDoor.Oct
open Go.RowKit
open Go.Proofs.YtieldmakbokekaaGreatDoor.Fl
set_option linter.unusedVariables false

/-- A number below the normal ones on its way up. -/
def Sb (a m : Nat) (v : Int) : Prop := ∃ j : Nat, j ≤ 52 ∧ m = a * 2 ^ j ∧ v = 1 - (j : Int) ∧ m < 9007199254740992

theorem sb_begin {x a : Nat} (hX : Xp x a 0 a) : Sb a a 1 := ⟨0, by omega, by simp, by omega, by have := hX.ea; omega⟩

theorem Sb.either {x a m : Nat} {v : Int} (h : Sb a m v) (hX : Xp x a 0 a) :
    ((m : Int) / 4503599627370496 = 0 ∧ ∃ M' : Nat, IntKind.u64.wrap ((m : Int) * 2) = (M' : Int) ∧ Sb a M' (v - 1) ∧ -51 ≤ v) ∨ ((m : Int) / 4503599627370496 = 1 ∧ ∃ F, Mn F m ∧ Sf a F (v - 1023)) := by
  obtain ⟨j, hj, hm, hv, hl⟩ := h
  have ha : a < 4503599627370496 := by have := hX.ea; omega
  by_cases hs : m < 4503599627370496
  · have hj2 : j < 52 := by
      refine Nat.lt_of_not_le fun h52 => ?_
      have h1 : 1 * 2 ^ 52 ≤ a * 2 ^ j := Nat.mul_le_mul hX.pos (Nat.pow_le_pow_right (by decide) h52)
      omega
    refine .inl ⟨by omega, m * 2, by rw [IntKind.wrap_u64]; omega, ⟨j + 1, by omega, ?_, by omega, by omega⟩, by omega⟩
    rw [hm, Nat.pow_succ, Nat.mul_assoc]
  · refine .inr ⟨by omega, m - 4503599627370496, ⟨by omega, by omega⟩, ?_⟩
    have := fb_shift ha hj (by omega) (by omega)
    rw [← hm] at this
    exact ⟨by omega, by omega⟩

set_option maxRecDepth 100000 in
set_option maxHeartbeats 4000000 in
theorem rsub_neg (x a : Nat) (w : World) (hX : Xp x a 0 a) (hsg : ((x : Int) / 9223372036854775808 == 1) = true) :
    Calls Tryz.prog 8 #[.float .f64 x] w fun e w' => e = .returned (.string (⟨#[45]⟩ ++ hxs a)) ∧ Below w.heap.size w w' := by
  obtain ⟨sg, hsgn⟩ : ∃ sg : ByteArray, (⟨#[45]⟩ : ByteArray) = sg := ⟨_, rfl⟩
  have HSG : Hid (sg.data.toList = [45]) := by rw [← hsgn]; rfl
  rw [hsgn]
  clear hsgn
  have hs := ne_self x
  rw [decide_eq_false hX.nan] at hs
  have hb := rbits_any x w
  rw [nb_num hX.nan] at hb
  have a2 := hX.frac
  have hxl : x < 18446744073709551616 := hX.lt
  have a3 := hX.and
  have hord := hX.ord
  have HX : Hid (Xp x a 0 a) := hX
  clear hX
  go_enter Tryz.func8, Tryz.ntmps8
  go_wp2_with fail
  refine hb.mono ?_
  rintro e w' ⟨rfl, rfl⟩
  clear hb
  go_wp2_with fail
  clear a2 a3 hsg hxl hord hs
  go_loop [5, 6] (fun y z => ∃ (m : Nat) (v : Int), Hid (Sb a m v) ∧ -60 ≤ v ∧ v ≤ 1 ∧ y = .int .i64 v ∧ z = .int .u64 (m : Int)) (fun y _ => (intOf y + 100).toNat)
  case atStart => exact ⟨a, 1, sb_begin HX.out, by omega, by omega, rfl, rfl⟩
  case round =>
    obtain ⟨M0, v, HV, hv0, hv1, rfl, rfl⟩ := hrel
    rcases HV.out.either HX.out with ⟨hq, M', gM, hV', hv'⟩ | ⟨hq, F, hM0, hS⟩
    · have HV' : Hid (Sb a M' (v - 1)) := hV'
      clear hV'
      go_wp2
      go_round
      case rel => exact ⟨M', v - 1, HV'.out, by omega, by omega, rfl, rfl⟩
      case measure => simp [intOf]; omega
    · obtain ⟨Z, hk⟩ : ∃ Z : Int, v - 1023 = Z := ⟨_, rfl⟩
      rw [hk] at hS
      have HS : Hid (Sf a F Z) := hS
      have hZ : Z < 0 := by omega
      obtain ⟨r0, HR0, g0⟩ : ∃ r0 : Nat, Hid (r0 = rs F 0) ∧ IntKind.u64.wrap ((M0 : Int) * 4096) = (r0 : Int) := ⟨_, rfl, hM0.r⟩
      obtain ⟨n, hn⟩ : ∃ n : Nat, -Z = (n : Int) := ⟨(-Z).toNat, by omega⟩
      have HN : Hid ((Z < 0 ∧ -Z = (n : Int)) ∧ n ≤ 2000) := ⟨⟨hZ, hn⟩, by omega⟩
      clear hM0 hS
      by_cases hz : r0 = 0
      · subst hz
        go_wp2_with fail
        go_loopw [7, 8] (fun y z wr => ∃ (o : ByteArray), y = .string o ∧ z = .int .u64 0 ∧ Hid (o.data.toList = [45, 48, 120, 49]) ∧ o.size ≤ 20 ∧ Hid (Below w.heap.size w wr)) (fun _ _ _ => 0)
        case atStart => exact ⟨_, rfl, rfl, (rfl : _ = _), by decide, Below.refl _ w⟩
        case round =>
          obtain ⟨o, rfl, rfl, HO, ho, HB⟩ := hrel
          have HRES : Hid (o ++ ⟨#[112, 45]⟩ ++ ⟨(Lib.decDigits n).toArray⟩ = sg ++ hxs a) := (hxs_is (n := n) (t := 0) (o := o) (sg := sg) HS.out (by omega) HR0.out.symm (fun h => absurd h (by omega)) (by rw [HO.out, HSG.out]; rfl)).1 HN.out.1.1 HN.out.1.2
          have hd := dec_any n wr (by have := HN.out.2; omega)
          obtain ⟨ds, hds⟩ : ∃ ds, (⟨(Lib.decDigits n).toArray⟩ : ByteArray) = ds := ⟨_, rfl⟩
          have hdl : ds.size ≤ 22 := by rw [← hds]; exact dec_size n (by have := HN.out.2; omega)
          rw [hds] at hd
          have HDS : Hid ((⟨(Lib.decDigits n).toArray⟩ : ByteArray) = ds) := hds
          clear hds
          go_wp2_with fail
          refine hd.mono ?_
          clear hd
          rintro e w2 ⟨rfl, hb⟩
          have HB2 : Hid (Below w.heap.size w w2) := HB.out.trans (hb.mono HB.out.size)
          clear hb
          have c1 := run_cat o ⟨#[112, 45]⟩ w2 (by have : (⟨#[112, 45]⟩ : ByteArray).size = 2 := rfl; omega)
          have c2 := run_cat (o ++ ⟨#[112, 45]⟩) ds w2 (by have : (⟨#[112, 45]⟩ : ByteArray).size = 2 := rfl; rw [ByteArray.size_append]; omega)
          have HSS : Hid (o ++ ⟨#[112, 45]⟩ ++ ds = sg ++ hxs a) := by rw [← HDS.out]; exact HRES.out
          go_wp2
          go_ret
          exact ⟨by show Ending.returned (Value.string (o ++ ⟨#[112, 45]⟩ ++ ds)) = _; rw [HSS.out], HB2.out⟩
      · have hz' : ¬ (r0 : Int) = 0 := by omega
        go_wp2_with fail
        go_loopw [7, 8] (fun y z wr => ∃ (t q : Nat) (o : ByteArray), y = .string o ∧ z = .int .u64 (q : Int) ∧ Hid (t ≤ 13 ∧ q = rs F t ∧ o.data.toList = [45, 48, 120, 49, 46] ++ (xl F).take t ∧ (0 < t → q = 0 → xd F (t - 1) ≠ 0) ∧ o.size = 5 + t) ∧ o.size ≤ 20 ∧ Hid (Below w.heap.size w wr)) (fun y _ _ => 40 - szOf y)
        case atStart => exact ⟨0, r0, _, rfl, rfl, ⟨by omega, HR0.out, by simp [ByteArray.data_append], fun h => absurd h (by omega), rfl⟩, by decide, Below.refl _ w⟩
        case round =>
          obtain ⟨t, q, o, rfl, rfl, HT, ho, HB⟩ := hrel
          by_cases hq0 : q = 0
          · have HRES : Hid (o ++ ⟨#[112, 45]⟩ ++ ⟨(Lib.decDigits n).toArray⟩ = sg ++ hxs a) := by
              have h0 : t ≠ 0 := by
                rintro rfl
                apply hz
                rw [HR0.out, ← HT.out.2.1, hq0]
              refine (hxs_is (n := n) (t := t) (o := o) (sg := sg) HS.out HT.out.1 (by rw [← HT.out.2.1, hq0]) (fun h => HT.out.2.2.2.1 h hq0) (by rw [HT.out.2.2.1, HSG.out, if_neg h0]; simp)).1 HN.out.1.1 HN.out.1.2
            subst hq0
            have hd := dec_any n wr (by have := HN.out.2; omega)
            obtain ⟨ds, hds⟩ : ∃ ds, (⟨(Lib.decDigits n).toArray⟩ : ByteArray) = ds := ⟨_, rfl⟩
            have hdl : ds.size ≤ 22 := by rw [← hds]; exact dec_size n (by have := HN.out.2; omega)
            rw [hds] at hd
            have HDS : Hid ((⟨(Lib.decDigits n).toArray⟩ : ByteArray) = ds) := hds
            clear hds
            go_wp2_with fail
            refine hd.mono ?_
            clear hd
            rintro e w2 ⟨rfl, hb⟩
            have HB2 : Hid (Below w.heap.size w w2) := HB.out.trans (hb.mono HB.out.size)
            clear hb
            have c1 := run_cat o ⟨#[112, 45]⟩ w2 (by have : (⟨#[112, 45]⟩ : ByteArray).size = 2 := rfl; omega)
            have c2 := run_cat (o ++ ⟨#[112, 45]⟩) ds w2 (by have : (⟨#[112, 45]⟩ : ByteArray).size = 2 := rfl; rw [ByteArray.size_append]; omega)
            have HSS : Hid (o ++ ⟨#[112, 45]⟩ ++ ds = sg ++ hxs a) := by rw [← HDS.out]; exact HRES.out
            go_wp2
            go_ret
            exact ⟨by show Ending.returned (Value.string (o ++ ⟨#[112, 45]⟩ ++ ds)) = _; rw [HSS.out], HB2.out⟩
          · have hq1 : ¬ (q : Int) = 0 := by omega
            obtain ⟨h13, ⟨d, HD, gd⟩, ⟨q', HQ, gq⟩⟩ := dig_at HT.out.1 HT.out.2.1 hq0
            have hi := fun W => idx_hex d HD.out.2 W
            obtain ⟨c, HC, hcv, hcs⟩ := chr_at d wr
            have hadd := run_cat o c (wr.alloc (.cells #[.int .u8 (hxd d : Nat)] 5)) (by omega)
            have HW : Hid (Below w.heap.size w (wr.alloc (.cells #[.int .u8 (hxd d : Nat)] 5))) := HB.out.alloc HB.out.size _
            obtain ⟨D, hD⟩ : ∃ D, hxd d = D := ⟨_, rfl⟩
            rw [hD] at hi hcv hadd HW
            have HDD : Hid (hxd d = D) := hD
            have H13 : Hid (t < 13) := h13
            clear hD h13
            go_wp2
            go_roundw
            case rel =>
              have hc1 : c.size = 1 := by have := HC.out; rw [← ByteArray.size_data, ← Array.length_toList, this]; rfl
              have hos := HT.out.2.2.2.2
              refine ⟨t + 1, q', o ++ c, rfl, rfl, ⟨H13.out, HQ.out, ?_, ?_, ?_⟩, ?_, HW.out⟩
              · have hg := xl_get F t H13.out
                rw [ByteArray.data_append, Array.toList_append, HT.out.2.2.1, HC.out, List.append_assoc, List.take_add_one, hg, HD.out.1]
                rfl
              · intro _ h
                show xd F t ≠ 0
                exact xd_last H13.out (by rw [← HT.out.2.1]; exact hq0) (by rw [← HQ.out]; exact h)
              · rw [ByteArray.size_append]; omega
              · rw [ByteArray.size_append]; have := H13.out; omega
            case measure =>
              have hc1 : c.size = 1 := by have := HC.out; rw [← ByteArray.size_data, ← Array.length_toList, this]; rfl
              have hos := HT.out.2.2.2.2
              simp only [szOf]
              rw [ByteArray.size_append]
              have := H13.out
              omega

set_option maxRecDepth 100000 in
set_option maxHeartbeats 4000000 in
theorem rsub_pos (x a : Nat) (w : World) (hX : Xp x a 0 a) (hsg : ((x : Int) / 9223372036854775808 == 1) = false) :
    Calls Tryz.prog 8 #[.float .f64 x] w fun e w' => e = .returned (.string (⟨#[]⟩ ++ hxs a)) ∧ Below w.heap.size w w' := by
  obtain ⟨sg, hsgn⟩ : ∃ sg : ByteArray, (⟨#[]⟩ : ByteArray) = sg := ⟨_, rfl⟩
  have HSG : Hid (sg.data.toList = []) := by rw [← hsgn]; rfl
  rw [hsgn]
  clear hsgn
  have hs := ne_self x
  rw [decide_eq_false hX.nan] at hs
  have hb := rbits_any x w
  rw [nb_num hX.nan] at hb
  have a2 := hX.frac
  have hxl : x < 18446744073709551616 := hX.lt
  have a3 := hX.and
  have hord := hX.ord
  have HX : Hid (Xp x a 0 a) := hX
  clear hX
  go_enter Tryz.func8, Tryz.ntmps8
  go_wp2_with fail
  refine hb.mono ?_
  rintro e w' ⟨rfl, rfl⟩
  clear hb
  go_wp2_with fail
  clear a2 a3 hsg hxl hord hs
  go_loop [5, 6] (fun y z => ∃ (m : Nat) (v : Int), Hid (Sb a m v) ∧ -60 ≤ v ∧ v ≤ 1 ∧ y = .int .i64 v ∧ z = .int .u64 (m : Int)) (fun y _ => (intOf y + 100).toNat)
  case atStart => exact ⟨a, 1, sb_begin HX.out, by omega, by omega, rfl, rfl⟩
  case round =>
    obtain ⟨M0, v, HV, hv0, hv1, rfl, rfl⟩ := hrel
    rcases HV.out.either HX.out with ⟨hq, M', gM, hV', hv'⟩ | ⟨hq, F, hM0, hS⟩
    · have HV' : Hid (Sb a M' (v - 1)) := hV'
      clear hV'
      go_wp2
      go_round
      case rel => exact ⟨M', v - 1, HV'.out, by omega, by omega, rfl, rfl⟩
      case measure => simp [intOf]; omega
    · obtain ⟨Z, hk⟩ : ∃ Z : Int, v - 1023 = Z := ⟨_, rfl⟩
      rw [hk] at hS
      have HS : Hid (Sf a F Z) := hS
      have hZ : Z < 0 := by omega
      obtain ⟨r0, HR0, g0⟩ : ∃ r0 : Nat, Hid (r0 = rs F 0) ∧ IntKind.u64.wrap ((M0 : Int) * 4096) = (r0 : Int) := ⟨_, rfl, hM0.r⟩
      obtain ⟨n, hn⟩ : ∃ n : Nat, -Z = (n : Int) := ⟨(-Z).toNat, by omega⟩
      have HN : Hid ((Z < 0 ∧ -Z = (n : Int)) ∧ n ≤ 2000) := ⟨⟨hZ, hn⟩, by omega⟩
      clear hM0 hS
      by_cases hz : r0 = 0
      · subst hz
        go_wp2_with fail
        go_loopw [7, 8] (fun y z wr => ∃ (o : ByteArray), y = .string o ∧ z = .int .u64 0 ∧ Hid (o.data.toList = [48, 120, 49]) ∧ o.size ≤ 20 ∧ Hid (Below w.heap.size w wr)) (fun _ _ _ => 0)
        case atStart => exact ⟨_, rfl, rfl, (rfl : _ = _), by decide, Below.refl _ w⟩
        case round =>
          obtain ⟨o, rfl, rfl, HO, ho, HB⟩ := hrel
          have HRES : Hid (o ++ ⟨#[112, 45]⟩ ++ ⟨(Lib.decDigits n).toArray⟩ = sg ++ hxs a) := (hxs_is (n := n) (t := 0) (o := o) (sg := sg) HS.out (by omega) HR0.out.symm (fun h => absurd h (by omega)) (by rw [HO.out, HSG.out]; rfl)).1 HN.out.1.1 HN.out.1.2
          have hd := dec_any n wr (by have := HN.out.2; omega)
          obtain ⟨ds, hds⟩ : ∃ ds, (⟨(Lib.decDigits n).toArray⟩ : ByteArray) = ds := ⟨_, rfl⟩
          have hdl : ds.size ≤ 22 := by rw [← hds]; exact dec_size n (by have := HN.out.2; omega)
          rw [hds] at hd
          have HDS : Hid ((⟨(Lib.decDigits n).toArray⟩ : ByteArray) = ds) := hds
          clear hds
          go_wp2_with fail
          refine hd.mono ?_
          clear hd
          rintro e w2 ⟨rfl, hb⟩
          have HB2 : Hid (Below w.heap.size w w2) := HB.out.trans (hb.mono HB.out.size)
          clear hb
          have c1 := run_cat o ⟨#[112, 45]⟩ w2 (by have : (⟨#[112, 45]⟩ : ByteArray).size = 2 := rfl; omega)
          have c2 := run_cat (o ++ ⟨#[112, 45]⟩) ds w2 (by have : (⟨#[112, 45]⟩ : ByteArray).size = 2 := rfl; rw [ByteArray.size_append]; omega)
          have HSS : Hid (o ++ ⟨#[112, 45]⟩ ++ ds = sg ++ hxs a) := by rw [← HDS.out]; exact HRES.out
          go_wp2
          go_ret
          exact ⟨by show Ending.returned (Value.string (o ++ ⟨#[112, 45]⟩ ++ ds)) = _; rw [HSS.out], HB2.out⟩
      · have hz' : ¬ (r0 : Int) = 0 := by omega
        go_wp2_with fail
        go_loopw [7, 8] (fun y z wr => ∃ (t q : Nat) (o : ByteArray), y = .string o ∧ z = .int .u64 (q : Int) ∧ Hid (t ≤ 13 ∧ q = rs F t ∧ o.data.toList = [48, 120, 49, 46] ++ (xl F).take t ∧ (0 < t → q = 0 → xd F (t - 1) ≠ 0) ∧ o.size = 4 + t) ∧ o.size ≤ 20 ∧ Hid (Below w.heap.size w wr)) (fun y _ _ => 40 - szOf y)
        case atStart => exact ⟨0, r0, _, rfl, rfl, ⟨by omega, HR0.out, by simp [ByteArray.data_append], fun h => absurd h (by omega), rfl⟩, by decide, Below.refl _ w⟩
        case round =>
          obtain ⟨t, q, o, rfl, rfl, HT, ho, HB⟩ := hrel
          by_cases hq0 : q = 0
          · have HRES : Hid (o ++ ⟨#[112, 45]⟩ ++ ⟨(Lib.decDigits n).toArray⟩ = sg ++ hxs a) := by
              have h0 : t ≠ 0 := by
                rintro rfl
                apply hz
                rw [HR0.out, ← HT.out.2.1, hq0]
              refine (hxs_is (n := n) (t := t) (o := o) (sg := sg) HS.out HT.out.1 (by rw [← HT.out.2.1, hq0]) (fun h => HT.out.2.2.2.1 h hq0) (by rw [HT.out.2.2.1, HSG.out, if_neg h0]; simp)).1 HN.out.1.1 HN.out.1.2
            subst hq0
            have hd := dec_any n wr (by have := HN.out.2; omega)
            obtain ⟨ds, hds⟩ : ∃ ds, (⟨(Lib.decDigits n).toArray⟩ : ByteArray) = ds := ⟨_, rfl⟩
            have hdl : ds.size ≤ 22 := by rw [← hds]; exact dec_size n (by have := HN.out.2; omega)
            rw [hds] at hd
            have HDS : Hid ((⟨(Lib.decDigits n).toArray⟩ : ByteArray) = ds) := hds
            clear hds
            go_wp2_with fail
            refine hd.mono ?_
            clear hd
            rintro e w2 ⟨rfl, hb⟩
            have HB2 : Hid (Below w.heap.size w w2) := HB.out.trans (hb.mono HB.out.size)
            clear hb
            have c1 := run_cat o ⟨#[112, 45]⟩ w2 (by have : (⟨#[112, 45]⟩ : ByteArray).size = 2 := rfl; omega)
            have c2 := run_cat (o ++ ⟨#[112, 45]⟩) ds w2 (by have : (⟨#[112, 45]⟩ : ByteArray).size = 2 := rfl; rw [ByteArray.size_append]; omega)
            have HSS : Hid (o ++ ⟨#[112, 45]⟩ ++ ds = sg ++ hxs a) := by rw [← HDS.out]; exact HRES.out
            go_wp2
            go_ret
            exact ⟨by show Ending.returned (Value.string (o ++ ⟨#[112, 45]⟩ ++ ds)) = _; rw [HSS.out], HB2.out⟩
          · have hq1 : ¬ (q : Int) = 0 := by omega
            obtain ⟨h13, ⟨d, HD, gd⟩, ⟨q', HQ, gq⟩⟩ := dig_at HT.out.1 HT.out.2.1 hq0
            have hi := fun W => idx_hex d HD.out.2 W
            obtain ⟨c, HC, hcv, hcs⟩ := chr_at d wr
            have hadd := run_cat o c (wr.alloc (.cells #[.int .u8 (hxd d : Nat)] 5)) (by omega)
            have HW : Hid (Below w.heap.size w (wr.alloc (.cells #[.int .u8 (hxd d : Nat)] 5))) := HB.out.alloc HB.out.size _
            obtain ⟨D, hD⟩ : ∃ D, hxd d = D := ⟨_, rfl⟩
            rw [hD] at hi hcv hadd HW
            have HDD : Hid (hxd d = D) := hD
            have H13 : Hid (t < 13) := h13
            clear hD h13
            go_wp2
            go_roundw
            case rel =>
              have hc1 : c.size = 1 := by have := HC.out; rw [← ByteArray.size_data, ← Array.length_toList, this]; rfl
              have hos := HT.out.2.2.2.2
              refine ⟨t + 1, q', o ++ c, rfl, rfl, ⟨H13.out, HQ.out, ?_, ?_, ?_⟩, ?_, HW.out⟩
              · have hg := xl_get F t H13.out
                rw [ByteArray.data_append, Array.toList_append, HT.out.2.2.1, HC.out, List.append_assoc, List.take_add_one, hg, HD.out.1]
                rfl
              · intro _ h
                show xd F t ≠ 0
                exact xd_last H13.out (by rw [← HT.out.2.1]; exact hq0) (by rw [← HQ.out]; exact h)
              · rw [ByteArray.size_append]; omega
              · rw [ByteArray.size_append]; have := H13.out; omega
            case measure =>
              have hc1 : c.size = 1 := by have := HC.out; rw [← ByteArray.size_data, ← Array.length_toList, this]; rfl
              have hos := HT.out.2.2.2.2
              simp only [szOf]
              rw [ByteArray.size_append]
              have := H13.out
              omega

end Go.Proofs.YtieldmakbokekaaGreatDoor.Oct
