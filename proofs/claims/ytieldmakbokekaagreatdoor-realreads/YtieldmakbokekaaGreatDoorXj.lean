/-
  The document's power.
-/
import Derived.Test.YtieldmakbokekaaGreatDoorXi
namespace Go.Proofs.YtieldmakbokekaaGreatDoor.Oct
open Go.RowKit
open Go.Proofs.YtieldmakbokekaaGreatDoor.Fl

theorem idx_cb (s : ByteArray) (k : Nat) (x : Int) (hx : (k : Int) = x) (hk : k < s.size) (W : World) : (Instr.index 9 (.string s) (.int .i64 x)).run Tryz.prog W = .ok (.int .u8 ((cb s k).toNat : Int)) W := by
  subst hx
  exact idx_str s k hk W

theorem u8_eqb {c : UInt8} {k : Nat} (hk : k < 256) (h : c ≠ UInt8.ofNat k) : (((c.toNat : Nat) : Int) == (k : Int)) = false := by
  refine Bool.eq_false_iff.2 fun e => h ?_
  have e1 : ((c.toNat : Nat) : Int) = (k : Int) := by simpa using e
  have e2 : c.toNat = k := by omega
  rw [← UInt8.toNat_inj, e2]
  simp
  omega

theorem or16 (M d : Nat) (h : M < 2 ^ 53) (hd : d < 16) : bits .or .u64 ((M : Int) * 16) (d : Int) = ((M * 16 + d : Nat) : Int) := by
  have e : bits .or .u64 ((M * 16 : Nat) : Int) (d : Int) = ((M * 16 ||| d : Nat) : Int) := bits_or_u64_nat (M * 16) d (by omega) (by omega)
  have e2 : ((M : Int) * 16) = ((M * 16 : Nat) : Int) := by omega
  rw [e2, e]
  have := Nat.two_pow_add_eq_or_of_lt (i := 4) (b := d) (by omega) M
  rw [show (2 : Nat) ^ 4 = 16 from rfl, Nat.mul_comm] at this
  rw [← this]

def RelA (s : ByteArray) (x4 x5 x6 : Value) : Prop := ∃ I M n : Nat, x4 = .int .i64 (I : Int) ∧ x5 = .int .u64 (M : Int) ∧ x6 = .int .i64 (n : Int) ∧ Hid (PA s I M n)
def RelD (s : ByteArray) (x4 x5 x6 : Value) : Prop := ∃ n M : Nat, x4 = .int .i64 (4 + n : Int) ∧ x5 = .int .u64 (M : Int) ∧ x6 = .int .i64 (n : Int) ∧ Hid (PD s M n)

def RelK (s : ByteArray) (I : Nat) (x7 x8 : Value) : Prop := ∃ k E : Nat, x7 = .int .i64 (E : Int) ∧ x8 = .int .i64 (k : Int) ∧ Hid (PE s I k E)
def RelX (hi : Int) (R : Nat) (x7 x9 : Value) : Prop := ∃ (E : Int) (r : Nat), x7 = .int .i64 E ∧ x9 = .float .f64 r ∧ Hid (r ≤ 0x7ff0000000000000 ∧ fin r E = R) ∧ -20000 ≤ E ∧ E ≤ hi

theorem ne_zero {r : Nat} (h : r ≤ 0x7ff0000000000000) : (FloatKind.f64.format.order r 0 != some .eq) = decide (r ≠ 0) := by
  have h1 : ¬ Nan r := by rw [nan_iff]; omega
  have h2 : ¬ Nan 0 := by rw [nan_iff]; omega
  rw [show FloatKind.f64.format = Ieee.double from rfl, ne_iff]
  refine decide_eq_decide.2 ?_
  have e : sr r = sr 0 ↔ r = 0 := by
    unfold sr
    rw [if_neg (by omega), if_neg (by omega)]
    omega
  rw [e]
  exact ⟨fun h h0 => h ⟨h1, h2, h0⟩, fun h h0 => h h0.2.2⟩

set_option maxHeartbeats 4000000 in
set_option maxRecDepth 100000 in
theorem rpower_any (s : ByteArray) (w : World) (h4 : (4 : Int) ≤ (s.size : Int)) (h39 : (s.size : Int) ≤ 39) (_hse : ¬ s = ByteArray.empty) :
    Calls Tryz.prog 29 #[.string s] w fun e w' => PwEnd s e ∧ w = w' := by
  have h34 : (3 : Int) < (s.size : Int) := by omega
  have i3 := idx_cb s 3 3 rfl (by omega)
  go_enter Tryz.func29, Tryz.ntmps29
  go_upto_if 19 with fail
  go_cut [4, 5, 6] (fun x4 x5 x6 wx => RelA s x4 x5 x6 ∧ w = wx)
  case first =>
    by_cases h46 : cb s 3 = 46
    · have H46 : Hid (cb s 3 = 46) := h46
      have c46 : ((cb s 3).toNat : Int) = 46 := by rw [h46]; rfl
      rw [c46] at i3
      rw [c46, show ((46 : Int) == 46) = true from rfl]
      clear h46 c46
      go_wp2_with fail
      go_loop [4, 5, 6] (fun x4 x5 x6 => RelD s x4 x5 x6) (fun _ _ x6 => 14 - (intOf x6).toNat)
      case atStart => exact ⟨0, 1, rfl, rfl, rfl, by omega, by omega, fun j hj => by omega, rfl⟩
      case round =>
        obtain ⟨n, M, rfl, rfl, rfl, HD⟩ := hrel
        have hn : n ≤ 13 := HD.out.1
        have hM : M < 2 ^ 53 := pd_53 HD.out
        have hI : 4 + (n : Int) ≤ (s.size : Int) := by have := HD.out.2.1; omega
        by_cases hlt : 4 + (n : Int) < (s.size : Int)
        · have hix := idx_cb s (4 + n) (4 + (n : Int)) (by omega) (by omega)
          have hh := rhex_any (cb s (4 + n)) w
          by_cases hx : isx (cb s (4 + n))
          · have hh16 := (hx16_is hx).2
            obtain ⟨d, hd⟩ : ∃ d, hx16 (cb s (4 + n)) = d := ⟨_, rfl⟩
            rw [hd] at hh hh16
            by_cases h13 : n < 13
            · have HDN : Hid (PD s (M * 16 + d) (n + 1)) := by rw [← hd]; exact pd_next HD.out h13 (by omega) hx
              have ho := or16 M d hM hh16
              obtain ⟨c, hc⟩ : ∃ c : Int, ((cb s (4 + n)).toNat : Int) = c := ⟨_, rfl⟩
              rw [hc] at hh hix
              obtain ⟨M', hM'⟩ : ∃ M' : Nat, M * 16 + d = M' := ⟨_, rfl⟩
              rw [hM'] at ho HDN
              clear hd hc hx HD hM'
              go_wp2_with (go_at_call 49; refine hh.mono ?_; rintro e w' ⟨rfl, rfl⟩)
              refine ⟨⟨n + 1, M', by go_num, rfl, by go_num, HDN.out⟩, ?_⟩
              simp [intOf]
              omega
            · have HA : Hid (PA s (4 + n) M n) := pd_end HD.out H46.out (.inr (.inr (by omega)))
              have h13' : decide ((n : Int) < 13) = false := decide_eq_false (by omega)
              obtain ⟨c, hc⟩ : ∃ c : Int, ((cb s (4 + n)).toNat : Int) = c := ⟨_, rfl⟩
              rw [hc] at hh hix
              clear hd hc hx HD
              go_wp2_with (go_at_call 49; refine hh.mono ?_; rintro e w' ⟨rfl, rfl⟩)
              go_meet
              exact ⟨⟨4 + n, M, n, by go_num, rfl, rfl, HA.out⟩, rfl⟩
          · have HA : Hid (PA s (4 + n) M n) := pd_end HD.out H46.out (.inr (.inl hx))
            rw [hx16_not hx] at hh
            obtain ⟨c, hc⟩ : ∃ c : Int, ((cb s (4 + n)).toNat : Int) = c := ⟨_, rfl⟩
            rw [hc] at hh hix
            clear hc hx HD
            go_wp2_with (go_at_call 49; refine hh.mono ?_; rintro e w' ⟨rfl, rfl⟩)
            go_meet
            exact ⟨⟨4 + n, M, n, by go_num, rfl, rfl, HA.out⟩, rfl⟩
        · have HA : Hid (PA s (4 + n) M n) := pd_end HD.out H46.out (.inl (by omega))
          have hlt' : decide (4 + (n : Int) < (s.size : Int)) = false := decide_eq_false hlt
          clear HD
          go_wp2_with fail
          go_meet
          exact ⟨⟨4 + n, M, n, by go_num, rfl, rfl, HA.out⟩, rfl⟩
    · have HA : Hid (PA s 3 1 0) := pa_none (by omega) h46
      have hb : (((cb s 3).toNat : Int) == 46) = false := u8_eqb (k := 46) (by decide) h46
      clear h46
      go_wp2_with fail
      go_meet
      exact ⟨⟨3, 1, 0, rfl, rfl, rfl, HA.out⟩, rfl⟩
  case rest =>
    obtain ⟨⟨I, M, n, rfl, rfl, rfl, HA⟩, rfl⟩ := hcut
    have hI0 : 3 ≤ I := HA.out.1
    have hI : I ≤ s.size := HA.out.2.1
    have hn : n ≤ 13 := HA.out.2.2.1
    have hM : M < 2 ^ 53 := HA.out.2.2.2.1
    clear i3
    by_cases t1 : (I : Int) + 2 < (s.size : Int)
    case neg =>
      have HF : Hid (∀ T Xs es, HX T Xs → s.data.toList = hxL T Xs es → False) := fun T Xs es hX hs => by
        have := pa_at HA.out hX hs
        have := hX.2.2.2.1
        omega
      have t1' : (s.size : Int) ≤ (I : Int) + 2 := by omega
      clear HA t1
      go_wp2
      go_ret2
      exact ⟨pw_no HF.out, rfl⟩
    case pos =>
      have hi0 := idx_cb s I I rfl (by omega)
      by_cases c0 : cb s I = 112
      case neg =>
        have HF : Hid (∀ T Xs es, HX T Xs → s.data.toList = hxL T Xs es → False) := fun T Xs es hX hs => c0 (pa_at HA.out hX hs).2.1
        have hb : (((cb s I).toNat : Int) == 112) = false := u8_eqb (k := 112) (by decide) c0
        have hb2 : (((cb s I).toNat : Int) != 112) = true := by rw [bne, hb]; rfl
        obtain ⟨c, hc⟩ : ∃ c : Int, ((cb s I).toNat : Int) = c := ⟨_, rfl⟩
        rw [hc] at hi0 hb hb2
        clear HA hc c0
        go_wp2
        go_ret2
        exact ⟨pw_no HF.out, rfl⟩
      case pos =>
        rw [show ((cb s I).toNat : Int) = 112 by rw [c0]; rfl] at hi0
        have hi1 := idx_cb s (I + 1) ((I : Int) + 1) (by omega) (by omega)
        clear c0
        by_cases c1 : cb s (I + 1) = 43
        case pos =>
          as_aux_lemma =>
            have HSG : Hid (cb s (I + 1) = 43) := c1
            rw [show ((cb s (I + 1)).toNat : Int) = 43 by rw [c1]; rfl] at hi1
            clear c1
            by_cases t2 : (s.size : Int) - (I : Int) ≤ 6
            case neg =>
              have HF : Hid (∀ T Xs es, HX T Xs → s.data.toList = hxL T Xs es → False) := fun T Xs es hX hs => by
                have := pa_at HA.out hX hs
                have := hX.2.2.2.2
                omega
              have t2' : 6 < (s.size : Int) - (I : Int) := by omega
              clear HA t2
              go_wp2
              go_ret2
              exact ⟨pw_no HF.out, rfl⟩
            case pos =>
              go_wp2_with fail
              go_loop [7, 8] (fun x7 x8 => RelK s I x7 x8) (fun _ x8 => s.size - (intOf x8).toNat)
              case atStart => exact ⟨I + 2, 0, rfl, by go_num, by omega, by omega, by omega, fun j hj => by omega, by rw [Nat.sub_self]; rfl⟩
              case round =>
                obtain ⟨k, E, rfl, rfl, HE⟩ := hrel
                have hk1 : I + 2 ≤ k := HE.out.1
                have hk2 : k ≤ s.size := HE.out.2.1
                have hE := pe_bd HE.out
                by_cases hlt : (k : Int) < (s.size : Int)
                · have hik := idx_cb s k k rfl (by omega)
                  have hdg := digit_any (cb s k) w
                  by_cases hd : 48 ≤ (cb s k).toNat ∧ (cb s k).toNat ≤ 57
                  · have HN : Hid (PE s I (k + 1) (E * 10 + ((cb s k).toNat - 48))) := pe_next HE.out (by omega) hd
                    rw [show dgU (cb s k) = true by unfold dgU dgB; simpa using hd] at hdg
                    obtain ⟨c, hc⟩ : ∃ c : Nat, (cb s k).toNat = c := ⟨_, rfl⟩
                    rw [hc] at hdg hik HN hd
                    obtain ⟨hd1, hd2⟩ := hd
                    clear hc HE
                    go_wp2_with (go_at_call 50; refine hdg.mono ?_; rintro e w' ⟨rfl, rfl⟩)
                    refine ⟨⟨k + 1, E * 10 + (c - 48), by go_num, by go_num, HN.out⟩, ?_⟩
                    simp [intOf]
                    omega
                  · have HF : Hid (∀ T Xs es, HX T Xs → s.data.toList = hxL T Xs es → False) := pe_bad HA.out HE.out (by omega) hd
                    rw [show dgU (cb s k) = false by unfold dgU dgB; simpa using hd] at hdg
                    obtain ⟨c, hc⟩ : ∃ c : Int, ((cb s k).toNat : Int) = c := ⟨_, rfl⟩
                    rw [hc] at hdg hik
                    clear hc HE hd HA
                    go_wp2_with (go_at_call 50; refine hdg.mono ?_; rintro e w' ⟨rfl, rfl⟩)
                    go_ret2
                    exact ⟨pw_no HF.out, rfl⟩
                · have hks : k = s.size := by omega
                  subst hks
                  obtain ⟨R, hR⟩ : ∃ R, fin (fi M) ((E : Int) - 4 * (n : Int)) = R := ⟨_, rfl⟩
                  have HR : Hid (fin (fi M) ((E : Int) - 4 * (n : Int)) = R) := hR
                  have HP : Hid (∀ r, r ≤ 0x7ff0000000000000 → R = r → PwEnd s (.returned (.tuple #[.float .f64 r, .bool true]))) := fun r hr he => pe_end (neg := false) HA.out HE.out HSG.out hr (hR.trans he)
                  have hfl : floatOfInt .f64 (M : Int) = fi M := floatOfInt_nat M
                  clear hR HA HE HSG
                  go_wp2_with fail
                  go_loop [7, 9] (fun x7 x9 => RelX 20000 R x7 x9) (fun x7 _ => (intOf x7).toNat)
                  case atStart => exact ⟨_, _, rfl, rfl, ⟨fi_inf M, HR.out⟩, by omega, by omega⟩
                  case round =>
                    obtain ⟨e, r, rfl, rfl, HXX, he1, he2⟩ := hrel
                    by_cases hp : 0 < e
                    · have hmul : ∀ W, (binOp .mul 22 (.float .f64 r) (.float .f64 4611686018427387904)).run Tryz.prog W = .ok (.float .f64 (dbl r)) W := fun W => run_float_arith W .mul 22 .f64 _ _ _ (mul_two HXX.out.1)
                      have HN : Hid (dbl r ≤ 0x7ff0000000000000 ∧ fin (dbl r) (e - 1) = R) := ⟨dbl_le r, (fin_dbl r hp).trans HXX.out.2⟩
                      generalize dbl r = r' at *
                      clear HXX
                      go_wp2
                      refine ⟨⟨e - 1, r', rfl, rfl, HN.out, by omega, by omega⟩, ?_⟩
                      simp [intOf]
                      omega
                    · have hp' : e ≤ 0 := by omega
                      clear hp
                      go_wp2_with fail
                      go_loop [7, 9] (fun x7 x9 => RelX 0 R x7 x9) (fun x7 _ => (-(intOf x7)).toNat)
                      case atStart => exact ⟨_, _, rfl, rfl, HXX.out, by omega, by omega⟩
                      case round =>
                        clear HXX he1 he2 hp'
                        obtain ⟨e, r, rfl, rfl, HXX, he1, he2⟩ := hrel
                        have hz := ne_zero HXX.out.1
                        by_cases hp : e < 0
                        · by_cases hr : r = 0
                          · subst hr
                            have HF : Hid (PwEnd s (.returned (.tuple #[.float .f64 0, .bool true]))) := HP.out 0 (by omega) (HXX.out.2.symm.trans (fin_nought (by omega)))
                            rw [decide_eq_false (by simp)] at hz
                            clear HXX HP HR
                            go_wp2
                            go_ret2
                            exact ⟨HF.out, rfl⟩
                          · rw [decide_eq_true hr] at hz
                            have hq : ∀ W, (binOp .quo 22 (.float .f64 r) (.float .f64 4611686018427387904)).run Tryz.prog W = .ok (.float .f64 (hlf r)) W := fun W => run_float_arith W .quo 22 .f64 _ _ _ (quo_two HXX.out.1)
                            have HN : Hid (hlf r ≤ 0x7ff0000000000000 ∧ fin (hlf r) (e + 1) = R) := ⟨hlf_le r, (fin_hlf r hp).trans HXX.out.2⟩
                            generalize hlf r = r' at *
                            clear HXX hr
                            go_wp2
                            refine ⟨⟨e + 1, r', rfl, rfl, HN.out, by omega, by omega⟩, ?_⟩
                            simp [intOf]
                            omega
                        · have h0 : e = 0 := by omega
                          subst h0
                          have HF : Hid (PwEnd s (.returned (.tuple #[.float .f64 r, .bool true]))) := HP.out r HXX.out.1 (HXX.out.2.symm.trans (fin_zero r))
                          clear HXX HP HR hz hp
                          go_wp2
                          go_ret2
                          exact ⟨HF.out, rfl⟩
        case neg =>
          have n43 : (((cb s (I + 1)).toNat : Int) == 43) = false := u8_eqb (k := 43) (by decide) c1
          have m43 : (((cb s (I + 1)).toNat : Int) != 43) = true := by rw [bne, n43]; rfl
          clear c1
          by_cases c1 : cb s (I + 1) = 45
          case pos =>
            clear n43 m43
            as_aux_lemma =>
              have HSG : Hid (cb s (I + 1) = 45) := c1
              rw [show ((cb s (I + 1)).toNat : Int) = 45 by rw [c1]; rfl] at hi1
              clear c1
              by_cases t2 : (s.size : Int) - (I : Int) ≤ 6
              case neg =>
                have HF : Hid (∀ T Xs es, HX T Xs → s.data.toList = hxL T Xs es → False) := fun T Xs es hX hs => by
                  have := pa_at HA.out hX hs
                  have := hX.2.2.2.2
                  omega
                have t2' : 6 < (s.size : Int) - (I : Int) := by omega
                clear HA t2
                go_wp2
                go_ret2
                exact ⟨pw_no HF.out, rfl⟩
              case pos =>
                go_wp2_with fail
                go_loop [7, 8] (fun x7 x8 => RelK s I x7 x8) (fun _ x8 => s.size - (intOf x8).toNat)
                case atStart => exact ⟨I + 2, 0, rfl, by go_num, by omega, by omega, by omega, fun j hj => by omega, by rw [Nat.sub_self]; rfl⟩
                case round =>
                  obtain ⟨k, E, rfl, rfl, HE⟩ := hrel
                  have hk1 : I + 2 ≤ k := HE.out.1
                  have hk2 : k ≤ s.size := HE.out.2.1
                  have hE := pe_bd HE.out
                  by_cases hlt : (k : Int) < (s.size : Int)
                  · have hik := idx_cb s k k rfl (by omega)
                    have hdg := digit_any (cb s k) w
                    by_cases hd : 48 ≤ (cb s k).toNat ∧ (cb s k).toNat ≤ 57
                    · have HN : Hid (PE s I (k + 1) (E * 10 + ((cb s k).toNat - 48))) := pe_next HE.out (by omega) hd
                      rw [show dgU (cb s k) = true by unfold dgU dgB; simpa using hd] at hdg
                      obtain ⟨c, hc⟩ : ∃ c : Nat, (cb s k).toNat = c := ⟨_, rfl⟩
                      rw [hc] at hdg hik HN hd
                      obtain ⟨hd1, hd2⟩ := hd
                      clear hc HE
                      go_wp2_with (go_at_call 50; refine hdg.mono ?_; rintro e w' ⟨rfl, rfl⟩)
                      refine ⟨⟨k + 1, E * 10 + (c - 48), by go_num, by go_num, HN.out⟩, ?_⟩
                      simp [intOf]
                      omega
                    · have HF : Hid (∀ T Xs es, HX T Xs → s.data.toList = hxL T Xs es → False) := pe_bad HA.out HE.out (by omega) hd
                      rw [show dgU (cb s k) = false by unfold dgU dgB; simpa using hd] at hdg
                      obtain ⟨c, hc⟩ : ∃ c : Int, ((cb s k).toNat : Int) = c := ⟨_, rfl⟩
                      rw [hc] at hdg hik
                      clear hc HE hd HA
                      go_wp2_with (go_at_call 50; refine hdg.mono ?_; rintro e w' ⟨rfl, rfl⟩)
                      go_ret2
                      exact ⟨pw_no HF.out, rfl⟩
                  · have hks : k = s.size := by omega
                    subst hks
                    obtain ⟨R, hR⟩ : ∃ R, fin (fi M) (-(E : Int) - 4 * (n : Int)) = R := ⟨_, rfl⟩
                    have HR : Hid (fin (fi M) (-(E : Int) - 4 * (n : Int)) = R) := hR
                    have HP : Hid (∀ r, r ≤ 0x7ff0000000000000 → R = r → PwEnd s (.returned (.tuple #[.float .f64 r, .bool true]))) := fun r hr he => pe_end (neg := true) HA.out HE.out HSG.out hr (hR.trans he)
                    have hfl : floatOfInt .f64 (M : Int) = fi M := floatOfInt_nat M
                    clear hR HA HE HSG
                    go_wp2_with fail
                    go_loop [7, 9] (fun x7 x9 => RelX 20000 R x7 x9) (fun x7 _ => (intOf x7).toNat)
                    case atStart => exact ⟨_, _, rfl, rfl, ⟨fi_inf M, HR.out⟩, by omega, by omega⟩
                    case round =>
                      obtain ⟨e, r, rfl, rfl, HXX, he1, he2⟩ := hrel
                      by_cases hp : 0 < e
                      · have hmul : ∀ W, (binOp .mul 22 (.float .f64 r) (.float .f64 4611686018427387904)).run Tryz.prog W = .ok (.float .f64 (dbl r)) W := fun W => run_float_arith W .mul 22 .f64 _ _ _ (mul_two HXX.out.1)
                        have HN : Hid (dbl r ≤ 0x7ff0000000000000 ∧ fin (dbl r) (e - 1) = R) := ⟨dbl_le r, (fin_dbl r hp).trans HXX.out.2⟩
                        generalize dbl r = r' at *
                        clear HXX
                        go_wp2
                        refine ⟨⟨e - 1, r', rfl, rfl, HN.out, by omega, by omega⟩, ?_⟩
                        simp [intOf]
                        omega
                      · have hp' : e ≤ 0 := by omega
                        clear hp
                        go_wp2_with fail
                        go_loop [7, 9] (fun x7 x9 => RelX 0 R x7 x9) (fun x7 _ => (-(intOf x7)).toNat)
                        case atStart => exact ⟨_, _, rfl, rfl, HXX.out, by omega, by omega⟩
                        case round =>
                          clear HXX he1 he2 hp'
                          obtain ⟨e, r, rfl, rfl, HXX, he1, he2⟩ := hrel
                          have hz := ne_zero HXX.out.1
                          by_cases hp : e < 0
                          · by_cases hr : r = 0
                            · subst hr
                              have HF : Hid (PwEnd s (.returned (.tuple #[.float .f64 0, .bool true]))) := HP.out 0 (by omega) (HXX.out.2.symm.trans (fin_nought (by omega)))
                              rw [decide_eq_false (by simp)] at hz
                              clear HXX HP HR
                              go_wp2
                              go_ret2
                              exact ⟨HF.out, rfl⟩
                            · rw [decide_eq_true hr] at hz
                              have hq : ∀ W, (binOp .quo 22 (.float .f64 r) (.float .f64 4611686018427387904)).run Tryz.prog W = .ok (.float .f64 (hlf r)) W := fun W => run_float_arith W .quo 22 .f64 _ _ _ (quo_two HXX.out.1)
                              have HN : Hid (hlf r ≤ 0x7ff0000000000000 ∧ fin (hlf r) (e + 1) = R) := ⟨hlf_le r, (fin_hlf r hp).trans HXX.out.2⟩
                              generalize hlf r = r' at *
                              clear HXX hr
                              go_wp2
                              refine ⟨⟨e + 1, r', rfl, rfl, HN.out, by omega, by omega⟩, ?_⟩
                              simp [intOf]
                              omega
                          · have h0 : e = 0 := by omega
                            subst h0
                            have HF : Hid (PwEnd s (.returned (.tuple #[.float .f64 r, .bool true]))) := HP.out r HXX.out.1 (HXX.out.2.symm.trans (fin_zero r))
                            clear HXX HP HR hz hp
                            go_wp2
                            go_ret2
                            exact ⟨HF.out, rfl⟩
          case neg =>
            have HF : Hid (∀ T Xs es, HX T Xs → s.data.toList = hxL T Xs es → False) := fun T Xs es hX hs => by
              have h43 : (cb s (I + 1)).toNat ≠ 43 := fun h => by rw [h] at n43; cases n43
              have := (pa_at HA.out hX hs).2.2.1
              cases es
              · exact h43 (by rw [this]; rfl)
              · exact c1 this
            have n45 : (((cb s (I + 1)).toNat : Int) == 45) = false := u8_eqb (k := 45) (by decide) c1
            have m45 : (((cb s (I + 1)).toNat : Int) != 45) = true := by rw [bne, n45]; rfl
            obtain ⟨c, hc⟩ : ∃ c : Int, ((cb s (I + 1)).toNat : Int) = c := ⟨_, rfl⟩
            rw [hc] at hi1 n43 m43 n45 m45
            clear HA hc c1
            go_wp2
            go_ret2
            exact ⟨pw_no HF.out, rfl⟩
end Go.Proofs.YtieldmakbokekaaGreatDoor.Oct
