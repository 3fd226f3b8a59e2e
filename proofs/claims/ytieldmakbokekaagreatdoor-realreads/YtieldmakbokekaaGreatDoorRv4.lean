/-
  The document's Show at every number.
-/
import Derived.Test.YtieldmakbokekaaGreatDoorRv2
import Derived.Test.YtieldmakbokekaaGreatDoorRv3
namespace Go.Proofs.YtieldmakbokekaaGreatDoor.Oct
open Go.RowKit
open Go.Proofs.YtieldmakbokekaaGreatDoor.Fl

set_option maxRecDepth 100000 in
theorem rshow_nan (x : Nat) (w : World) (h : Nan x) : Calls Tryz.prog 8 #[.float .f64 x] w fun e w' => e = .returned (.string ⟨#[110, 97, 110]⟩) ∧ w = w' := by
  have hs := ne_self x
  rw [decide_eq_true h] at hs
  have hb := rbits_any x w
  rw [nb_nan h] at hb
  go_enter Tryz.func8, Tryz.ntmps8
  go_wp2_with fail
  refine hb.mono ?_
  rintro e w' ⟨rfl, rfl⟩
  clear hb
  have a1 : bits .and .u64 2047 2047 = 2047 := by decide
  go_wp2
  go_ret
  exact ⟨rfl, rfl⟩

/-- What Show says of a number that is not a NaN. -/
def shw (x : Nat) : ByteArray :=
  if x % 2 ^ 63 = 0x7ff0000000000000 then sgn x ++ ⟨#[105, 110, 102]⟩
  else if whole x = true then sgn x ++ ⟨(Lib.decDigits (wh (x % 2 ^ 63))).toArray⟩
  else sgn x ++ hxs (x % 2 ^ 63)

theorem sgn_of (x : Nat) (hl : x < 2 ^ 64) : (((x : Int) / 9223372036854775808 == 1) = true ∧ sgn x = ⟨#[45]⟩) ∨ (((x : Int) / 9223372036854775808 == 1) = false ∧ sgn x = ⟨#[]⟩) := by
  unfold sgn
  by_cases h : 2 ^ 63 ≤ x
  · exact .inl ⟨by simp; omega, by simp [h]⟩
  · exact .inr ⟨by simp; omega, by simp [h]⟩

/-- The numbers that the document shows in digits are the whole ones. -/
theorem rshow_norm (x a E F M0 : Nat) (w : World) (hX : Xp x a E F) (h0 : ¬ (E : Int) = 0) (hM : Mn F M0) :
    Calls Tryz.prog 8 #[.float .f64 x] w fun e w' => e = .returned (.string (shw x)) ∧ Below w.heap.size w w' := by
  have ha : a = E * 4503599627370496 + (M0 - 4503599627370496) := by have := hX.ea; have := hX.fa; have := hM.1; omega
  have hnum := hX.num
  have hax := hX.ax
  have hE2 : E < 2047 := by have := hX.ea; omega
  have hM1 : 4503599627370496 ≤ M0 := by have := hM.1; omega
  have hM2 : M0 < 9007199254740992 := by have := hM.1; have := hM.2; omega
  have hS : Sf a F ((E : Int) - 1023) := by
    obtain ⟨h1, h2⟩ := fb_norm (a := a) (by omega)
    have := hX.ea; have := hX.fa
    refine ⟨by rw [h1]; exact hX.fa, by rw [h1, h2]; omega⟩
  have e0 : shw x = if whole x = true then sgn x ++ ⟨(Lib.decDigits (wh a)).toArray⟩ else sgn x ++ hxs a := by
    unfold shw; rw [← hax, if_neg (by omega)]
  have ew : (whole x = true) ↔ a < 4831355200913801216 ∧ fi (wh a) = a := by unfold whole; rw [← hax]; simp
  rcases sgn_of x hX.lt with ⟨hs, hsg⟩ | ⟨hs, hsg⟩
  all_goals
    rw [hsg] at e0
    rw [e0]
    by_cases hlow : E < 1023
    · have hw : ¬ whole x = true := fun h => whole_low (by omega) hlow hM1 hM2 ha (ew.1 h).2
      rw [if_neg hw]
      first | exact rlow_neg x a E F M0 _ w hX hM hs h0 rfl hS (by omega) | exact rlow_pos x a E F M0 _ w hX hM hs h0 rfl hS (by omega)
    · obtain ⟨n, rfl⟩ : ∃ n, E = 1023 + n := ⟨E - 1023, by omega⟩
      have hk : ((1023 + n : Nat) : Int) - 1023 = (n : Int) := by omega
      rw [hk] at hS
      by_cases h52 : n ≤ 52
      · obtain ⟨hd, hwh⟩ := whole_mid h52 hM1 hM2 ha
        have hR : (M0 : Int) / 2 ^ (52 - n) = ((wh a : Nat) : Int) := by rw [hwh]; simp
        have hsh : IntKind.u64.wrap ((M0 : Int) * 2 ^ (12 + (n : Int)).toNat) = ((M0 % 2 ^ (52 - n) * 2 ^ (12 + n) : Nat) : Int) := by
          rw [IntKind.wrap_u64, show (12 + (n : Int)).toNat = 12 + n by omega, show (M0 : Int) * 2 ^ (12 + n) = ((M0 * 2 ^ (12 + n) : Nat) : Int) by simp]
          have : 18446744073709551616 = 2 ^ (52 - n) * 2 ^ (12 + n) := by rw [← Nat.pow_add, show 52 - n + (12 + n) = 64 by omega]
          rw [← Nat.mul_mod_mul_right, ← this]
          omega
        by_cases hz : M0 % 2 ^ (52 - n) = 0
        · have hfi := hd.2 hz
          rw [hz, Nat.zero_mul] at hsh
          have hsz := whole_size (by omega) hfi
          by_cases hb : wh a < 1000000000000000
          · have hw : whole x = true := ew.2 ⟨hsz.2 hb, hfi⟩
            rw [if_pos hw]
            first
              | exact rwhole_neg x a _ F M0 n w hX hM hs h0 hk (by omega) (wh a : Nat) hsh hR (by omega) (by omega)
              | exact rwhole_pos x a _ F M0 n w hX hM hs h0 hk (by omega) (wh a : Nat) hsh hR (by omega) (by omega)
          · have hw : ¬ whole x = true := fun h => hb (hsz.1 (ew.1 h).1)
            rw [if_neg hw]
            first
              | exact rmidB_neg x a _ F M0 n w hX hM hs h0 hk hS (by omega) (wh a : Nat) hsh hR (by omega)
              | exact rmidB_pos x a _ F M0 n w hX hM hs h0 hk hS (by omega) (wh a : Nat) hsh hR (by omega)
        · have hw : ¬ whole x = true := fun h => hz (hd.1 (ew.1 h).2)
          rw [if_neg hw]
          have hnz : ¬ ((M0 % 2 ^ (52 - n) * 2 ^ (12 + n) : Nat) : Int) = 0 := by
            intro h
            have h1 : M0 % 2 ^ (52 - n) * 2 ^ (12 + n) = 0 := by omega
            rcases Nat.mul_eq_zero.1 h1 with h2 | h2
            · exact hz h2
            · exact absurd h2 (Nat.ne_of_gt (Nat.two_pow_pos _))
          first
            | exact rmidR_neg x a _ F M0 n w hX hM hs h0 hk hS (by omega) _ hsh hnz
            | exact rmidR_pos x a _ F M0 n w hX hM hs h0 hk hS (by omega) _ hsh hnz
      · have hw : ¬ whole x = true := fun h => by have := (ew.1 h).1; omega
        rw [if_neg hw]
        first | exact rhigh_neg x a _ F M0 n w hX hM hs h0 hk hS (by omega) | exact rhigh_pos x a _ F M0 n w hX hM hs h0 hk hS (by omega)

theorem and_exp (x : Nat) (hl : x < 2 ^ 64) : bits .and .u64 ((x : Int) / 4503599627370496) 2047 = ((x % 2 ^ 63 / 4503599627370496 : Nat) : Int) := by
  have h1 : (BitVec.ofInt 64 ((x / 4503599627370496 : Nat) : Int)).toNat = x / 4503599627370496 := by
    rw [BitVec.ofInt_natCast, BitVec.toNat_ofNat]; exact Nat.mod_eq_of_lt (by omega)
  have h2 : (BitVec.ofInt 64 2047).toNat = 2 ^ 11 - 1 := by decide
  show IntKind.u64.wrap ((BitVec.ofInt 64 ((x / 4503599627370496 : Nat) : Int) &&& BitVec.ofInt 64 2047).toNat : Int) = _
  rw [BitVec.toNat_and, h1, h2, Nat.and_two_pow_sub_one_eq_mod, IntKind.wrap_u64]
  omega

set_option maxRecDepth 100000 in
theorem rshow_inf (x : Nat) (w : World) (hl : x < 2 ^ 64) (h : x % 2 ^ 63 = 0x7ff0000000000000) : Calls Tryz.prog 8 #[.float .f64 x] w fun e w' => e = .returned (.string (sgn x ++ ⟨#[105, 110, 102]⟩)) ∧ w = w' := by
  have hn : ¬ Nan x := by rw [nan_iff]; omega
  have hs := ne_self x
  rw [decide_eq_false hn] at hs
  have hb := rbits_any x w
  rw [nb_num hn] at hb
  have a3 := and_exp x hl
  rw [h, show 0x7ff0000000000000 / 4503599627370496 = 2047 by decide] at a3
  have a2 := andm x hl
  obtain ⟨f, hf⟩ : ∃ f, x % 4503599627370496 = f := ⟨_, rfl⟩
  rw [hf] at a2
  have hxl : x < 18446744073709551616 := hl
  clear hf h hn
  rcases sgn_of x hl with ⟨hs2, hsg⟩ | ⟨hs2, hsg⟩
  all_goals
    rw [hsg]
    clear hsg hl
    go_enter Tryz.func8, Tryz.ntmps8
    go_wp2_with fail
    refine hb.mono ?_
    rintro e w' ⟨rfl, rfl⟩
    clear hb
    go_wp2
    go_ret
    exact ⟨rfl, rfl⟩

set_option maxRecDepth 100000 in
theorem rshow_zero (x : Nat) (w : World) (hl : x < 2 ^ 64) (h : x % 2 ^ 63 = 0) : Calls Tryz.prog 8 #[.float .f64 x] w fun e w' => e = .returned (.string (sgn x ++ ⟨#[48]⟩)) ∧ w = w' := by
  have hn : ¬ Nan x := by rw [nan_iff]; omega
  have hs := ne_self x
  rw [decide_eq_false hn] at hs
  have hb := rbits_any x w
  rw [nb_num hn] at hb
  have a3 := and_exp x hl
  rw [h, show 0 / 4503599627370496 = 0 by decide] at a3
  have a2 := andm x hl
  obtain ⟨f, hf⟩ : ∃ f, x % 4503599627370496 = f := ⟨_, rfl⟩
  rw [hf] at a2
  have hord : (FloatKind.f64.format.order x 0 == some .eq) = true := by
    have : x = 0 ∨ x = 9223372036854775808 := by omega
    rcases this with rfl | rfl <;> decide +kernel
  have hxl : x < 18446744073709551616 := hl
  clear hf h hn
  rcases sgn_of x hl with ⟨hs2, hsg⟩ | ⟨hs2, hsg⟩
  all_goals
    rw [hsg]
    clear hsg hl
    go_enter Tryz.func8, Tryz.ntmps8
    go_wp2_with fail
    refine hb.mono ?_
    rintro e w' ⟨rfl, rfl⟩
    clear hb
    go_wp2
    go_ret
    exact ⟨rfl, rfl⟩

theorem rshow_any (x : Nat) (w : World) (hl : x < 2 ^ 64) (hn : ¬ Nan x) : Calls Tryz.prog 8 #[.float .f64 x] w fun e w' => e = .returned (.string (shw x)) ∧ Below w.heap.size w w' := by
  rw [nan_iff] at hn
  by_cases hi : x % 2 ^ 63 = 0x7ff0000000000000
  · refine (rshow_inf x w hl hi).mono ?_
    rintro e w' ⟨rfl, rfl⟩
    unfold shw
    rw [if_pos hi]
    exact ⟨rfl, Below.refl _ w⟩
  · by_cases hz : x % 2 ^ 63 = 0
    · refine (rshow_zero x w hl hz).mono ?_
      rintro e w' ⟨rfl, rfl⟩
      have hw0 : wh 0 = 0 := by unfold wh; rw [V_zero, Nat.zero_div]
      have hw : whole x = true := by unfold whole; rw [hz, hw0, fi_zero]; decide
      unfold shw
      rw [if_neg hi, if_pos hw, hz, hw0, Lib.decDigits, dif_pos (by omega)]
      exact ⟨rfl, Below.refl _ w⟩
    · have hX : Xp x (x % 2 ^ 63) (x % 2 ^ 63 / 4503599627370496) (x % 2 ^ 63 % 4503599627370496) := ⟨hl, rfl, by omega, by omega, rfl, rfl⟩
      by_cases hE : x % 2 ^ 63 / 4503599627370496 = 0
      · have ha : x % 2 ^ 63 % 4503599627370496 = x % 2 ^ 63 := by omega
        rw [hE, ha] at hX
        have hw : ¬ whole x = true := by
          intro h
          unfold whole at h
          have h2 : fi (wh (x % 2 ^ 63)) = x % 2 ^ 63 := by simp at h; exact h.2
          rw [whole_dvd (by omega), V_lo (by omega)] at h2
          have h4 : pw 63 ≤ pw 1074 := pw_le (by decide)
          rw [pw_eq 63] at h4
          have h3 : x % 2 ^ 63 < pw 1074 := Nat.lt_of_lt_of_le (show x % 2 ^ 63 < 2 ^ 63 by omega) h4
          rw [Nat.mod_eq_of_lt h3] at h2
          exact hz h2
        have e0 : shw x = sgn x ++ hxs (x % 2 ^ 63) := by unfold shw; rw [if_neg hi, if_neg hw]
        rw [e0]
        rcases sgn_of x hl with ⟨hs, hsg⟩ | ⟨hs, hsg⟩
        · rw [hsg]; exact rsub_neg x _ w hX hs
        · rw [hsg]; exact rsub_pos x _ w hX hs
      · obtain ⟨M0, hM, _⟩ := hX.mn
        exact rshow_norm x _ _ _ M0 w hX (by omega) hM

/-- The program's. -/
theorem show_any (x : Nat) (w : World) (hl : x < 2 ^ 64) (hn : ¬ Nan x) (ht : Tab w) (hz : Tz w) : Calls Tryz.prog 6 #[.float .f64 x] w fun e w' => e = .returned (.string (shw x)) ∧ Below w.heap.size w w' := by
  rw [nan_iff] at hn
  unfold shw
  by_cases hi : x % 2 ^ 63 = 0x7ff0000000000000
  · rw [if_pos hi]
    refine (show_inf x w hl hi).mono ?_
    rintro e w' ⟨rfl, rfl⟩
    exact ⟨rfl, Below.refl _ w⟩
  · rw [if_neg hi]
    by_cases hw : whole x = true
    · rw [if_pos hw]
      exact show_whole x w hl hw (.inl ht)
    · rw [if_neg hw]
      refine show_hex x w hl (by omega) ?_ (by simpa using hw) ht hz
      refine Nat.pos_of_ne_zero fun h0 => hw ?_
      have hw0 : wh 0 = 0 := by unfold wh; rw [V_zero, Nat.zero_div]
      unfold whole; rw [h0, hw0, fi_zero]; decide

end Go.Proofs.YtieldmakbokekaaGreatDoor.Oct
