/-
  real.exponent, real.hex.
-/
import Derived.Test.YtieldmakbokekaaGreatDoorHx
import Derived.Test.YtieldmakbokekaaGreatDoorFx
import Derived.Test.YtieldmakbokekaaGreatDoorSw
import Derived.Lib.ItoaLen
namespace Go.Proofs.YtieldmakbokekaaGreatDoor.Oct
open Go.RowKit
open Go.Proofs.YtieldmakbokekaaGreatDoor.Fl

/-- An exponent, with its sign. -/
def hxe (k : Int) : ByteArray := if k < 0 then ⟨(Lib.itoa k).toArray⟩ else ⟨#[43]⟩ ++ ⟨(Lib.itoa k).toArray⟩

theorem exponent_any (k : Int) (w : World) (h0 : -3000 < k) (h1 : k < 3000) (ht : Tab w) :
    Calls Tryz.prog 41 #[.int .i64 k] w fun e w' => e = .returned (.string (hxe k)) ∧ Below w.heap.size w w' := by
  have HT : Hid (Tab w) := ht
  clear ht
  unfold hxe
  by_cases hk : k < 0
  · rw [if_pos hk]
    go_enter Tryz.func41, Tryz.ntmps41
    go_wp2_with fail
    refine (Tryz.strconv_Itoa k (by omega) (by omega) _ HT.out).mono ?_
    rintro e w' ⟨rfl, j, os, rfl⟩
    have HB : Hid (Below w.heap.size w (Go.Sort.grow (w.drewN j) os)) := (bel_drewN _ w j).trans ((grow_below _ _).mono (bel_drewN w.heap.size w j).size)
    generalize Go.Sort.grow (w.drewN j) os = wg at HB ⊢
    go_wp2_with fail
    go_ret
    exact ⟨rfl, HB.out⟩
  · rw [if_neg hk]
    go_enter Tryz.func41, Tryz.ntmps41
    go_wp2_with fail
    refine (Tryz.strconv_Itoa k (by omega) (by omega) _ HT.out).mono ?_
    rintro e w' ⟨rfl, j, os, rfl⟩
    have HB : Hid (Below w.heap.size w (Go.Sort.grow (w.drewN j) os)) := (bel_drewN _ w j).trans ((grow_below _ _).mono (bel_drewN w.heap.size w j).size)
    generalize Go.Sort.grow (w.drewN j) os = wg at HB ⊢
    have hlen : (Lib.itoa k).length ≤ 21 := Lib.itoa_length_le k (by omega) (by omega)
    go_wp2_with fail
    go_ret
    exact ⟨rfl, HB.out⟩

/-- The digits behind the point. -/
def hxt (a : Nat) : List UInt8 := Lib.trimRightB (hx14 (4503599627370496 + fb a % 4503599627370496)).tail 48

/-- What hex says. -/
def hxs (a : Nat) : ByteArray := ⟨#[48, 120, 49]⟩ ++ (if hxt a = [] then ⟨#[]⟩ else ⟨#[46]⟩ ++ ⟨(hxt a).toArray⟩) ++ ⟨#[112]⟩ ++ hxe (fk a + (fb a / 4503599627370496 : Nat) - 1023)

theorem fk_rg (a : Nat) : -52 ≤ fk a ∧ fk a ≤ 0 := by unfold fk; split <;> omega

set_option maxRecDepth 100000 in
set_option maxHeartbeats 4000000 in
theorem hex_any (a : Nat) (w : World) (h0 : 0 < a) (h1 : a < 0x7ff0000000000000) (ht : Tab w) (hz : Tz w) :
    Calls Tryz.prog 19 #[.float .f64 a] w fun e w' => e = .returned (.string (hxs a)) ∧ Below w.heap.size w w' := by
  have HT : Hid (Tab w ∧ Tz w) := ⟨ht, hz⟩
  have hfb := fb_lt h1
  have hkr := fk_rg a
  have HF := frexp_any a w h0 h1
  have hm : fb a % 4503599627370496 < 4503599627370496 := Nat.mod_lt _ (by omega)
  have hX : fb a / 4503599627370496 < 2047 := by omega
  have hfl := run_f64bits (4602678819172646912 + fb a % 4503599627370496) w
  obtain ⟨S, hS⟩ : ∃ S, S = hxs a := ⟨_, rfl⟩
  rw [← hS]
  unfold hxs hxt at hS
  have hba := andm (4602678819172646912 + fb a % 4503599627370496) (by omega)
  rw [show (4602678819172646912 + fb a % 4503599627370496) % 4503599627370496 = fb a % 4503599627370496 by omega] at hba
  have hob := orm (fb a % 4503599627370496) 1 hm (by omega)
  generalize fb a % 4503599627370496 = f at *
  generalize fb a / 4503599627370496 = X at *
  generalize fk a = K at *
  clear ht hz h0 h1 hfb
  rw [show (((1 : Nat) : Int)) * 4503599627370496 = 4503599627370496 by decide, show 1 * 4503599627370496 + f = 4503599627370496 + f by omega] at hob
  have HU : Hid (4503599627370496 ≤ 4503599627370496 + f ∧ 4503599627370496 + f < 9007199254740992) := ⟨by omega, by omega⟩
  obtain ⟨o, ho⟩ : ∃ o, 4602678819172646912 + f = o := ⟨_, rfl⟩
  rw [ho] at HF hba hfl
  clear ho
  generalize 4503599627370496 + f = u at *
  have HS : Hid (S = ⟨#[48, 120, 49]⟩ ++ (if Lib.trimRightB (hx14 u).tail 48 = [] then ⟨#[]⟩ else ⟨#[46]⟩ ++ ⟨(Lib.trimRightB (hx14 u).tail 48).toArray⟩) ++ ⟨#[112]⟩ ++ hxe (K + (X : Int) - 1023)) := hS
  clear hS
  go_enter Tryz.func19, Tryz.ntmps19
  go_wp2_with fail
  refine HF.mono ?_
  rintro e w' ⟨rfl, rfl⟩
  go_wp2_with fail
  refine (fu16 u _ HU.out.1 HU.out.2 HT.out.2).mono ?_
  rintro e w' ⟨rfl, hb⟩
  have HB : Hid (Below w.heap.size w w') := hb
  have HT' : Hid (Tab w') := HT.out.1.below hb
  clear hb
  obtain ⟨D, hDe⟩ : ∃ D : ByteArray, ⟨(hx14 u).toArray⟩ = D := ⟨_, rfl⟩
  have hD : D.size = 14 := by rw [← hDe]; simp [ByteArray.size, hx14]
  have HD : Hid ((⟨(hx14 u).toArray⟩ : ByteArray) = D) := hDe
  rw [hDe]
  clear hDe
  go_wp2_with fail
  have hDx : (D.extract 1 14).size = 13 := by rw [ByteArray.size_extract]; omega
  refine (Tryz.strings_TrimRight_one _ 48 (by decide) _ (by omega)).mono ?_
  rintro e w'' ⟨rfl, rfl⟩
  have HXT : Hid (Lib.trimRightB (D.extract 1 14).data.toList 48 = Lib.trimRightB (hx14 u).tail 48) := by
    unfold Hid
    rw [← HD.out]
    refine congrArg (fun l => Lib.trimRightB l 48) ?_
    have : (hx14 u).length = 14 := by simp [hx14]
    rw [ByteArray.data_extract]
    simp
    rw [List.take_of_length_le (by simp; omega)]
  rw [HXT.out]
  have hTl : (Lib.trimRightB (hx14 u).tail 48).length ≤ 13 := by
    unfold Lib.trimRightB
    rw [List.length_reverse]
    refine Nat.le_trans (List.dropWhile_sublist _).length_le ?_
    simp [hx14]
  obtain ⟨T, hTe⟩ : ∃ T, Lib.trimRightB (hx14 u).tail 48 = T := ⟨_, rfl⟩
  have HTE : Hid (Lib.trimRightB (hx14 u).tail 48 = T) := hTe
  rw [hTe] at hTl ⊢
  clear hTe
  have hsz : ∀ k : Int, -3000 < k → k < 3000 → (hxe k).size ≤ 22 := by
    intro k h0 h1
    have := Lib.itoa_length_le k (by omega) (by omega)
    unfold hxe
    split
    · simp [ByteArray.size]; omega
    · rw [ByteArray.size_append]; simp [ByteArray.size]; omega
  by_cases hT0 : T = []
  · subst hT0
    go_wp2_with fail
    have hkk : K + (X : Int) - 1022 - 1 = K + (X : Int) - 1023 := by omega
    refine (exponent_any (K + (X : Int) - 1022 - 1) _ (by omega) (by omega) HT'.out).mono ?_
    rintro e w3 ⟨rfl, hb⟩
    have HB3 : Hid (Below w.heap.size w w3) := HB.out.trans (hb.mono HB.out.size)
    clear hb
    have hsx := hsz (K + (X : Int) - 1022 - 1) (by omega) (by omega)
    have HE : Hid (hxe (K + (X : Int) - 1022 - 1) = hxe (K + (X : Int) - 1023)) := by unfold Hid; rw [hkk]
    obtain ⟨G, hG⟩ : ∃ G, hxe (K + (X : Int) - 1022 - 1) = G := ⟨_, rfl⟩
    have HGe : Hid (hxe (K + (X : Int) - 1022 - 1) = G) := hG
    rw [hG] at hsx ⊢
    clear hG hsz hkk
    go_wp2_with fail
    go_ret
    refine ⟨?_, HB3.out⟩
    rw [HS.out, HTE.out, if_pos rfl, ← HE.out, HGe.out]
    rfl
  · have hTn : (⟨T.toArray⟩ : ByteArray).toList.isEmpty = false := by rw [tl_mk]; simpa using hT0
    have hTz : (⟨T.toArray⟩ : ByteArray).size ≤ 13 := by simpa [ByteArray.size] using hTl
    obtain ⟨B, hB⟩ : ∃ B : ByteArray, ⟨T.toArray⟩ = B := ⟨_, rfl⟩
    have HBT : Hid ((⟨T.toArray⟩ : ByteArray) = B) := hB
    rw [hB] at hTn hTz ⊢
    clear hB hTl
    go_wp2_with fail
    have hkk : K + (X : Int) - 1022 - 1 = K + (X : Int) - 1023 := by omega
    refine (exponent_any (K + (X : Int) - 1022 - 1) _ (by omega) (by omega) HT'.out).mono ?_
    rintro e w3 ⟨rfl, hb⟩
    have HB3 : Hid (Below w.heap.size w w3) := HB.out.trans (hb.mono HB.out.size)
    clear hb
    have hsx := hsz (K + (X : Int) - 1022 - 1) (by omega) (by omega)
    have HE : Hid (hxe (K + (X : Int) - 1022 - 1) = hxe (K + (X : Int) - 1023)) := by unfold Hid; rw [hkk]
    obtain ⟨G, hG⟩ : ∃ G, hxe (K + (X : Int) - 1022 - 1) = G := ⟨_, rfl⟩
    have HGe : Hid (hxe (K + (X : Int) - 1022 - 1) = G) := hG
    rw [hG] at hsx ⊢
    clear hG hsz hkk
    go_wp2_with fail
    go_ret
    refine ⟨?_, HB3.out⟩
    rw [HS.out, HTE.out, if_neg hT0, HBT.out, ← HE.out, HGe.out]
    rfl

end Go.Proofs.YtieldmakbokekaaGreatDoor.Oct
