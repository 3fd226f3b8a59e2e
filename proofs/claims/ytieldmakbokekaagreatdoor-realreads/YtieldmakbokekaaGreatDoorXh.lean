/-
  A quotient's sign; Show's own texts and their numbers; the document's digits of base 16.
-/
import Derived.Test.YtieldmakbokekaaGreatDoorRf
import Derived.Test.YtieldmakbokekaaGreatDoorRg3
import Derived.Test.YtieldmakbokekaaGreatDoorTa
namespace Go.Proofs.YtieldmakbokekaaGreatDoor.Fl
open Ieee

theorem nearest_pos (mag : Nat) (place : Int) : Ieee.double.nearest false mag place ≤ 0x7ff0000000000000 := by
  unfold Format.nearest Format.word
  split
  · rw [if_neg (by decide)]; omega
  · dsimp only
    rw [if_neg (by decide), iR]
    exact Nat.min_le_right _ _

theorem read_pos {x : Nat} (h : x ≤ 0x7ff0000000000000) : (∃ m k, Ieee.double.read x = .number false m k) ∨ Ieee.double.read x = .infinity false := by
  rcases Nat.lt_or_eq_of_le h with h1 | h1
  · obtain ⟨m, k, e, _⟩ := read_num (b := x) (by omega)
    rw [show x / 2 ^ 63 % 2 = 0 by omega] at e
    exact .inl ⟨m, _, e⟩
  · have e := read_inf (b := x) (by omega)
    rw [show x / 2 ^ 63 % 2 = 0 by omega] at e
    exact .inr e

theorem div_pos {x y r : Nat} (hx : x ≤ 0x7ff0000000000000) (hy : y ≤ 0x7ff0000000000000) (h : Ieee.double.div x y = some r) : r ≤ 0x7ff0000000000000 := by
  unfold Format.div at h
  obtain ⟨d, hd, rfl⟩ := Option.map_eq_some_iff.1 h
  have hw : (∃ m k, d = .number false m k) ∨ d = .infinity false := by
    rcases read_pos hx with ⟨m, k, e⟩ | e <;> rcases read_pos hy with ⟨m', k', e'⟩ | e' <;> rw [e, e'] at hd
    · unfold Datum.quotient at hd
      simp only at hd
      split at hd
      · split at hd
        · cases hd
        · exact .inr (Option.some.inj hd).symm
      · exact .inl ⟨_, _, (Option.some.inj hd).symm⟩
    · exact .inl ⟨_, _, (Option.some.inj hd).symm⟩
    · exact .inr (Option.some.inj hd).symm
    · cases hd
  rcases hw with ⟨m, k, rfl⟩ | rfl
  · exact nearest_pos m k
  · show Ieee.double.word false Ieee.double.infRung ≤ _
    unfold Format.word
    rw [if_neg (by decide), iR]
    exact Nat.le_refl _
end Go.Proofs.YtieldmakbokekaaGreatDoor.Fl

namespace Go.Proofs.YtieldmakbokekaaGreatDoor.Oct
open Go.RowKit
open Go.Proofs.YtieldmakbokekaaGreatDoor.Fl

theorem fi_inf (n : Nat) : fi n ≤ 0x7ff0000000000000 := rd_top _ _

/-- A decimal has no sign. -/
theorem dV_lt (m : List UInt8) : dV m < 2 ^ 63 := by
  unfold dV opN
  rw [floatOfInt_nat, floatOfInt_nat]
  cases h : floatBits .quo .f64 (fi (num ((dA m ++ dB m).map UInt8.toNat) (dA m ++ dB m).length)) (fi (10 ^ (dB m).length)) with
  | none =>
    show nb 0x7ff8000000000001 < _
    rw [nb_nan nan_can]
    decide
  | some r =>
    have hr : r ≤ 0x7ff0000000000000 := div_pos (fi_inf _) (fi_inf _) h
    have hn : ¬ Nan r := by rw [nan_iff]; omega
    show nb r < _
    rw [nb_num hn]
    omega

/-- A hex number's text, and what it stands for. -/
structure HexV (a : Nat) (T Xs : List UInt8) (Z : Int) : Prop where
  hT : ∀ c ∈ T, isx c
  hX : ∀ c ∈ Xs, 48 ≤ c.toNat ∧ c.toNat ≤ 57
  ht : T.length ≤ 13
  h1 : 1 ≤ Xs.length
  h4 : Xs.length ≤ 4
  tx : hxs a = ⟨(hxL T Xs (decide (Z < 0))).toArray⟩
  ex : (if decide (Z < 0) then (-1 : Int) else 1) * (dv (fun j => (Xs.getD j 0).toNat - 48) Xs.length : Int) = Z
  is : fin (fi (hv (fun j => dgv (T.getD j 0)) T.length)) (Z - 4 * (T.length : Int)) = a

theorem hexV {a : Nat} (h0 : 0 < a) (h1 : a < 0x7ff0000000000000) : ∃ T Xs Z, HexV a T Xs Z := by
  obtain ⟨F, d, q, X, Z, hF, hZ, hz0, hz1, hd, hq, hq0, hX, hre⟩ := hex_parts h0 h1
  obtain ⟨k, k13, krs, kx⟩ := ex_trim F 13 (Nat.le_refl _) (rs_end F)
  have hFb : F < 4503599627370496 := by rw [hF]; exact Nat.mod_lt _ (by decide)
  have hT : hxt a = (xl F).take k := by
    have := hxt_at (a := a) k13 (by rw [← hF]; exact krs) (by rw [← hF]; exact kx)
    rw [← hF] at this
    exact this
  have hTl : (hxt a).length = k := by rw [hT, List.length_take, xl_len]; omega
  have hTat : ∀ j, j < k → (hxt a).getD j 0 = UInt8.ofNat (hxd (xd F j)) := fun j hj => by
    rw [hT, List.getD_eq_getElem?_getD, List.getElem?_take_of_lt hj, xl_get F j (by omega)]
    rfl
  have hxd16 : ∀ j, xd F j < 16 := fun j => Nat.mod_lt _ (by decide)
  have hD : ∀ j, j < k → dgv ((hxt a).getD j 0) = xd F j := fun j hj => by
    rw [hTat j hj]
    exact (hxd_ok ⟨xd F j, hxd16 j⟩).2
  have hlen4 : (Lib.decDigits Z.natAbs).length ≤ 4 := dd_len 3 _ (by omega)
  have hM := hv_whole hFb hD k13 krs
  refine ⟨hxt a, Lib.decDigits Z.natAbs, Z, ?_, ?_, by omega, ?_, hlen4, hxs_text a Z hZ, ?_, ?_⟩
  · intro c hc
    obtain ⟨j, hj, rfl⟩ := List.getElem_of_mem hc
    have e : (hxt a)[j] = (hxt a).getD j 0 := by rw [List.getD_eq_getElem?_getD, List.getElem?_eq_getElem hj]; rfl
    rw [e, hTat j (by omega)]
    exact (hxd_ok ⟨xd F j, hxd16 j⟩).1
  · intro c hc
    have := List.all_eq_true.1 (dd_all Z.natAbs) c hc
    unfold dgU dgB at this
    simpa using this
  · have hn := dd_num Z.natAbs
    by_cases hl : (Lib.decDigits Z.natAbs).length = 0
    · exfalso
      have e := Lib.decDigits_length Z.natAbs
      rw [hl] at e
      unfold Lib.nDigits at e
      split at e <;> omega
    · omega
  · rw [dv_num, dd_num]
    by_cases hn : Z < 0
    · rw [decide_eq_true hn]; simp; omega
    · rw [decide_eq_false hn]; simp; omega
  · rw [hTl]
    obtain ⟨M, hMe⟩ : ∃ M, hv (fun j => dgv ((hxt a).getD j 0)) k = M := ⟨_, rfl⟩
    rw [hMe] at hM ⊢
    have hp : M * pw (4 * (13 - k)) = 4503599627370496 + F := by
      rw [pw_eq, Nat.pow_mul, show (2 : Nat) ^ 4 = 16 from rfl, hM]
    have hM53 : M < 2 ^ 53 := by
      have : M ≤ M * pw (4 * (13 - k)) := Nat.le_mul_of_pos_right _ (pw_pos _)
      omega
    have hq2 : 2 ^ d * q = pw d * q := by rw [pw_eq]
    rcases hX with ⟨hq1, hXe⟩ | ⟨hq1, rfl⟩
    · have hd0 : d = 0 := by
        rcases Nat.eq_zero_or_pos d with h | h
        · exact h
        · exfalso
          have : 2 * q ≤ 2 ^ d * q := Nat.mul_le_mul_right _ (by
            have := Nat.pow_le_pow_right (n := 2) (by omega) h
            simpa using this)
          omega
      subst hd0
      have hqe : q = 4503599627370496 + F := by rw [hq]; simp
      have hXp : 1 ≤ X := by omega
      have hVa : V a = q * pw (X - 1) := by
        have := V_at a (X - 1) (q % 4503599627370496) (by rw [← hre, show X - 1 + 1 = X by omega]) (by omega)
        rw [this, hqe]
        congr 1
        omega
      refine fin_exact (p := 4 * (13 - k) + (X - 1)) (n := 0) h1 hM53 (by omega) ?_
      rw [hVa, pw_add, ← Nat.mul_assoc, hp, hqe, show pw 0 = 1 by rw [pw_eq], Nat.mul_one]
    · have hd0 : 0 < d := by
        rcases Nat.eq_zero_or_pos d with h | h
        · exfalso
          subst h
          simp at hq
          omega
        · exact h
      have hae : a = q := by rw [← hre, Nat.zero_mul, Nat.zero_add, Nat.mod_eq_of_lt hq1]
      have hVa : V a = q := by
        rw [hae]
        unfold V
        rw [if_pos (by omega)]
      refine fin_exact (p := 4 * (13 - k)) (n := d) h1 hM53 (by omega) ?_
      rw [hVa, hp, hq, hq2, Nat.mul_comm]

/-- A digit of base 16; 16: it is none. -/
def hx16 (c : UInt8) : Nat := if 48 ≤ c.toNat ∧ c.toNat ≤ 57 then c.toNat - 48 else if 97 ≤ c.toNat ∧ c.toNat ≤ 102 then c.toNat - 87 else 16

theorem hx16_is {c : UInt8} (h : isx c) : hx16 c = dgv c ∧ hx16 c < 16 := by
  unfold hx16 dgv
  rcases h with h | h
  · rw [if_pos h, if_pos (by omega)]; omega
  · rw [if_neg (by omega), if_pos h, if_neg (by omega)]; omega
theorem hx16_not {c : UInt8} (h : ¬ isx c) : hx16 c = 16 := by
  unfold isx at h
  unfold hx16
  rw [if_neg (by omega), if_neg (by omega)]
theorem hx16_le (c : UInt8) : hx16 c ≤ 16 := by
  unfold hx16
  split
  · omega
  · split <;> omega

set_option maxHeartbeats 1000000 in
theorem rhex_any (c : UInt8) (w : World) : Calls Tryz.prog 49 #[.int .u8 (c.toNat : Int)] w fun e w' => e = .returned (.int .u64 (hx16 c : Nat)) ∧ w = w' := by
  have hd := digit_any c
  have hlt := c.toNat_lt
  unfold hx16
  by_cases h1 : 48 ≤ c.toNat ∧ c.toNat ≤ 57
  · rw [if_pos h1]
    have hdg : dgU c = true := by unfold dgU dgB; simpa using h1
    rw [hdg] at hd
    have e : ((c.toNat - 48 : Nat) : Int) = (c.toNat : Int) - 48 := by omega
    rw [e]
    obtain ⟨z, hz⟩ : ∃ z : Int, (c.toNat : Int) = z := ⟨_, rfl⟩
    have z1 : 48 ≤ z := by omega
    have z2 : z ≤ 57 := by omega
    rw [hz] at hd ⊢
    clear hz e h1 hlt hdg
    go_enter Tryz.func49, Tryz.ntmps49
    go_wp2_with fail
    refine (hd _).mono ?_
    rintro e w' ⟨rfl, rfl⟩
    go_wp2
    go_ret
    exact ⟨rfl, rfl⟩
  · rw [if_neg h1]
    have hdg : dgU c = false := by unfold dgU dgB; simpa using h1
    rw [hdg] at hd
    by_cases h2 : 97 ≤ c.toNat ∧ c.toNat ≤ 102
    · rw [if_pos h2]
      have e : ((c.toNat - 87 : Nat) : Int) = (c.toNat : Int) - 97 + 10 := by omega
      rw [e]
      obtain ⟨z, hz⟩ : ∃ z : Int, (c.toNat : Int) = z := ⟨_, rfl⟩
      have z1 : 97 ≤ z := by omega
      have z2 : z ≤ 102 := by omega
      rw [hz] at hd ⊢
      clear hz e h1 hlt hdg h2
      go_enter Tryz.func49, Tryz.ntmps49
      go_wp2_with fail
      refine (hd _).mono ?_
      rintro e w' ⟨rfl, rfl⟩
      go_wp2
      go_ret
      exact ⟨rfl, rfl⟩
    · rw [if_neg h2]
      by_cases h3 : 97 ≤ c.toNat
      · obtain ⟨z, hz⟩ : ∃ z : Int, (c.toNat : Int) = z := ⟨_, rfl⟩
        have z1 : 97 ≤ z := by omega
        have z2 : decide (z ≤ 102) = false := decide_eq_false (by omega)
        rw [hz] at hd ⊢
        clear hz h1 hlt hdg h2 h3
        go_enter Tryz.func49, Tryz.ntmps49
        go_wp2_with fail
        refine (hd _).mono ?_
        rintro e w' ⟨rfl, rfl⟩
        go_wp2
        go_ret
        exact ⟨rfl, rfl⟩
      · obtain ⟨z, hz⟩ : ∃ z : Int, (c.toNat : Int) = z := ⟨_, rfl⟩
        have z1 : decide (97 ≤ z) = false := decide_eq_false (by omega)
        rw [hz] at hd ⊢
        clear hz h1 hlt hdg h2 h3
        go_enter Tryz.func49, Tryz.ntmps49
        go_wp2_with fail
        refine (hd _).mono ?_
        rintro e w' ⟨rfl, rfl⟩
        go_wp2
        go_ret
        exact ⟨rfl, rfl⟩
end Go.Proofs.YtieldmakbokekaaGreatDoor.Oct

/-
  real.Read answers each number that Show says; so Show is one to one.
-/
namespace Go.Proofs.YtieldmakbokekaaGreatDoor.Oct
open Go.RowKit
open Go.Proofs.YtieldmakbokekaaGreatDoor.Fl

theorem nb_is' {x v : Nat} (h : nb x = v) (hv : ¬ Nan v) : x = v := by
  by_cases hx : Nan x
  · rw [nb_nan hx] at h; subst h; exact absurd nan_can hv
  · rw [nb_num hx] at h; exact h

theorem dg_nc {b : UInt8} (hb : dgU b = true) : nc b = true := by
  have : ∀ i : Fin 256, dgU (UInt8.ofNat i.val) = true → nc (UInt8.ofNat i.val) = true := by decide +kernel
  have := this ⟨b.toNat, b.toNat_lt⟩
  simpa using this (by simpa using hb)

theorem dd_nc (n : Nat) : ∀ b ∈ Lib.decDigits n, nc b = true := fun b hb => dg_nc (List.all_eq_true.1 (dd_all n) b hb)

theorem pref_x {l : List UInt8} (h : ∀ b ∈ l, nc b = true) : Lib.hasPrefix l [48, 120] = false := by
  refine Bool.eq_false_iff.2 fun hk => ?_
  have h1 := (List.isPrefixOf_iff_prefix.1 hk).subset (a := 120) (by simp)
  have := h 120 h1; revert this; decide

theorem read_ncs (m : List UInt8) (w : World) (hm : ∀ c ∈ m, nc c = true) (hs : m.length ≤ 2 ^ 61) :
    Calls Tryz.prog 7 #[.string ⟨m.toArray⟩] w fun e w' => (∃ r, e = .returned (.tuple #[.float .f64 r, .bool (dOk m)]) ∧ r < 2 ^ 64 ∧ (dOk m = true → nb r = dV m) ∧ (dOk m = false → r = 0)) ∧ Below w.heap.size w w' := by
  refine read_pos m w ?_ ?_ ?_ ?_ hs
  · rintro rfl; have := hm 110 (by simp); revert this; decide
  · rintro rfl; have := hm 105 (by simp); revert this; decide
  · refine Bool.eq_false_iff.2 fun h => ?_
    have h1 := (List.isPrefixOf_iff_prefix.1 h).subset (List.mem_cons_self)
    have := hm 45 h1; revert this; decide
  · refine Bool.eq_false_iff.2 fun h => ?_
    have h1 := (List.isPrefixOf_iff_prefix.1 h).subset (a := 120) (by simp)
    have := hm 120 h1; revert this; decide


theorem fi_top15 : fi 1000000000000000 = 4831355200913801216 := by decide +kernel
theorem whole_0 : whole 0 = true ∧ whole 9223372036854775808 = true := by decide +kernel

theorem whole_out {x : Nat} (h : whole x = true) : x % 2 ^ 63 < 4831355200913801216 ∧ fi (wh (x % 2 ^ 63)) = x % 2 ^ 63 ∧ wh (x % 2 ^ 63) < 1000000000000000 := by
  unfold whole at h
  simp only [Bool.and_eq_true, decide_eq_true_eq] at h
  obtain ⟨h1, h2⟩ := h
  refine ⟨h1, h2, ?_⟩
  have hm := wh_mono (Nat.le_of_lt h1)
  rw [wh_1e15] at hm
  rcases Nat.lt_or_eq_of_le hm with h3 | h3
  · exact h3
  · rw [h3, fi_top15] at h2
    omega

theorem read_dec {N : Nat} (hN : N < 1000000000000000) (w : World) : Calls Tryz.prog 7 #[.string ⟨(Lib.decDigits N).toArray⟩] w fun e w' => e = .returned (.tuple #[.float .f64 (fi N), .bool true]) ∧ Below w.heap.size w w' := by
  have hFn : ¬ Nan (fi N) := by rw [nan_iff]; have := (fi_num hN).1; omega
  have hval := dd_val hN
  have hlen : (Lib.decDigits N).length ≤ 15 := dd_len 14 N hN
  refine (read_ncs (Lib.decDigits N) w (dd_nc N) (by omega)).mono ?_
  rintro e w' ⟨⟨r, rfl, _, h1, _⟩, hb⟩
  rw [nb_is' ((h1 hval.1).trans hval.2) hFn, hval.1]
  exact ⟨rfl, hb⟩

theorem read_decm {N : Nat} (hN : N < 1000000000000000) (w : World) : Calls Tryz.prog 7 #[.string ((⟨#[45]⟩ : ByteArray) ++ ⟨(Lib.decDigits N).toArray⟩)] w fun e w' => e = .returned (.tuple #[.float .f64 (fi N + 2 ^ 63), .bool true]) ∧ Below w.heap.size w w' := by
  have hFb := (fi_num hN).1
  have hFn : ¬ Nan (fi N) := by rw [nan_iff]; omega
  have hval := dd_val hN
  have hlen : (Lib.decDigits N).length ≤ 15 := dd_len 14 N hN
  have hnc := dd_nc N
  generalize Lib.decDigits N = l at *
  have et : ((⟨#[45]⟩ : ByteArray) ++ ⟨l.toArray⟩).data.toList = 45 :: l := by simp [ByteArray.data_append]
  have etl : ((⟨#[45]⟩ : ByteArray) ++ ⟨l.toArray⟩).toList = 45 :: l := by rw [ByteArray.toList_eq]; exact et
  have h105 : (45 :: l == [45, 105, 110, 102]) = false := by
    refine Bool.eq_false_iff.2 fun h => ?_
    have h1 : l = [105, 110, 102] := by simpa using h
    have := hnc 105 (by rw [h1]; simp)
    revert this; decide
  refine (read_minus ⟨l.toArray⟩ _ w (fi N) et (by rw [etl]; simp) (by rw [etl]; simp) (by rw [etl]; exact h105) (pref_x hnc) (fun w => ?_)).mono ?_
  · refine (decimal_any l w (by omega)).mono ?_
    rintro e w' ⟨⟨r, rfl, hr, h1, _⟩, hb⟩
    rw [hval.1]
    exact ⟨r, rfl, hr, (h1 hval.1).trans hval.2, hb⟩
  · rintro e w' ⟨r, rfl, hr, h1, hb⟩
    rw [nb_is' h1 hFn, Nat.mod_eq_of_lt (by omega : fi N < 2 ^ 63)]
    exact ⟨rfl, hb⟩

theorem no_app (b : ByteArray) : (⟨#[]⟩ : ByteArray) ++ b = b := ba_eq (by simp [ByteArray.data_append])

/-- What Show says is read. -/
theorem read_shw (x : Nat) (w : World) (hl : x < 2 ^ 64) (hn : ¬ Nan x) (ht : Tab w) (hz : Tz w) (hF : Fi w) :
    Calls Tryz.prog 7 #[.string (shw x)] w fun e w' => e = .returned (.tuple #[.float .f64 x, .bool true]) ∧ Below w.heap.size w w' := by
  have hle : x % 2 ^ 63 ≤ 0x7ff0000000000000 := by rw [nan_iff] at hn; omega
  have hsh : ∀ w1, Below w.heap.size w w1 → Calls Tryz.prog 6 #[.float .f64 x] w1 fun e w' => e = .returned (.string (shw x)) ∧ Below w1.heap.size w1 w' := fun w1 hb => show_any x w1 hl hn (ht.below hb) (hz.below hb)
  by_cases hi : x % 2 ^ 63 = 0x7ff0000000000000
  · have e : shw x = sgn x ++ ⟨#[105, 110, 102]⟩ := by unfold shw; rw [if_pos hi]
    rw [e]
    unfold sgn
    by_cases hs : 2 ^ 63 ≤ x
    · rw [if_pos hs]
      have ex : x = 18442240474082181120 := by omega
      rw [ex]
      refine (read_minf_word w).mono ?_
      rintro e w' ⟨rfl, rfl⟩
      exact ⟨rfl, Below.refl _ _⟩
    · rw [if_neg hs]
      have ex : x = 9218868437227405312 := by omega
      rw [ex]
      refine (read_inf_word w).mono ?_
      rintro e w' ⟨rfl, rfl⟩
      exact ⟨rfl, Below.refl _ _⟩
  · by_cases hw : whole x = true
    · obtain ⟨h1, h2, h3⟩ := whole_out hw
      have e : shw x = sgn x ++ ⟨(Lib.decDigits (wh (x % 2 ^ 63))).toArray⟩ := by unfold shw; rw [if_neg hi, if_pos hw]
      rw [e]
      unfold sgn
      by_cases hs : 2 ^ 63 ≤ x
      · rw [if_pos hs]
        have := read_decm h3 w
        rw [h2, show x % 2 ^ 63 + 2 ^ 63 = x by omega] at this
        exact this
      · rw [if_neg hs, no_app]
        have := read_dec h3 w
        rw [h2, show x % 2 ^ 63 = x by omega] at this
        rw [show x % 2 ^ 63 = x by omega]
        exact this
    · have e : shw x = sgn x ++ hxs (x % 2 ^ 63) := by unfold shw; rw [if_neg hi, if_neg hw]
      have h0 : 0 < x % 2 ^ 63 := by
        rcases Nat.eq_zero_or_pos (x % 2 ^ 63) with h | h
        · exfalso
          have : x = 0 ∨ x = 9223372036854775808 := by omega
          rcases this with rfl | rfl
          · exact hw whole_0.1
          · exact hw whole_0.2
        · exact h
      rw [e] at hsh ⊢
      unfold sgn at hsh ⊢
      by_cases hs : 2 ^ 63 ≤ x
      · rw [if_pos hs] at hsh ⊢
        have hx : x % 2 ^ 63 + 9223372036854775808 = x := by omega
        have := read_hxn (a := x % 2 ^ 63) h0 (by omega) w hF (by rw [hx]; exact hsh)
        rw [hx] at this
        exact this
      · rw [if_neg hs, no_app] at hsh ⊢
        have hx : x % 2 ^ 63 = x := by omega
        have := read_hxp (a := x % 2 ^ 63) h0 (by omega) w hF (by rw [hx]; rw [hx] at hsh; exact hsh)
        rw [hx] at this ⊢
        exact this

/-- One call has one answer. -/
theorem calls_one {P : Program} {f : FuncId} {args : Array Value} {w : World} {v1 v2 : Value} {Q1 Q2 : World → Prop} (h1 : Calls P f args w fun e w' => e = .returned v1 ∧ Q1 w') (h2 : Calls P f args w fun e w' => e = .returned v2 ∧ Q2 w') (hi : P.inits.idxOf? f = none) : v1 = v2 := by
  obtain ⟨n1, u1, w1, r1, q1⟩ := (Calls.mono (R' := fun | .returned v, _ => v = v1 | _, _ => False) h1 (fun e w' ⟨he, _⟩ => by subst he; rfl)).done hi
  obtain ⟨n2, u2, w2, r2, q2⟩ := (Calls.mono (R' := fun | .returned v, _ => v = v2 | _, _ => False) h2 (fun e w' ⟨he, _⟩ => by subst he; rfl)).done hi
  have e1 := runN_add P n1 n2 (lone (Frame.enter P f args .normal) [] w)
  have e2 := runN_add P n2 n1 (lone (Frame.enter P f args .normal) [] w)
  rw [r1] at e1
  rw [r2] at e2
  rw [Nat.add_comm] at e2
  rw [e1] at e2
  simp at e2
  rw [← q1, ← q2]
  exact e2.1

theorem shw_inj {x y : Nat} (w : World) (hx : x < 2 ^ 64) (hy : y < 2 ^ 64) (nx : ¬ Nan x) (ny : ¬ Nan y) (ht : Tab w) (hz : Tz w) (hF : Fi w) (h : shw x = shw y) : x = y := by
  have c1 := read_shw x w hx nx ht hz hF
  have c2 := read_shw y w hy ny ht hz hF
  rw [h] at c1
  have := calls_one c1 c2 (by kernel_rfl)
  simpa using this

/-- No number is shown as the word for NaN. -/
theorem shw_nan {x : Nat} (w : World) (hx : x < 2 ^ 64) (nx : ¬ Nan x) (ht : Tab w) (hz : Tz w) (hF : Fi w) (h : shw x = ⟨#[110, 97, 110]⟩) : False := by
  have c1 := read_shw x w hx nx ht hz hF
  rw [h] at c1
  have := calls_one c1 (read_nan_word w) (by kernel_rfl)
  have e : x = 9221120237041090561 := by simpa using this
  exact nx (by rw [e, nan_iff]; decide)
end Go.Proofs.YtieldmakbokekaaGreatDoor.Oct
