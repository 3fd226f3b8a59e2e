/-
  A quotient's sign; Show's own texts and their numbers; the document's digits of base 16.
-/
import Derived.Test.YtieldmakbokekaaGreatDoorXg
import Derived.Test.YtieldmakbokekaaGreatDoorRg3
import Derived.Test.YtieldmakbokekaaGreatDoorTc
namespace Go.Proofs.YtieldmakbokekaaGreatDoor.Fl
open Ieee

theorem nearest_pos (mag : Nat) (place : Int) : Ieee.double.nearest false mag place ≤ 0x7ff0000000000000 := by
  unfold Format.nearest Format.word
  split
  · rw [if_neg (by decide)]; omega
  · dsimp only
    rw [if_neg (by decide), iR]
    exact Nat.min_le_right _ _

theorem read_pos {x : Nat} (h : x ≤ 0x7ff0000000000000) : (∃ m k, Ieee.double.read x = .number false m k) ∨ Ieee.double.read x = .infinity false := by
  rcases Nat.lt_or_eq_of_le h with h1 | h1
  · obtain ⟨m, k, e, _⟩ := read_num (b := x) (by omega)
    rw [show x / 2 ^ 63 % 2 = 0 by omega] at e
    exact .inl ⟨m, _, e⟩
  · have e := read_inf (b := x) (by omega)
    rw [show x / 2 ^ 63 % 2 = 0 by omega] at e
    exact .inr e

theorem div_pos {x y r : Nat} (hx : x ≤ 0x7ff0000000000000) (hy : y ≤ 0x7ff0000000000000) (h : Ieee.double.div x y = some r) : r ≤ 0x7ff0000000000000 := by
  unfold Format.div at h
  obtain ⟨d, hd, rfl⟩ := Option.map_eq_some_iff.1 h
  have hw : (∃ m k, d = .number false m k) ∨ d = .infinity false := by
    rcases read_pos hx with ⟨m, k, e⟩ | e <;> rcases read_pos hy with ⟨m', k', e'⟩ | e' <;> rw [e, e'] at hd
    · unfold Datum.quotient at hd
      simp only at hd
      split at hd
      · split at hd
        · cases hd
        · exact .inr (Option.some.inj hd).symm
      · exact .inl ⟨_, _, (Option.some.inj hd).symm⟩
    · exact .inl ⟨_, _, (Option.some.inj hd).symm⟩
    · exact .inr (Option.some.inj hd).symm
    · cases hd
  rcases hw with ⟨m, k, rfl⟩ | rfl
  · exact nearest_pos m k
  · show Ieee.double.word false Ieee.double.infRung ≤ _
    unfold Format.word
    rw [if_neg (by decide), iR]
    exact Nat.le_refl _
end Go.Proofs.YtieldmakbokekaaGreatDoor.Fl

namespace Go.Proofs.YtieldmakbokekaaGreatDoor.Oct
open Go.RowKit
open Go.Proofs.YtieldmakbokekaaGreatDoor.Fl

theorem fi_inf (n : Nat) : fi n ≤ 0x7ff0000000000000 := rd_top _ _

/-- A decimal has no sign. -/
theorem dV_lt (m : List UInt8) : dV m < 2 ^ 63 := by
  unfold dV opN
  rw [floatOfInt_nat, floatOfInt_nat]
  cases h : floatBits .quo .f64 (fi (num ((dA m ++ dB m).map UInt8.toNat) (dA m ++ dB m).length)) (fi (10 ^ (dB m).length)) with
  | none =>
    show nb 0x7ff8000000000001 < _
    rw [nb_nan nan_can]
    decide
  | some r =>
    have hr : r ≤ 0x7ff0000000000000 := div_pos (fi_inf _) (fi_inf _) h
    have hn : ¬ Nan r := by rw [nan_iff]; omega
    show nb r < _
    rw [nb_num hn]
    omega

/-- A hex number's text, and what it stands for. -/
structure HexV (a : Nat) (T Xs : List UInt8) (Z : Int) : Prop where
  hT : ∀ c ∈ T, isx c
  hX : ∀ c ∈ Xs, 48 ≤ c.toNat ∧ c.toNat ≤ 57
  ht : T.length ≤ 13
  h1 : 1 ≤ Xs.length
  h4 : Xs.length ≤ 4
  tx : hxs a = ⟨(hxL T Xs (decide (Z < 0))).toArray⟩
  ex : (if decide (Z < 0) then (-1 : Int) else 1) * (dv (fun j => (Xs.getD j 0).toNat - 48) Xs.length : Int) = Z
  is : fin (fi (hv (fun j => dgv (T.getD j 0)) T.length)) (Z - 4 * (T.length : Int)) = a

theorem hexV {a : Nat} (h0 : 0 < a) (h1 : a < 0x7ff0000000000000) : ∃ T Xs Z, HexV a T Xs Z := by
  obtain ⟨F, d, q, X, Z, hF, hZ, hz0, hz1, hd, hq, hq0, hX, hre⟩ := hex_parts h0 h1
  obtain ⟨k, k13, krs, kx⟩ := ex_trim F 13 (Nat.le_refl _) (rs_end F)
  have hFb : F < 4503599627370496 := by rw [hF]; exact Nat.mod_lt _ (by decide)
  have hT : hxt a = (xl F).take k := by
    have := hxt_at (a := a) k13 (by rw [← hF]; exact krs) (by rw [← hF]; exact kx)
    rw [← hF] at this
    exact this
  have hTl : (hxt a).length = k := by rw [hT, List.length_take, xl_len]; omega
  have hTat : ∀ j, j < k → (hxt a).getD j 0 = UInt8.ofNat (hxd (xd F j)) := fun j hj => by
    rw [hT, List.getD_eq_getElem?_getD, List.getElem?_take_of_lt hj, xl_get F j (by omega)]
    rfl
  have hxd16 : ∀ j, xd F j < 16 := fun j => Nat.mod_lt _ (by decide)
  have hD : ∀ j, j < k → dgv ((hxt a).getD j 0) = xd F j := fun j hj => by
    rw [hTat j hj]
    exact (hxd_ok ⟨xd F j, hxd16 j⟩).2
  have hlen4 : (Lib.decDigits Z.natAbs).length ≤ 4 := dd_len 3 _ (by omega)
  have hM := hv_whole hFb hD k13 krs
  refine ⟨hxt a, Lib.decDigits Z.natAbs, Z, ?_, ?_, by omega, ?_, hlen4, hxs_text a Z hZ, ?_, ?_⟩
  · intro c hc
    obtain ⟨j, hj, rfl⟩ := List.getElem_of_mem hc
    have e : (hxt a)[j] = (hxt a).getD j 0 := by rw [List.getD_eq_getElem?_getD, List.getElem?_eq_getElem hj]; rfl
    rw [e, hTat j (by omega)]
    exact (hxd_ok ⟨xd F j, hxd16 j⟩).1
  · intro c hc
    have := List.all_eq_true.1 (dd_all Z.natAbs) c hc
    unfold dgU dgB at this
    simpa using this
  · have hn := dd_num Z.natAbs
    by_cases hl : (Lib.decDigits Z.natAbs).length = 0
    · exfalso
      have e := Lib.decDigits_length Z.natAbs
      rw [hl] at e
      unfold Lib.nDigits at e
      split at e <;> omega
    · omega
  · rw [dv_num, dd_num]
    by_cases hn : Z < 0
    · rw [decide_eq_true hn]; simp; omega
    · rw [decide_eq_false hn]; simp; omega
  · rw [hTl]
    obtain ⟨M, hMe⟩ : ∃ M, hv (fun j => dgv ((hxt a).getD j 0)) k = M := ⟨_, rfl⟩
    rw [hMe] at hM ⊢
    have hp : M * pw (4 * (13 - k)) = 4503599627370496 + F := by
      rw [pw_eq, Nat.pow_mul, show (2 : Nat) ^ 4 = 16 from rfl, hM]
    have hM53 : M < 2 ^ 53 := by
      have : M ≤ M * pw (4 * (13 - k)) := Nat.le_mul_of_pos_right _ (pw_pos _)
      omega
    have hq2 : 2 ^ d * q = pw d * q := by rw [pw_eq]
    rcases hX with ⟨hq1, hXe⟩ | ⟨hq1, rfl⟩
    · have hd0 : d = 0 := by
        rcases Nat.eq_zero_or_pos d with h | h
        · exact h
        · exfalso
          have : 2 * q ≤ 2 ^ d * q := Nat.mul_le_mul_right _ (by
            have := Nat.pow_le_pow_right (n := 2) (by omega) h
            simpa using this)
          omega
      subst hd0
      have hqe : q = 4503599627370496 + F := by rw [hq]; simp
      have hXp : 1 ≤ X := by omega
      have hVa : V a = q * pw (X - 1) := by
        have := V_at a (X - 1) (q % 4503599627370496) (by rw [← hre, show X - 1 + 1 = X by omega]) (by omega)
        rw [this, hqe]
        congr 1
        omega
      refine fin_exact (p := 4 * (13 - k) + (X - 1)) (n := 0) h1 hM53 (by omega) ?_
      rw [hVa, pw_add, ← Nat.mul_assoc, hp, hqe, show pw 0 = 1 by rw [pw_eq], Nat.mul_one]
    · have hd0 : 0 < d := by
        rcases Nat.eq_zero_or_pos d with h | h
        · exfalso
          subst h
          simp at hq
          omega
        · exact h
      have hae : a = q := by rw [← hre, Nat.zero_mul, Nat.zero_add, Nat.mod_eq_of_lt hq1]
      have hVa : V a = q := by
        rw [hae]
        unfold V
        rw [if_pos (by omega)]
      refine fin_exact (p := 4 * (13 - k)) (n := d) h1 hM53 (by omega) ?_
      rw [hVa, hp, hq, hq2, Nat.mul_comm]

/-- A digit of base 16; 16: it is none. -/
def hx16 (c : UInt8) : Nat := if 48 ≤ c.toNat ∧ c.toNat ≤ 57 then c.toNat - 48 else if 97 ≤ c.toNat ∧ c.toNat ≤ 102 then c.toNat - 87 else 16

theorem hx16_is {c : UInt8} (h : isx c) : hx16 c = dgv c ∧ hx16 c < 16 := by
  unfold hx16 dgv
  rcases h with h | h
  · rw [if_pos h, if_pos (by omega)]; omega
  · rw [if_neg (by omega), if_pos h, if_neg (by omega)]; omega
theorem hx16_not {c : UInt8} (h : ¬ isx c) : hx16 c = 16 := by
  unfold isx at h
  unfold hx16
  rw [if_neg (by omega), if_neg (by omega)]
theorem hx16_le (c : UInt8) : hx16 c ≤ 16 := by
  unfold hx16
  split
  · omega
  · split <;> omega

set_option maxHeartbeats 1000000 in
theorem rhex_any (c : UInt8) (w : World) : Calls Tryz.prog 49 #[.int .u8 (c.toNat : Int)] w fun e w' => e = .returned (.int .u64 (hx16 c : Nat)) ∧ w = w' := by
  have hd := digit_any c
  have hlt := c.toNat_lt
  unfold hx16
  by_cases h1 : 48 ≤ c.toNat ∧ c.toNat ≤ 57
  · rw [if_pos h1]
    have hdg : dgU c = true := by unfold dgU dgB; simpa using h1
    rw [hdg] at hd
    have e : ((c.toNat - 48 : Nat) : Int) = (c.toNat : Int) - 48 := by omega
    rw [e]
    obtain ⟨z, hz⟩ : ∃ z : Int, (c.toNat : Int) = z := ⟨_, rfl⟩
    have z1 : 48 ≤ z := by omega
    have z2 : z ≤ 57 := by omega
    rw [hz] at hd ⊢
    clear hz e h1 hlt hdg
    go_enter Tryz.func49, Tryz.ntmps49
    go_wp2_with fail
    refine (hd _).mono ?_
    rintro e w' ⟨rfl, rfl⟩
    go_wp2
    go_ret
    exact ⟨rfl, rfl⟩
  · rw [if_neg h1]
    have hdg : dgU c = false := by unfold dgU dgB; simpa using h1
    rw [hdg] at hd
    by_cases h2 : 97 ≤ c.toNat ∧ c.toNat ≤ 102
    · rw [if_pos h2]
      have e : ((c.toNat - 87 : Nat) : Int) = (c.toNat : Int) - 97 + 10 := by omega
      rw [e]
      obtain ⟨z, hz⟩ : ∃ z : Int, (c.toNat : Int) = z := ⟨_, rfl⟩
      have z1 : 97 ≤ z := by omega
      have z2 : z ≤ 102 := by omega
      rw [hz] at hd ⊢
      clear hz e h1 hlt hdg h2
      go_enter Tryz.func49, Tryz.ntmps49
      go_wp2_with fail
      refine (hd _).mono ?_
      rintro e w' ⟨rfl, rfl⟩
      go_wp2
      go_ret
      exact ⟨rfl, rfl⟩
    · rw [if_neg h2]
      by_cases h3 : 97 ≤ c.toNat
      · obtain ⟨z, hz⟩ : ∃ z : Int, (c.toNat : Int) = z := ⟨_, rfl⟩
        have z1 : 97 ≤ z := by omega
        have z2 : decide (z ≤ 102) = false := decide_eq_false (by omega)
        rw [hz] at hd ⊢
        clear hz h1 hlt hdg h2 h3
        go_enter Tryz.func49, Tryz.ntmps49
        go_wp2_with fail
        refine (hd _).mono ?_
        rintro e w' ⟨rfl, rfl⟩
        go_wp2
        go_ret
        exact ⟨rfl, rfl⟩
      · obtain ⟨z, hz⟩ : ∃ z : Int, (c.toNat : Int) = z := ⟨_, rfl⟩
        have z1 : decide (97 ≤ z) = false := decide_eq_false (by omega)
        rw [hz] at hd ⊢
        clear hz h1 hlt hdg h2 h3
        go_enter Tryz.func49, Tryz.ntmps49
        go_wp2_with fail
        refine (hd _).mono ?_
        rintro e w' ⟨rfl, rfl⟩
        go_wp2
        go_ret
        exact ⟨rfl, rfl⟩
end Go.Proofs.YtieldmakbokekaaGreatDoor.Oct
