/-
  Decimal digits, plainly: those of a number say it.
-/
import Derived.Test.YtieldmakbokekaaGreatDoorRf
import Derived.Lib.ItoaNum
namespace Go.Proofs.YtieldmakbokekaaGreatDoor.Oct
open Go.RowKit
open Go.Proofs.YtieldmakbokekaaGreatDoor.Fl

theorem dd_small {n : Nat} (h : n < 10) : Lib.decDigits n = [UInt8.ofNat (48 + n)] := by rw [Lib.decDigits, dif_pos h]
theorem dd_big {n : Nat} (h : ¬ n < 10) : Lib.decDigits n = Lib.decDigits (n / 10) ++ [UInt8.ofNat (48 + n % 10)] := by rw [Lib.decDigits, dif_neg h]

theorem dg_of {r : Nat} (h : r < 10) : dgU (UInt8.ofNat (48 + r)) = true ∧ (UInt8.ofNat (48 + r)).toNat = 48 + r := by
  have e : (UInt8.ofNat (48 + r)).toNat = 48 + r := by simp; omega
  refine ⟨?_, e⟩
  unfold dgU dgB
  rw [e]; exact decide_eq_true (by omega)

theorem dd_all (n : Nat) : (Lib.decDigits n).all dgU = true := by
  induction n using Nat.strongRecOn with
  | ind n ih =>
    by_cases h : n < 10
    · rw [dd_small h, List.all_cons, (dg_of h).1]; rfl
    · rw [dd_big h, List.all_append, ih (n / 10) (by omega)]
      rw [List.all_cons, (dg_of (r := n % 10) (by omega)).1]; rfl

theorem dd_ne (n : Nat) : Lib.decDigits n ≠ [] := by
  by_cases h : n < 10
  · rw [dd_small h]; simp
  · rw [dd_big h]; simp

theorem dd_len : ∀ (k n : Nat), n < 10 ^ (k + 1) → (Lib.decDigits n).length ≤ k + 1
  | 0, n, h => by rw [dd_small (by simpa using h)]; simp
  | k + 1, n, h => by
    by_cases h9 : n < 10
    · rw [dd_small h9]; simp
    · rw [dd_big h9, List.length_append]
      have := dd_len k (n / 10) (by rw [Nat.pow_succ] at h; omega)
      simp; omega

theorem dd_head (n : Nat) (hn : 0 < n) : (Lib.decDigits n).head? ≠ some 48 := by
  induction n using Nat.strongRecOn with
  | ind n ih =>
    by_cases h : n < 10
    · rw [dd_small h]
      intro h1
      have h2 : UInt8.ofNat (48 + n) = 48 := by simpa using h1
      have h3 := congrArg UInt8.toNat h2
      rw [(dg_of h).2] at h3
      have : (48 : UInt8).toNat = 48 := rfl
      omega
    · rw [dd_big h]
      have h1 := ih (n / 10) (by omega) (by omega)
      cases hd : Lib.decDigits (n / 10) with
      | nil => exact absurd hd (dd_ne _)
      | cons c m => rw [hd] at h1; simpa using h1

theorem dd_zero_head (n : Nat) : 1 < (Lib.decDigits n).length → (Lib.decDigits n).head? ≠ some 48 := fun h => by
  refine dd_head n ?_
  refine Nat.pos_of_ne_zero fun h0 => ?_
  subst h0
  rw [dd_small (by omega)] at h
  simp at h

theorem num_ext {l m : List Nat} : ∀ k, (∀ i, i < k → l.getD i 0 = m.getD i 0) → num l k = num m k
  | 0, _ => rfl
  | k + 1, h => by
    unfold num
    rw [num_ext k fun i hi => h i (by omega), h k (by omega)]

theorem num_snoc (l : List Nat) (c : Nat) : num (l ++ [c]) (l ++ [c]).length = 10 * num l l.length + (c - 48) := by
  rw [List.length_append, List.length_singleton]
  show 10 * num (l ++ [c]) l.length + ((l ++ [c]).getD l.length 0 - 48) = _
  rw [num_ext (l := l ++ [c]) (m := l) l.length fun i hi => by
    rw [List.getD_eq_getElem?_getD, List.getD_eq_getElem?_getD, List.getElem?_append_left hi]]
  simp

theorem dd_num (n : Nat) : num ((Lib.decDigits n).map UInt8.toNat) (Lib.decDigits n).length = n := by
  induction n using Nat.strongRecOn with
  | ind n ih =>
    by_cases h : n < 10
    · rw [dd_small h]
      simp only [List.map_cons, List.map_nil, List.length_singleton]
      rw [(dg_of h).2]
      simp [num]
    · have h1 := ih (n / 10) (by omega)
      rw [dd_big h, List.map_append, List.map_cons, List.map_nil, (dg_of (r := n % 10) (by omega)).2]
      have h2 := num_snoc ((Lib.decDigits (n / 10)).map UInt8.toNat) (48 + n % 10)
      rw [List.length_append, List.length_map] at h2
      rw [List.length_append, List.length_singleton]
      rw [List.length_singleton] at h2
      rw [h2, h1]
      omega

/-- Digits without a point. -/
theorem no_point {l : List UInt8} (h : l.all dgU = true) : dA l = l ∧ dB l = [] ∧ l.contains 46 = false := by
  have h46 : ∀ b ∈ l, (b != (46 : UInt8)) = true := fun b hb => by
    have h1 := List.all_eq_true.1 h b hb
    have h2 : b ≠ 46 := by rintro rfl; revert h1; decide
    simpa using h2
  have hd : l.dropWhile (· != (46 : UInt8)) = [] := by
    clear h
    induction l with
    | nil => rfl
    | cons c l ih =>
      rw [List.dropWhile_cons, h46 c List.mem_cons_self]
      exact ih fun b hb => h46 b (List.mem_cons_of_mem _ hb)
  have ht := List.takeWhile_append_dropWhile (p := (· != (46 : UInt8))) (l := l)
  rw [hd, List.append_nil] at ht
  refine ⟨ht, by unfold dB; rw [hd]; rfl, ?_⟩
  refine Bool.eq_false_iff.2 fun hc => ?_
  have := h46 46 (List.contains_iff_mem.1 hc)
  revert this; decide

/-- Digits, a point, digits. -/
theorem a_point {a b : List UInt8} (h : a.all dgU = true) : dA (a ++ 46 :: b) = a ∧ dB (a ++ 46 :: b) = b ∧ (a ++ 46 :: b).contains 46 = true := by
  have h46 : ∀ c ∈ a, (c != (46 : UInt8)) = true := fun c hc => by
    have h1 := List.all_eq_true.1 h c hc
    have h2 : c ≠ 46 := by rintro rfl; revert h1; decide
    simpa using h2
  unfold dA dB
  refine ⟨?_, ?_, by simp⟩
  · clear h
    induction a with
    | nil => rfl
    | cons c a ih =>
      rw [List.cons_append, List.takeWhile_cons, h46 c List.mem_cons_self]
      simp only [if_true]
      rw [ih fun d hd => h46 d (List.mem_cons_of_mem _ hd)]
  · clear h
    induction a with
    | nil => rfl
    | cons c a ih =>
      rw [List.cons_append, List.dropWhile_cons, h46 c List.mem_cons_self]
      exact ih fun d hd => h46 d (List.mem_cons_of_mem _ hd)

theorem one_val : floatOfInt .f64 (10 ^ 0 : Nat) = 4607182418800017408 := by decide +kernel

theorem fi_num {n : Nat} (h : n < 1000000000000000) : fi n < 0x7ff0000000000000 ∧ wh (fi n) = n := by
  have h1 := fi_le (n := n) (by omega)
  exact ⟨by omega, wh_fi (by omega)⟩

theorem quo_one {y : Nat} (h : y < 0x7ff0000000000000) : opN .quo y 4607182418800017408 = y := by
  have h1 : floatBits .quo .f64 y 4607182418800017408 = some y := div_one h
  unfold opN
  rw [h1]
  exact nb_num (by show ¬ Nan y; rw [nan_iff]; omega)

/-- What the digits of a number say. -/
theorem dd_val {n : Nat} (h : n < 1000000000000000) : dOk (Lib.decDigits n) = true ∧ dV (Lib.decDigits n) = fi n := by
  obtain ⟨h1, h2, h3⟩ := no_point (dd_all n)
  have hl : (Lib.decDigits n).length ≤ 15 := dd_len 14 n h
  constructor
  · unfold dOk
    rw [h1, h2, h3, dd_all n]
    have h4 : (Lib.decDigits n).isEmpty = false := by
      cases hd : Lib.decDigits n with
      | nil => exact absurd hd (dd_ne n)
      | cons c m => rfl
    rw [h4]
    have h5 : (decide (1 < (Lib.decDigits n).length) && (Lib.decDigits n).head? == some 48) = false := by
      by_cases h6 : 1 < (Lib.decDigits n).length
      · have := dd_zero_head n h6
        rw [show ((Lib.decDigits n).head? == some 48) = false by simpa using this]; simp
      · rw [decide_eq_false h6]; rfl
    rw [h5]
    simp
    omega
  · unfold dV
    rw [h1, h2, List.append_nil, dd_num, floatOfInt_nat, List.length_nil, one_val]
    have h6 := (fi_num h).1
    generalize fi n = y at *
    exact quo_one h6

end Go.Proofs.YtieldmakbokekaaGreatDoor.Oct
