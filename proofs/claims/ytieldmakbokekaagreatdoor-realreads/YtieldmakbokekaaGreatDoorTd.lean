/-
  real.Read answers each number that Show says; so Show is one to one.
-/
import Derived.Test.YtieldmakbokekaaGreatDoorTc
namespace Go.Proofs.YtieldmakbokekaaGreatDoor.Oct
open Go.RowKit
open Go.Proofs.YtieldmakbokekaaGreatDoor.Fl

theorem nb_is' {x v : Nat} (h : nb x = v) (hv : ¬ Nan v) : x = v := by
  by_cases hx : Nan x
  · rw [nb_nan hx] at h; subst h; exact absurd nan_can hv
  · rw [nb_num hx] at h; exact h

theorem dg_nc {b : UInt8} (hb : dgU b = true) : nc b = true := by
  have : ∀ i : Fin 256, dgU (UInt8.ofNat i.val) = true → nc (UInt8.ofNat i.val) = true := by decide +kernel
  have := this ⟨b.toNat, b.toNat_lt⟩
  simpa using this (by simpa using hb)

theorem dd_nc (n : Nat) : ∀ b ∈ Lib.decDigits n, nc b = true := fun b hb => dg_nc (List.all_eq_true.1 (dd_all n) b hb)

theorem pref_x {l : List UInt8} (h : ∀ b ∈ l, nc b = true) : Lib.hasPrefix l [48, 120] = false := by
  refine Bool.eq_false_iff.2 fun hk => ?_
  have h1 := (List.isPrefixOf_iff_prefix.1 hk).subset (a := 120) (by simp)
  have := h 120 h1; revert this; decide

theorem read_ncs (m : List UInt8) (w : World) (hm : ∀ c ∈ m, nc c = true) (hs : m.length ≤ 2 ^ 61) :
    Calls Tryz.prog 7 #[.string ⟨m.toArray⟩] w fun e w' => (∃ r, e = .returned (.tuple #[.float .f64 r, .bool (dOk m)]) ∧ r < 2 ^ 64 ∧ (dOk m = true → nb r = dV m) ∧ (dOk m = false → r = 0)) ∧ Below w.heap.size w w' := by
  refine read_pos m w ?_ ?_ ?_ ?_ hs
  · rintro rfl; have := hm 110 (by simp); revert this; decide
  · rintro rfl; have := hm 105 (by simp); revert this; decide
  · refine Bool.eq_false_iff.2 fun h => ?_
    have h1 := (List.isPrefixOf_iff_prefix.1 h).subset (List.mem_cons_self)
    have := hm 45 h1; revert this; decide
  · refine Bool.eq_false_iff.2 fun h => ?_
    have h1 := (List.isPrefixOf_iff_prefix.1 h).subset (a := 120) (by simp)
    have := hm 120 h1; revert this; decide


theorem fi_top15 : fi 1000000000000000 = 4831355200913801216 := by decide +kernel
theorem whole_0 : whole 0 = true ∧ whole 9223372036854775808 = true := by decide +kernel

theorem whole_out {x : Nat} (h : whole x = true) : x % 2 ^ 63 < 4831355200913801216 ∧ fi (wh (x % 2 ^ 63)) = x % 2 ^ 63 ∧ wh (x % 2 ^ 63) < 1000000000000000 := by
  unfold whole at h
  simp only [Bool.and_eq_true, decide_eq_true_eq] at h
  obtain ⟨h1, h2⟩ := h
  refine ⟨h1, h2, ?_⟩
  have hm := wh_mono (Nat.le_of_lt h1)
  rw [wh_1e15] at hm
  rcases Nat.lt_or_eq_of_le hm with h3 | h3
  · exact h3
  · rw [h3, fi_top15] at h2
    omega

theorem read_dec {N : Nat} (hN : N < 1000000000000000) (w : World) : Calls Tryz.prog 7 #[.string ⟨(Lib.decDigits N).toArray⟩] w fun e w' => e = .returned (.tuple #[.float .f64 (fi N), .bool true]) ∧ Below w.heap.size w w' := by
  have hFn : ¬ Nan (fi N) := by rw [nan_iff]; have := (fi_num hN).1; omega
  have hval := dd_val hN
  have hlen : (Lib.decDigits N).length ≤ 15 := dd_len 14 N hN
  refine (read_ncs (Lib.decDigits N) w (dd_nc N) (by omega)).mono ?_
  rintro e w' ⟨⟨r, rfl, _, h1, _⟩, hb⟩
  rw [nb_is' ((h1 hval.1).trans hval.2) hFn, hval.1]
  exact ⟨rfl, hb⟩

theorem read_decm {N : Nat} (hN : N < 1000000000000000) (w : World) : Calls Tryz.prog 7 #[.string ((⟨#[45]⟩ : ByteArray) ++ ⟨(Lib.decDigits N).toArray⟩)] w fun e w' => e = .returned (.tuple #[.float .f64 (fi N + 2 ^ 63), .bool true]) ∧ Below w.heap.size w w' := by
  have hFb := (fi_num hN).1
  have hFn : ¬ Nan (fi N) := by rw [nan_iff]; omega
  have hval := dd_val hN
  have hlen : (Lib.decDigits N).length ≤ 15 := dd_len 14 N hN
  have hnc := dd_nc N
  generalize Lib.decDigits N = l at *
  have et : ((⟨#[45]⟩ : ByteArray) ++ ⟨l.toArray⟩).data.toList = 45 :: l := by simp [ByteArray.data_append]
  have etl : ((⟨#[45]⟩ : ByteArray) ++ ⟨l.toArray⟩).toList = 45 :: l := by rw [ByteArray.toList_eq]; exact et
  have h105 : (45 :: l == [45, 105, 110, 102]) = false := by
    refine Bool.eq_false_iff.2 fun h => ?_
    have h1 : l = [105, 110, 102] := by simpa using h
    have := hnc 105 (by rw [h1]; simp)
    revert this; decide
  refine (read_minus ⟨l.toArray⟩ _ w (fi N) et (by rw [etl]; simp) (by rw [etl]; simp) (by rw [etl]; exact h105) (pref_x hnc) (fun w => ?_)).mono ?_
  · refine (decimal_any l w (by omega)).mono ?_
    rintro e w' ⟨⟨r, rfl, hr, h1, _⟩, hb⟩
    rw [hval.1]
    exact ⟨r, rfl, hr, (h1 hval.1).trans hval.2, hb⟩
  · rintro e w' ⟨r, rfl, hr, h1, hb⟩
    rw [nb_is' h1 hFn, Nat.mod_eq_of_lt (by omega : fi N < 2 ^ 63)]
    exact ⟨rfl, hb⟩

theorem no_app (b : ByteArray) : (⟨#[]⟩ : ByteArray) ++ b = b := ba_eq (by simp [ByteArray.data_append])

/-- What Show says is read. -/
theorem read_shw (x : Nat) (w : World) (hl : x < 2 ^ 64) (hn : ¬ Nan x) (ht : Tab w) (hz : Tz w) (hF : Fi w) :
    Calls Tryz.prog 7 #[.string (shw x)] w fun e w' => e = .returned (.tuple #[.float .f64 x, .bool true]) ∧ Below w.heap.size w w' := by
  have hle : x % 2 ^ 63 ≤ 0x7ff0000000000000 := by rw [nan_iff] at hn; omega
  have hsh : ∀ w1, Below w.heap.size w w1 → Calls Tryz.prog 6 #[.float .f64 x] w1 fun e w' => e = .returned (.string (shw x)) ∧ Below w1.heap.size w1 w' := fun w1 hb => show_any x w1 hl hn (ht.below hb) (hz.below hb)
  by_cases hi : x % 2 ^ 63 = 0x7ff0000000000000
  · have e : shw x = sgn x ++ ⟨#[105, 110, 102]⟩ := by unfold shw; rw [if_pos hi]
    rw [e]
    unfold sgn
    by_cases hs : 2 ^ 63 ≤ x
    · rw [if_pos hs]
      have ex : x = 18442240474082181120 := by omega
      rw [ex]
      refine (read_minf_word w).mono ?_
      rintro e w' ⟨rfl, rfl⟩
      exact ⟨rfl, Below.refl _ _⟩
    · rw [if_neg hs]
      have ex : x = 9218868437227405312 := by omega
      rw [ex]
      refine (read_inf_word w).mono ?_
      rintro e w' ⟨rfl, rfl⟩
      exact ⟨rfl, Below.refl _ _⟩
  · by_cases hw : whole x = true
    · obtain ⟨h1, h2, h3⟩ := whole_out hw
      have e : shw x = sgn x ++ ⟨(Lib.decDigits (wh (x % 2 ^ 63))).toArray⟩ := by unfold shw; rw [if_neg hi, if_pos hw]
      rw [e]
      unfold sgn
      by_cases hs : 2 ^ 63 ≤ x
      · rw [if_pos hs]
        have := read_decm h3 w
        rw [h2, show x % 2 ^ 63 + 2 ^ 63 = x by omega] at this
        exact this
      · rw [if_neg hs, no_app]
        have := read_dec h3 w
        rw [h2, show x % 2 ^ 63 = x by omega] at this
        rw [show x % 2 ^ 63 = x by omega]
        exact this
    · have e : shw x = sgn x ++ hxs (x % 2 ^ 63) := by unfold shw; rw [if_neg hi, if_neg hw]
      have h0 : 0 < x % 2 ^ 63 := by
        rcases Nat.eq_zero_or_pos (x % 2 ^ 63) with h | h
        · exfalso
          have : x = 0 ∨ x = 9223372036854775808 := by omega
          rcases this with rfl | rfl
          · exact hw whole_0.1
          · exact hw whole_0.2
        · exact h
      rw [e] at hsh ⊢
      unfold sgn at hsh ⊢
      by_cases hs : 2 ^ 63 ≤ x
      · rw [if_pos hs] at hsh ⊢
        have hx : x % 2 ^ 63 + 9223372036854775808 = x := by omega
        have := read_hxn (a := x % 2 ^ 63) h0 (by omega) w hF (by rw [hx]; exact hsh)
        rw [hx] at this
        exact this
      · rw [if_neg hs, no_app] at hsh ⊢
        have hx : x % 2 ^ 63 = x := by omega
        have := read_hxp (a := x % 2 ^ 63) h0 (by omega) w hF (by rw [hx]; rw [hx] at hsh; exact hsh)
        rw [hx] at this ⊢
        exact this

/-- One call has one answer. -/
theorem calls_one {P : Program} {f : FuncId} {args : Array Value} {w : World} {v1 v2 : Value} {Q1 Q2 : World → Prop} (h1 : Calls P f args w fun e w' => e = .returned v1 ∧ Q1 w') (h2 : Calls P f args w fun e w' => e = .returned v2 ∧ Q2 w') (hi : P.inits.idxOf? f = none) : v1 = v2 := by
  obtain ⟨n1, u1, w1, r1, q1⟩ := (Calls.mono (R' := fun | .returned v, _ => v = v1 | _, _ => False) h1 (fun e w' ⟨he, _⟩ => by subst he; rfl)).done hi
  obtain ⟨n2, u2, w2, r2, q2⟩ := (Calls.mono (R' := fun | .returned v, _ => v = v2 | _, _ => False) h2 (fun e w' ⟨he, _⟩ => by subst he; rfl)).done hi
  have e1 := runN_add P n1 n2 (lone (Frame.enter P f args .normal) [] w)
  have e2 := runN_add P n2 n1 (lone (Frame.enter P f args .normal) [] w)
  rw [r1] at e1
  rw [r2] at e2
  rw [Nat.add_comm] at e2
  rw [e1] at e2
  simp at e2
  rw [← q1, ← q2]
  exact e2.1

theorem shw_inj {x y : Nat} (w : World) (hx : x < 2 ^ 64) (hy : y < 2 ^ 64) (nx : ¬ Nan x) (ny : ¬ Nan y) (ht : Tab w) (hz : Tz w) (hF : Fi w) (h : shw x = shw y) : x = y := by
  have c1 := read_shw x w hx nx ht hz hF
  have c2 := read_shw y w hy ny ht hz hF
  rw [h] at c1
  have := calls_one c1 c2 (by kernel_rfl)
  simpa using this

/-- No number is shown as the word for NaN. -/
theorem shw_nan {x : Nat} (w : World) (hx : x < 2 ^ 64) (nx : ¬ Nan x) (ht : Tab w) (hz : Tz w) (hF : Fi w) (h : shw x = ⟨#[110, 97, 110]⟩) : False := by
  have c1 := read_shw x w hx nx ht hz hF
  rw [h] at c1
  have := calls_one c1 (read_nan_word w) (by kernel_rfl)
  have e : x = 9221120237041090561 := by simpa using this
  exact nx (by rw [e, nan_iff]; decide)
end Go.Proofs.YtieldmakbokekaaGreatDoor.Oct
