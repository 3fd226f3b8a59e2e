/-
  Floats: products, whole numbers, what is ahead of the point.
-/
import Derived.Test.YtieldmakbokekaaGreatDoorFr
namespace Go.Proofs.YtieldmakbokekaaGreatDoor.Fl
open Ieee

theorem rep (e : Nat) : ∀ m, m < 2 ^ 53 → ∃ r, V r = m * 2 ^ e := by
  induction e with
  | zero =>
    intro m h
    by_cases h1 : m < 2 ^ 52
    · exact ⟨m, by simp only [V, h1, if_true]; omega⟩
    · refine ⟨m, ?_⟩
      simp only [V, h1, if_false]
      have : m / 2 ^ 52 - 1 = 0 := by omega
      rw [this]; omega
  | succ e ih =>
    intro m h
    by_cases h1 : m < 2 ^ 52
    · obtain ⟨r, hr⟩ := ih (m * 2) (by omega)
      exact ⟨r, by rw [hr, Nat.mul_assoc, show 2 ^ (e + 1) = 2 * 2 ^ e by rw [Nat.pow_succ, Nat.mul_comm]]⟩
    · refine ⟨(e + 2) * 2 ^ 52 + (m - 2 ^ 52), ?_⟩
      have a : ¬ ((e + 2) * 2 ^ 52 + (m - 2 ^ 52) < 2 ^ 52) := by omega
      simp only [V, a, if_false]
      rw [show ((e + 2) * 2 ^ 52 + (m - 2 ^ 52)) % 2 ^ 52 = m - 2 ^ 52 by omega, show ((e + 2) * 2 ^ 52 + (m - 2 ^ 52)) / 2 ^ 52 - 1 = e + 1 by omega, show 2 ^ 52 + (m - 2 ^ 52) = m by omega]

theorem V_inf : V 0x7ff0000000000000 = pw 2098 := by
  rw [V_at _ 2046 0 (by omega) (by omega), Nat.add_zero, pw_mul]

theorem V_one : V 0x3ff0000000000000 = pw 1074 := by
  rw [V_at _ 1022 0 (by omega) (by omega), Nat.add_zero, pw_mul]

theorem V_below_one : V 0x3fefffffffffffff = (2 ^ 53 - 1) * pw 1021 := by
  rw [V_at _ 1021 (2 ^ 52 - 1) (by omega) (by omega), show (2 ^ 52 + (2 ^ 52 - 1) : Nat) = 2 ^ 53 - 1 by omega]

/-- A product of two numbers. -/
theorem mul_num {x y : Nat} (hx : x % 2 ^ 63 < 0x7ff0000000000000) (hy : y % 2 ^ 63 < 0x7ff0000000000000) :
    Ieee.double.mul x y = some (Ieee.double.word ((x / 2 ^ 63 % 2 == 1) ^^ (y / 2 ^ 63 % 2 == 1)) (rd (V (x % 2 ^ 63) * V (y % 2 ^ 63)) 1074)) := by
  obtain ⟨m, k, e, hv, _⟩ := read_num hx
  obtain ⟨n, l, e', hv', _⟩ := read_num hy
  unfold Format.mul
  rw [e, e']
  simp only [Datum.product, Option.map_some, Format.write]
  rw [nearest_rd _ _ _ 1074 (k + l) (by omega), ← hv, ← hv', pw_add, pw_eq k, pw_eq l]
  refine congrArg (fun z => some (Ieee.double.word _ (rd z 1074))) ?_
  ac_rfl

/-- The rung of a whole number. -/
def fi (n : Nat) : Nat := rd (n * pw 1074) 0

theorem floatOfInt_nat (n : Nat) : floatOfInt .f64 (n : Int) = fi n := by
  have e : floatOfInt .f64 (n : Int) = Ieee.double.nearest (decide ((n : Int) < 0)) (n : Int).natAbs 0 := rfl
  rw [e, nearest_rd _ _ _ 0 1074 (by omega), decide_eq_false (by omega), Int.natAbs_natCast]
  unfold fi Format.word
  rw [if_neg (by decide)]

theorem floatOfInt_neg (n : Nat) (h : 0 < n) : floatOfInt .f64 (-(n : Int)) = 2 ^ 63 + fi n := by
  unfold floatOfInt FloatKind.nearest FloatKind.encode
  show Ieee.double.nearest _ _ _ = _
  rw [nearest_rd _ _ _ 0 1074 (by omega), decide_eq_true (by omega), Int.natAbs_neg, Int.natAbs_natCast]
  unfold fi
  generalize rd _ 0 = z
  rfl

theorem cut_zero (neg : Bool) (n d : Nat) : Toward.zero.cut neg n d = n / 2 ^ d := by
  unfold Toward.cut
  simp only [Nat.one_shiftLeft, Bool.toNat_false, Nat.add_zero]
  by_cases h : d ≤ n.log2 + 2
  · rw [Nat.min_eq_left h]
  · rw [Nat.min_eq_right (by omega)]
    have h1 : n < 2 ^ (n.log2 + 1) := Nat.lt_log2_self
    have h2 : 2 ^ (n.log2 + 2) = 2 ^ (n.log2 + 1) * 2 := Nat.pow_succ ..
    have h3 : 2 ^ (n.log2 + 2) ≤ 2 ^ d := Nat.pow_le_pow_right (by omega) (by omega)
    rw [Nat.div_eq_of_lt (by omega), Nat.div_eq_of_lt (by omega)]

theorem cut_down (n d : Nat) : Toward.down.cut false n d = n / 2 ^ d := by
  rw [← cut_zero false n d]; unfold Toward.cut; simp

theorem floor_V (m k : Nat) : (m <<< (-1074 + (k : Int)).toNat) / 2 ^ (-(-1074 + (k : Int))).toNat = m * 2 ^ k / pw 1074 := by
  rw [Nat.shiftLeft_eq]
  rcases Nat.le_total k 1074 with h | h
  · rw [show (-1074 + (k : Int)).toNat = 0 by omega, show (-(-1074 + (k : Int))).toNat = 1074 - k by omega]
    rw [show pw 1074 = pw (1074 - k) * pw k by rw [← pw_add, Nat.sub_add_cancel h], ← pw_eq k, Nat.mul_div_mul_right _ _ (pw_pos k), pw_eq, Nat.pow_zero, Nat.mul_one]
  · rw [show (-1074 + (k : Int)).toNat = k - 1074 by omega, show (-(-1074 + (k : Int))).toNat = 0 by omega]
    rw [← pw_eq k, show pw k = pw (k - 1074) * pw 1074 by rw [← pw_add, Nat.sub_add_cancel h], ← Nat.mul_assoc, Nat.mul_div_cancel _ (pw_pos 1074), pw_eq, Nat.pow_zero, Nat.div_one]

/-- What is ahead of the point. -/
def wh (r : Nat) : Nat := V r / pw 1074

theorem toInt_num {x : Nat} (hx : x < 0x7ff0000000000000) (h : wh x ≤ 9223372036854775807) : floatToIntVal .f64 x .i64 = some (wh x) := by
  have hm : x % 2 ^ 63 = x := by omega
  obtain ⟨m, k, e, hv, _⟩ := read_num (b := x) (by omega)
  rw [hm] at hv
  unfold floatToIntVal
  have e' : FloatKind.f64.decode x = .number false m (-1074 + (k : Int)) := by
    show Ieee.double.read x = _
    rw [e]; congr 1
    rw [show x / 2 ^ 63 % 2 = 0 by omega]; rfl
  rw [e']
  simp only [Datum.toInt, Datum.integral, cut_zero, floor_V, signed_eq]
  rw [hv]
  unfold wh at h ⊢
  generalize V x / pw 1074 = z at *
  simp only [IntKind.min, IntKind.max, IntKind.signed, IntKind.bits]
  simp
  omega

theorem floor_num {x : Nat} (hx : x < 0x7ff0000000000000) : ∃ m k, FloatKind.f64.decode x = .number false m k ∧ FloatKind.f64.encode ((Datum.number false m k).integral .down) = fi (wh x) := by
  have hm : x % 2 ^ 63 = x := by omega
  obtain ⟨m, k, e, hv, _⟩ := read_num (b := x) (by omega)
  rw [hm] at hv
  refine ⟨m, -1074 + (k : Int), ?_, ?_⟩
  · show Ieee.double.read x = _
    rw [e]; congr 1
    rw [show x / 2 ^ 63 % 2 = 0 by omega]; rfl
  · rw [show FloatKind.f64.encode ((Datum.number false m (-1074 + (k : Int))).integral .down) = Ieee.double.nearest false (Toward.down.cut false (m <<< (-1074 + (k : Int)).toNat) (-(-1074 + (k : Int))).toNat) 0 from rfl]
    rw [nearest_rd _ _ _ 0 1074 (by omega), cut_down, floor_V, hv]
    unfold fi Format.word wh
    rw [if_neg (by decide)]

/-- What is ahead of the point is a number itself. -/
theorem wh_exact {x : Nat} (hx : x < 0x7ff0000000000000) : V (fi (wh x)) = wh x * pw 1074 := by
  have key : ∃ r, V r = wh x * pw 1074 := by
    by_cases h : wh x < 2 ^ 53
    · obtain ⟨r, hr⟩ := rep 1074 _ h
      exact ⟨r, by rw [hr, pw_eq]⟩
    · refine ⟨x, ?_⟩
      have hd : pw 1074 ∣ V x := by
        have hb : ¬ x < 2 ^ 52 := by
          intro hb
          have hvx : V x = x := by simp only [V, hb, if_true]
          unfold wh at h
          rw [hvx] at h
          exact h (Nat.lt_of_le_of_lt (Nat.div_le_self ..) (by omega))
        rw [V_big hb]
        by_cases hk : 1074 ≤ x / 2 ^ 52 - 1
        · rw [show x / 2 ^ 52 - 1 = (x / 2 ^ 52 - 1 - 1074) + 1074 by omega, pw_add, ← Nat.mul_assoc]
          exact Nat.dvd_mul_left ..
        · exfalso; apply h
          unfold wh
          rw [Nat.div_lt_iff_lt_mul (pw_pos _), V_big hb]
          refine Nat.lt_of_lt_of_le (Nat.mul_lt_mul_of_pos_right (show 2 ^ 52 + x % 2 ^ 52 < 2 ^ 53 by omega) (pw_pos _)) ?_
          exact Nat.mul_le_mul_left _ (pw_le (by omega))
      exact (Nat.div_mul_cancel hd).symm
  obtain ⟨r, hr⟩ := key
  have hr' : r ≤ 0x7ff0000000000000 := by
    have h1 : V r ≤ V x := by rw [hr]; exact Nat.div_mul_le_self ..
    rcases Nat.lt_or_ge x r with h | h
    · have := V_lt h; omega
    · omega
  have := rd_V (r := r) 0 hr'
  unfold fi
  rw [pw_eq 0, Nat.pow_zero, Nat.mul_one, hr] at this
  rw [this, hr]

theorem wh_whole {x : Nat} (hx : x < 0x7ff0000000000000) : wh (fi (wh x)) = wh x := by
  have := wh_exact hx
  rw [show wh (fi (wh x)) = V (fi (wh x)) / pw 1074 from rfl, this, Nat.mul_div_cancel _ (pw_pos _)]

theorem fi_le {n : Nat} (h : n < 2 ^ 63) : fi n ≤ 0x43e0000000000000 := by
  unfold fi
  have : V 0x43e0000000000000 = 2 ^ 63 * pw 1074 := by
    rw [V_at _ 1085 0 (by omega) (by omega), Nat.add_zero, pw_mul, pw_mul]
  refine rd_le ?_ (by omega)
  rw [this, pw_eq 0, Nat.pow_zero, Nat.mul_one]
  exact Nat.mul_le_mul_right _ (by omega)

/-- The rung of n times x. -/
def pr (x n : Nat) : Nat := rd (V (fi n) * V x) 1074

theorem pr_mono {x y n : Nat} (h : x ≤ y) : pr x n ≤ pr y n := rd_mono _ (Nat.mul_le_mul_left _ (V_le h))

theorem wh_mono {x y : Nat} (h : x ≤ y) : wh x ≤ wh y := Nat.div_le_div_right (V_le h)

theorem rh_below {M : Nat} (h1 : 2 ^ 52 < M) (h2 : M < 2 ^ 53) : rh (M * 9007199254740991) 53 = M - 1 := by
  have h3 : M * 9007199254740991 / 2 ^ 53 = M - 1 := by omega
  have h4 : M * 9007199254740991 % 2 ^ 53 = 2 ^ 53 - M := by omega
  unfold rh
  rw [h3, h4, decide_eq_false (by omega), beq_eq_false_iff_ne.2 (by omega)]
  rfl

theorem rd_below0 {X M q : Nat} (hn : X ≠ 0) (hl : X.log2 = 105) (hr : rh X 53 = M - 1) : rd (X * pw (q + 1021)) 1074 ≤ q * 2 ^ 52 + (M - 1) := by
  unfold rd
  rw [pw_eq, log2_shift _ _ hn, hl, show 105 + (q + 1021) - (1074 + 52) = q by omega]
  have := rh_shift X 53 (q + 1021)
  rw [show 53 + (q + 1021) = q + 1074 by omega] at this
  rw [this, hr]
  omega

theorem rd_below1 {M q : Nat} (h1 : 2 ^ 52 < M) (h2 : M < 2 ^ 53) : rd (M * 9007199254740991 * pw (q + 1021)) 1074 ≤ q * 2 ^ 52 + (M - 1) :=
  rd_below0 (by omega) ((Nat.log2_eq_iff (by omega)).2 ⟨by omega, by omega⟩) (rh_below h1 h2)

theorem rd_below {r : Nat} (h1 : 0x3ff0000000000000 ≤ r) (h2 : r ≤ 0x43e0000000000000) : rd (V r * V 0x3fefffffffffffff) 1074 < r := by
  have hb : ¬ r < 2 ^ 52 := by omega
  rw [V_below_one, show (2 ^ 53 - 1 : Nat) = 9007199254740991 from rfl]
  by_cases ht : r % 2 ^ 52 = 0
  · have e : V r * (9007199254740991 * pw 1021) = V (r - 1) * pw 1074 := by
      have a1 : V r = 2 ^ 52 * pw (r / 2 ^ 52 - 2 + 1) := by
        rw [V_big hb, ht, Nat.add_zero, show r / 2 ^ 52 - 1 = r / 2 ^ 52 - 2 + 1 by omega]
      have a2 : V (r - 1) = 9007199254740991 * pw (r / 2 ^ 52 - 2) := by
        rw [V_at (r - 1) (r / 2 ^ 52 - 2) (2 ^ 52 - 1) (by omega) (by omega)]
      rw [a1, a2, pw_mul]
      generalize r / 2 ^ 52 - 2 = q
      generalize (9007199254740991 : Nat) = Z
      rw [Nat.mul_left_comm, ← pw_add, Nat.mul_assoc, ← pw_add]
      congr 2; omega
    rw [e, rd_V _ (by omega)]; omega
  · have e : V r * (9007199254740991 * pw 1021) = (2 ^ 52 + r % 2 ^ 52) * 9007199254740991 * pw (r / 2 ^ 52 - 1 + 1021) := by
      rw [V_big hb]
      generalize 2 ^ 52 + r % 2 ^ 52 = M
      generalize (9007199254740991 : Nat) = Z
      rw [pw_add]; ac_rfl
    rw [e]
    have := rd_below1 (M := 2 ^ 52 + r % 2 ^ 52) (q := r / 2 ^ 52 - 1) (by omega) (by omega)
    omega

theorem fi_zero : fi 0 = 0 := by
  have := rd_V (r := 0) 0 (by omega)
  unfold fi
  rw [V_zero, Nat.zero_mul] at this
  rw [Nat.zero_mul, this]

theorem pr_zero (x : Nat) : pr x 0 = 0 := by
  have := rd_V (r := 0) 1074 (by omega)
  unfold pr
  rw [V_zero, Nat.zero_mul] at this
  rw [fi_zero, V_zero, Nat.zero_mul, this]

theorem pr_lt {x n : Nat} (hx : x < 0x3ff0000000000000) (hn : 0 < n) (hn' : n < 2 ^ 63) : pr x n < fi n := by
  have h1 : 0x3ff0000000000000 ≤ fi n := by
    unfold fi
    refine le_rd ?_ (by omega)
    rw [V_one, pw_eq 0, Nat.pow_zero, Nat.mul_one]
    exact Nat.le_mul_of_pos_left _ hn
  refine Nat.lt_of_le_of_lt ?_ (rd_below h1 (fi_le hn'))
  exact rd_mono _ (Nat.mul_le_mul_left _ (V_le (by omega)))

theorem pr_wh {x n : Nat} (hx : x < 0x3ff0000000000000) (hn' : n < 2 ^ 63) : wh (pr x n) ≤ n := by
  rcases Nat.eq_zero_or_pos n with h0 | h0
  · subst h0
    rw [pr_zero]; unfold wh; rw [V_zero]; simp
  · have h := pr_lt hx h0 hn'
    have h2 : V (pr x n) < n * pw 1074 := by
      refine Nat.lt_of_not_le fun hh => ?_
      have := rd_le (X := n * pw 1074) (K := 0) (r := pr x n) (by rw [pw_eq 0, Nat.pow_zero, Nat.mul_one]; exact hh) (rd_top ..)
      unfold fi at h; omega
    unfold wh
    exact Nat.le_of_lt ((Nat.div_lt_iff_lt_mul (pw_pos _)).2 h2)

end Go.Proofs.YtieldmakbokekaaGreatDoor.Fl
