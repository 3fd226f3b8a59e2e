/-
  internal/strconv's readFloat, at texts 0x1.hhhp+dd.
-/
import Derived.Test.YtieldmakbokekaaGreatDoorAh
import Derived.Test.YtieldmakbokekaaGreatDoorRd
import Derived.WalkMore
namespace Go.Proofs.YtieldmakbokekaaGreatDoor.Oct
open Go.RowKit

theorem lower_any (c : Int) (w : World) : Calls Tryz.prog 119 #[.int .u8 c] w fun e w' => e = .returned (.int .u8 (bits .or .u8 c 32)) ∧ w = w' := by
  go_enter Tryz.func119, Tryz.ntmps119
  go_wp2
  go_ret
  exact ⟨rfl, rfl⟩

/-- The number in the first j hex digits behind the leading 1. -/
def hv (D : Nat → Nat) : Nat → Nat
  | 0 => 1
  | j + 1 => hv D j * 16 + D j

theorem hv_bd {D : Nat → Nat} {n : Nat} (h : ∀ j, j < n → D j ≤ 15) : ∀ j, j ≤ n → hv D j + 1 ≤ 2 * 16 ^ j := by
  intro j
  induction j with
  | zero => intro _; exact Nat.le_refl _
  | succ j ih =>
    intro hj
    have := ih (by omega)
    have := h j (by omega)
    rw [hv, Nat.pow_succ]
    omega

theorem hv_pos (D : Nat → Nat) : ∀ j, 1 ≤ hv D j := by
  intro j
  induction j with
  | zero => exact Nat.le_refl _
  | succ j ih => rw [hv]; omega

theorem hv_bd13 {D : Nat → Nat} {n : Nat} (h : ∀ j, j < n → D j ≤ 15) (hn : n ≤ 13) (j : Nat) (hj : j ≤ n) : hv D j < 9007199254740992 := by
  have h1 := hv_bd h j hj
  have h2 : 16 ^ j ≤ 16 ^ 13 := Nat.pow_le_pow_right (by decide) (by omega)
  have h3 : 16 ^ 13 = 4503599627370496 := by decide
  omega

/-- The number in the first j decimal digits. -/
def dv (X : Nat → Nat) : Nat → Nat
  | 0 => 0
  | j + 1 => dv X j * 10 + X j

theorem dv_bd {X : Nat → Nat} {n : Nat} (h : ∀ j, j < n → X j ≤ 9) : ∀ j, j ≤ n → dv X j < 10 ^ j := by
  intro j
  induction j with
  | zero => intro _; exact Nat.zero_lt_one
  | succ j ih =>
    intro hj
    have := ih (by omega)
    have := h j (by omega)
    rw [dv, Nat.pow_succ]
    omega

def mantT (D : Nat → Nat) (t : Nat) : Nat := match t with
  | 0 => 0
  | 1 => 1
  | t + 2 => hv D t
def ndT (t : Nat) : Nat := match t with
  | 0 => 0
  | 1 => 1
  | t + 2 => t + 1

def dpT (t : Nat) : Int := if 2 ≤ t then 1 else 0
def b1T (t : Nat) : Bool := decide (2 ≤ t)
def b2T (t : Nat) : Bool := decide (1 ≤ t)

def frL (n : Nat) : Nat := if n = 0 then 0 else n + 1

/-- A text 0x1.hhhp+dd: its bytes. -/
structure HexT (s : ByteArray) (n m : Nat) (ch : Nat → Int) (D X : Nat → Nat) (es : Bool) : Prop where
  size : s.size = 5 + frL n + m
  m0 : 1 ≤ m
  m4 : m ≤ 4
  n13 : n ≤ 13
  idx : ∀ k : Nat, k < s.size → ∀ W, (Instr.index 9 (.string s) (.int .i64 (k : Int))).run Tryz.prog W = .ok (.int .u8 (ch k)) W
  c0 : ch 0 = 48
  c1 : ch 1 = 120
  c2 : ch 2 = 49
  c3 : 0 < n → ch 3 = 46
  cp : ch (3 + frL n) = 112
  cz : ch (4 + frL n) = if es then 45 else 43
  cd : ∀ j, j < m → ch (5 + frL n + j) = 48 + (X j : Int)
  dig : ∀ j, j < n → (48 ≤ ch (4 + j) ∧ ch (4 + j) ≤ 57 ∧ (D j : Int) = ch (4 + j) - 48) ∨ (97 ≤ ch (4 + j) ∧ ch (4 + j) ≤ 102 ∧ (D j : Int) = ch (4 + j) - 87)
  dec : ∀ j, j < m → X j ≤ 9

theorem HexT.d15 {s : ByteArray} {n m : Nat} {ch : Nat → Int} {D X : Nat → Nat} {es : Bool} (h : HexT s n m ch D X es) : ∀ j, j < n → D j ≤ 15 := fun j hj => by
  rcases h.dig j hj with h | h <;> omega

theorem wrap_u {z : Int} (h0 : 0 ≤ z) (h1 : z < 18446744073709551616) : IntKind.u64.wrap z = z := IntWalk.u64_in z (by omega)

theorem results_tmp7 {fn : Func} {a b c d e f g : Tmp} (h : fn.results = #[.tmp a, .tmp b, .tmp c, .tmp d, .tmp e, .tmp f, .tmp g]) (tmps : Array Value) (P : Program) (w : World) :
    (results fn tmps).run P w = .ok (.tuple #[tmps.getD a undef, tmps.getD b undef, tmps.getD c undef, tmps.getD d undef, tmps.getD e undef, tmps.getD f undef, tmps.getD g undef]) w := by
  simp only [results, h]
  simp

theorem rf_ret {M z x y : Int} {n : Nat} {e : Ending} (h : e = .returned (.tuple #[.int .u64 M, .int .i64 z, .bool false, .bool false, .bool true, .int .i64 n, .bool true])) (hM : M = x) (hz : z = y) :
    e = .returned (.tuple #[.int .u64 x, .int .i64 y, .bool false, .bool false, .bool true, .int .i64 n, .bool true]) := by rw [h, hM, hz]

theorem rf_end {n j k M N : Nat} {D : Nat → Nat} (hd : ∀ j, j < n → D j ≤ 15) (hn : n ≤ 13) (hfe : frL n = n + 1) (hj : j < n) (hk : k = 4 + j) (hN : N = j + 1) (hM : M = hv D j) (x : Int) (hx : x = IntKind.u64.wrap (IntKind.u64.wrap ((M : Int) * 16) + (D j : Int))) :
    (∃ (t k' M' N' : Nat) (b1 b2 : Bool) (d : Int), Hid (t ≤ 1 + frL n ∧ k' = 2 + t ∧ M' = mantT D t ∧ N' = ndT t ∧ b1 = b1T t ∧ b2 = b2T t ∧ d = dpT t) ∧ Value.int .u64 x = .int .u64 (M' : Int) ∧ Value.bool false = .bool false ∧ Value.int .i64 ((k : Int) + 1) = .int .i64 (k' : Int) ∧ Value.bool false = .bool false ∧ Value.bool true = .bool b1 ∧ Value.bool true = .bool b2 ∧ Value.int .i64 ((N : Int) + 1) = .int .i64 (N' : Int) ∧ Value.int .i64 ((N : Int) + 1) = .int .i64 (N' : Int) ∧ Value.int .i64 1 = .int .i64 d) := by
  have hb := hv_bd13 hd hn j (by omega)
  have hD := hd j hj
  have e : x = ((hv D (j + 1) : Nat) : Int) := by
    have w1 : IntKind.u64.wrap ((M : Int) * 16) = (M : Int) * 16 := wrap_u (by omega) (by rw [hM]; omega)
    rw [hx, w1, wrap_u (by omega) (by rw [hM]; omega), hv, hM]
    omega
  refine ⟨j + 3, k + 1, hv D (j + 1), N + 1, true, true, 1, ⟨by omega, by omega, rfl, ?_, ?_, ?_, ?_⟩, by rw [e], rfl, rfl, rfl, rfl, rfl, rfl, rfl, rfl⟩
  · show N + 1 = (j + 1) + 1
    omega
  · exact (decide_eq_true (by omega)).symm
  · exact (decide_eq_true (by omega)).symm
  · exact (if_pos (by omega)).symm

set_option maxHeartbeats 4000000 in
set_option maxRecDepth 100000 in
theorem rf_any (s : ByteArray) (n m : Nat) (ch : Nat → Int) (D X : Nat → Nat) (es : Bool) (h : HexT s n m ch D X es) (w : World) :
    Calls Tryz.prog 104 #[.string s] w fun e w' => e = .returned (.tuple #[.int .u64 (hv D n : Nat), .int .i64 ((if es then -1 else 1) * (dv X m : Int) - 4 * (n : Int)), .bool false, .bool false, .bool true, .int .i64 (s.size : Nat), .bool true]) ∧ w = w' := by
  have hs : (6 : Int) ≤ (s.size : Int) := by have := h.size; have := h.m0; omega
  have hfr : frL n ≤ 14 := by have := h.n13; unfold frL; split <;> omega
  have hm : (s.size : Int) ≤ 30 := by have := h.size; have := h.m4; omega
  have hse : ¬ s = ByteArray.empty := fun e => by rw [e] at hs; exact absurd hs (by decide)
  have i0 : ∀ W, (Instr.index 9 (.string s) (.int .i64 0)).run Tryz.prog W = .ok (.int .u8 48) W := fun W => by have := h.idx 0 (by omega) W; rw [h.c0] at this; exact this
  have i1 : ∀ W, (Instr.index 9 (.string s) (.int .i64 1)).run Tryz.prog W = .ok (.int .u8 120) W := fun W => by have := h.idx 1 (by omega) W; rw [h.c1] at this; exact this
  have HX : Hid (HexT s n m ch D X es) := h
  have HFR : Hid (frL n ≤ 14) := hfr
  clear h hfr
  obtain ⟨R, hR⟩ : ∃ R, (if es then (-1 : Int) else 1) * (dv X m : Int) - 4 * (n : Int) = R := ⟨_, rfl⟩
  rw [hR]
  have HRR : Hid ((if es then (-1 : Int) else 1) * (dv X m : Int) - 4 * (n : Int) = R) := hR
  clear hR
  go_enter Tryz.func104, Tryz.ntmps104
  go_wp2_with fail
  go_step3
  have lw : bits .or .u8 120 32 = 120 := by decide
  go_wp2_with (go_at_call 119; refine (lower_any _ _).mono ?_; rintro e w' ⟨rfl, rfl⟩)
  go_step3
  go_wp2_with fail
  clear i0 i1 lw
  go_loop [2, 5, 7, 9, 13, 14, 15, 16, 17] (fun x2 x5 x7 x9 x13 x14 x15 x16 x17 => ∃ (t k M N : Nat) (b1 b2 : Bool) (d : Int), Hid (t ≤ 1 + frL n ∧ k = 2 + t ∧ M = mantT D t ∧ N = ndT t ∧ b1 = b1T t ∧ b2 = b2T t ∧ d = dpT t) ∧ x2 = .int .u64 (M : Int) ∧ x5 = .bool false ∧ x7 = .int .i64 (k : Int) ∧ x9 = .bool false ∧ x13 = .bool b1 ∧ x14 = .bool b2 ∧ x15 = .int .i64 (N : Int) ∧ x16 = .int .i64 (N : Int) ∧ x17 = .int .i64 d) (fun _ _ x7 _ _ _ _ _ _ => 40 - (intOf x7).toNat)
  case atStart => exact ⟨0, 2, 0, 0, false, false, 0, ⟨Nat.zero_le _, rfl, rfl, rfl, rfl, rfl, rfl⟩, rfl, rfl, rfl, rfl, rfl, rfl, rfl, rfl, rfl⟩
  case round =>
    obtain ⟨t, k, M, N, b1, b2, d, HT, rfl, rfl, rfl, rfl, rfl, rfl, rfl, rfl, rfl⟩ := hrel
    have HSZ : Hid (s.size = 5 + frL n + m) := HX.out.size
    have HM0 : Hid (1 ≤ m) := HX.out.m0
    have hks : (k : Int) < (s.size : Int) := by have := HT.out.1; have := HT.out.2.1; have := HSZ.out; have := HM0.out; omega
    have ik := HX.out.idx k (by omega)
    by_cases h0 : t = 0
    · subst h0
      obtain ⟨_, rfl, rfl, rfl, rfl, rfl, rfl⟩ := HT.out
      have i2 : ∀ W, (Instr.index 9 (.string s) (.int .i64 2)).run Tryz.prog W = .ok (.int .u8 49) W := fun W => by have := HX.out.idx 2 (by omega) W; rw [HX.out.c2] at this; exact this
      clear ik HT
      have l1 : bits .or .u8 49 32 = 49 := by decide
      go_wp2_with (go_at_call 119; refine (lower_any _ _).mono ?_; rintro e w' ⟨rfl, rfl⟩)
      exact ⟨⟨1, 3, 1, 1, false, true, 0, ⟨by omega, rfl, rfl, rfl, rfl, rfl, rfl⟩, rfl, rfl, rfl, rfl, rfl, rfl, congrArg (Value.int .i64) (by show wrap64 (0 + 1) = 1; unfold wrap64; decide), rfl, rfl⟩, by simp [intOf]⟩
    by_cases hT : t = 1 + frL n
    · have hfacts : M = hv D n ∧ N = n + 1 ∧ b2 = true ∧ ((n = 0 ∧ b1 = false ∧ d = 0) ∨ (0 < n ∧ b1 = true ∧ d = 1)) ∧ k = 3 + frL n := by
        obtain ⟨_, q1, q2, q3, q4, q5, q6⟩ := HT.out
        by_cases hn : n = 0
        · have hf : frL n = 0 := by unfold frL; rw [if_pos hn]
          have ht1 : t = 1 := by omega
          rw [ht1] at q2 q3 q4 q5 q6
          subst hn
          exact ⟨q2, q3, q5, .inl ⟨rfl, q4, q6⟩, by omega⟩
        · have hf : frL n = n + 1 := by unfold frL; rw [if_neg hn]
          have ht1 : t = n + 2 := by omega
          rw [ht1] at q2 q3 q4 q5 q6
          exact ⟨q2, q3, q5.trans (decide_eq_true (by omega)), .inr ⟨by omega, q4.trans (decide_eq_true (by omega)), q6.trans (if_pos (by omega))⟩, by omega⟩
      obtain ⟨hM, hN, rfl, hbd, hk⟩ := hfacts
      have HM : Hid (M = hv D n) := hM
      have HN : Hid (N = n + 1) := hN
      have HK : Hid (k = 3 + frL n) := hk
      have hM0 : ((M : Int) != 0) = true := by
        have := hv_pos D n
        rw [hM]; simp; omega
      have hN14 : (N : Int) ≤ 14 := by have := HX.out.n13; omega
      have hN1 : 1 ≤ (N : Int) := by omega
      have ik1 : ∀ W, (Instr.index 9 (.string s) (.int .i64 ((k : Int) + 1))).run Tryz.prog W = .ok (.int .u8 (if es then 45 else 43)) W := fun W => by
        have := HX.out.idx (k + 1) (by have := HSZ.out; have := HM0.out; omega) W
        rw [show k + 1 = 4 + frL n by omega, HX.out.cz, show ((4 + frL n : Nat) : Int) = (k : Int) + 1 by omega] at this
        exact this
      have ik2 : ∀ W, (Instr.index 9 (.string s) (.int .i64 ((k : Int) + 1 + 1))).run Tryz.prog W = .ok (.int .u8 (48 + (X 0 : Int))) W := fun W => by
        have := HX.out.idx (k + 2) (by have := HSZ.out; have := HM0.out; omega) W
        rw [show k + 2 = 5 + frL n + 0 by omega, HX.out.cd 0 HM0.out, show ((5 + frL n + 0 : Nat) : Int) = (k : Int) + 1 + 1 by omega] at this
        exact this
      have ikp := ik
      rw [hk, HX.out.cp, ← hk] at ikp
      have hx0 := HX.out.dec 0 HM0.out
      have hk1 : (k : Int) + 1 < (s.size : Int) := by have := HSZ.out; have := HM0.out; omega
      have hk2 : (k : Int) + 1 + 1 < (s.size : Int) := by have := HSZ.out; have := HM0.out; omega
      have lp : bits .or .u8 112 32 = 112 := by decide
      clear hM hN hk ik HT h0 hT
      obtain ⟨x0, hx0e⟩ : ∃ x, X 0 = x := ⟨_, rfl⟩
      rw [hx0e] at ik2 hx0
      clear hx0e
      have HE : Hid (∀ (v : Nat) (dp : Int), v = dv X m → (dp = (N : Int) * 4 ∨ dp = 4) → ((n = 0 ∨ dp = 4)) → True) := fun _ _ _ _ _ => trivial
      clear HE
      have hbd' : (b1 = false ∧ d = 0 ∧ n = 0) ∨ (b1 = true ∧ d = 1) := by
        rcases hbd with ⟨h1, h2, h3⟩ | ⟨h1, h2, h3⟩
        · exact .inl ⟨h2, h3, h1⟩
        · exact .inr ⟨h2, h3⟩
      clear hbd
      rcases hbd' with ⟨rfl, rfl, hn0⟩ | ⟨rfl, rfl⟩
      · have HN0 : Hid (n = 0) := hn0
        clear hn0
        cases hes : es
        all_goals
          rw [hes] at ik1 HRR
          simp only [if_true, if_false, Bool.false_eq_true] at ik1
          go_wp2_with (go_at_call 119; refine (lower_any _ _).mono ?_; rintro e w' ⟨rfl, rfl⟩)
          clear ik1 ik2 ikp hx0 hk1 hk2 lp hks
          go_loop [7, 9, 20] (fun x7 x9 x20 => ∃ (q v : Nat), Hid (5 + frL n ≤ q ∧ q ≤ s.size ∧ v = dv X (q - (5 + frL n))) ∧ x7 = .int .i64 (q : Int) ∧ x9 = .bool false ∧ x20 = .int .i64 (v : Int)) (fun x7 _ _ => 40 - (intOf x7).toNat)
          case atStart => exact ⟨5 + frL n, 0, ⟨Nat.le_refl _, by have := HSZ.out; omega, by rw [Nat.sub_self]; rfl⟩, congrArg (Value.int .i64) (by have := HK.out; omega), rfl, rfl⟩
          case round =>
            obtain ⟨q, v, HQ, rfl, rfl, rfl⟩ := hrel
            by_cases hlt : q < s.size
            · obtain ⟨j, hj⟩ : ∃ j, q = 5 + frL n + j := ⟨q - (5 + frL n), by have := HQ.out.1; omega⟩
              have hjm : j < m := by have := HSZ.out; omega
              have iq := HX.out.idx q hlt
              have hxd := HX.out.dec j hjm
              rw [hj, HX.out.cd j hjm, ← hj] at iq
              have hv0 : v = dv X j := by rw [HQ.out.2.2]; congr 1; omega
              have hvb : v < 1000 := by
                have h1 := dv_bd HX.out.dec j (by omega)
                have h2 : 10 ^ j ≤ 10 ^ 3 := Nat.pow_le_pow_right (by decide) (by have := HX.out.m4; omega)
                rw [hv0]
                omega
              obtain ⟨x, hx⟩ : ∃ x, X j = x := ⟨_, rfl⟩
              rw [hx] at iq hxd
              have HV : Hid (v * 10 + x = dv X (j + 1)) := by show _ = _; rw [dv, hv0, hx]
              have HJ : Hid (q = 5 + frL n + j) := hj
              have hlt' : (q : Int) < (s.size : Int) := by omega
              clear hj hjm hv0 hx HQ hlt
              go_wp2
              refine ⟨⟨q + 1, v * 10 + x, ⟨by have := HJ.out; omega, by omega, ?_⟩, congrArg (Value.int .i64) (by omega), rfl, congrArg (Value.int .i64) (by omega)⟩, by simp [intOf]; omega⟩
              have e1 := HJ.out
              rw [HV.out]
              congr 1
              omega
            · have hq : q = s.size := by have := HQ.out.2.1; omega
              have HV : Hid (v = dv X m) := by show _ = _; rw [HQ.out.2.2, hq, HSZ.out]; congr 1; omega
              have hvb : v < 10000 := by
                have h1 := dv_bd HX.out.dec m (Nat.le_refl _)
                have h2 : 10 ^ m ≤ 10 ^ 4 := Nat.pow_le_pow_right (by decide) HX.out.m4
                rw [HV.out]
                omega
              subst hq
              clear HQ hlt
              go_wp2
              have e1 := HRR.out
              have e2 := HV.out
              have e3 := HN.out
              have e4 := HM.out
              simp only [if_true, if_false, Bool.false_eq_true] at e1
              refine bodyPost_ret (results_tmp7 rfl _ _ _) rfl ⟨?_, rfl⟩
              first
                | exact rf_ret (z := (N : Int) * 4 + (v : Int) - (N : Int) * 4) rfl (by omega) (by have := HN0.out; omega)
                | exact rf_ret (z := (N : Int) * 4 + -(v : Int) - (N : Int) * 4) rfl (by omega) (by have := HN0.out; omega)
                | exact rf_ret (z := 4 + (v : Int) - (N : Int) * 4) rfl (by omega) (by omega)
                | exact rf_ret (z := 4 + -(v : Int) - (N : Int) * 4) rfl (by omega) (by omega)
      · cases hes : es
        all_goals
          rw [hes] at ik1 HRR
          simp only [if_true, if_false, Bool.false_eq_true] at ik1
          go_wp2_with (go_at_call 119; refine (lower_any _ _).mono ?_; rintro e w' ⟨rfl, rfl⟩)
          clear ik1 ik2 ikp hx0 hk1 hk2 lp hks
          go_loop [7, 9, 20] (fun x7 x9 x20 => ∃ (q v : Nat), Hid (5 + frL n ≤ q ∧ q ≤ s.size ∧ v = dv X (q - (5 + frL n))) ∧ x7 = .int .i64 (q : Int) ∧ x9 = .bool false ∧ x20 = .int .i64 (v : Int)) (fun x7 _ _ => 40 - (intOf x7).toNat)
          case atStart => exact ⟨5 + frL n, 0, ⟨Nat.le_refl _, by have := HSZ.out; omega, by rw [Nat.sub_self]; rfl⟩, congrArg (Value.int .i64) (by have := HK.out; omega), rfl, rfl⟩
          case round =>
            obtain ⟨q, v, HQ, rfl, rfl, rfl⟩ := hrel
            by_cases hlt : q < s.size
            · obtain ⟨j, hj⟩ : ∃ j, q = 5 + frL n + j := ⟨q - (5 + frL n), by have := HQ.out.1; omega⟩
              have hjm : j < m := by have := HSZ.out; omega
              have iq := HX.out.idx q hlt
              have hxd := HX.out.dec j hjm
              rw [hj, HX.out.cd j hjm, ← hj] at iq
              have hv0 : v = dv X j := by rw [HQ.out.2.2]; congr 1; omega
              have hvb : v < 1000 := by
                have h1 := dv_bd HX.out.dec j (by omega)
                have h2 : 10 ^ j ≤ 10 ^ 3 := Nat.pow_le_pow_right (by decide) (by have := HX.out.m4; omega)
                rw [hv0]
                omega
              obtain ⟨x, hx⟩ : ∃ x, X j = x := ⟨_, rfl⟩
              rw [hx] at iq hxd
              have HV : Hid (v * 10 + x = dv X (j + 1)) := by show _ = _; rw [dv, hv0, hx]
              have HJ : Hid (q = 5 + frL n + j) := hj
              have hlt' : (q : Int) < (s.size : Int) := by omega
              clear hj hjm hv0 hx HQ hlt
              go_wp2
              refine ⟨⟨q + 1, v * 10 + x, ⟨by have := HJ.out; omega, by omega, ?_⟩, congrArg (Value.int .i64) (by omega), rfl, congrArg (Value.int .i64) (by omega)⟩, by simp [intOf]; omega⟩
              have e1 := HJ.out
              rw [HV.out]
              congr 1
              omega
            · have hq : q = s.size := by have := HQ.out.2.1; omega
              have HV : Hid (v = dv X m) := by show _ = _; rw [HQ.out.2.2, hq, HSZ.out]; congr 1; omega
              have hvb : v < 10000 := by
                have h1 := dv_bd HX.out.dec m (Nat.le_refl _)
                have h2 : 10 ^ m ≤ 10 ^ 4 := Nat.pow_le_pow_right (by decide) HX.out.m4
                rw [HV.out]
                omega
              subst hq
              clear HQ hlt
              go_wp2
              have e1 := HRR.out
              have e2 := HV.out
              have e3 := HN.out
              have e4 := HM.out
              simp only [if_true, if_false, Bool.false_eq_true] at e1
              refine bodyPost_ret (results_tmp7 rfl _ _ _) rfl ⟨?_, rfl⟩
              first
                | exact rf_ret (z := (N : Int) * 4 + (v : Int) - (N : Int) * 4) rfl (by omega) (by have := HN0.out; omega)
                | exact rf_ret (z := (N : Int) * 4 + -(v : Int) - (N : Int) * 4) rfl (by omega) (by have := HN0.out; omega)
                | exact rf_ret (z := 4 + (v : Int) - (N : Int) * 4) rfl (by omega) (by omega)
                | exact rf_ret (z := 4 + -(v : Int) - (N : Int) * 4) rfl (by omega) (by omega)
    have hn : 0 < n := by
      by_cases hn : n = 0
      · exfalso
        have : frL n = 0 := by unfold frL; rw [if_pos hn]
        have := HT.out.1
        omega
      · omega
    have HFE : Hid (frL n = n + 1) := by show _ = _; unfold frL; rw [if_neg (by omega)]
    by_cases h1 : t = 1
    · subst h1
      obtain ⟨_, rfl, rfl, rfl, rfl, rfl, rfl⟩ := HT.out
      have i3 : ∀ W, (Instr.index 9 (.string s) (.int .i64 3)).run Tryz.prog W = .ok (.int .u8 46) W := fun W => by have := HX.out.idx 3 (by omega) W; rw [HX.out.c3 hn] at this; exact this
      clear ik HT
      go_wp2_with (go_at_call 119; refine (lower_any _ _).mono ?_; rintro e w' ⟨rfl, rfl⟩)
      exact ⟨⟨2, 4, 1, 1, true, true, 1, ⟨by have := HFE.out; omega, rfl, rfl, rfl, rfl, rfl, rfl⟩, rfl, rfl, rfl, rfl, rfl, rfl, rfl, rfl, rfl⟩, by simp [intOf]⟩
    obtain ⟨j, rfl⟩ : ∃ j, t = j + 2 := ⟨t - 2, by omega⟩
    have hj : j < n := by have := HT.out.1; have := HFE.out; omega
    obtain ⟨_, hk, hM, hN, hb1, hb2, hd⟩ := HT.out
    have hM' : M = hv D j := hM
    have hN' : N = j + 1 := hN
    have hdd : d = 1 := hd.trans (if_pos (by omega))
    subst hdd
    have d2 : b1 = true := hb1.trans (decide_eq_true (by omega))
    have d1 : b2 = true := hb2.trans (decide_eq_true (by omega))
    have hb := hv_bd13 HX.out.d15 HX.out.n13 j (by omega)
    rw [← hM'] at hb
    have hkj : k = 4 + j := by omega
    have hdg := HX.out.dig j hj
    rw [← hkj] at hdg
    have hN14 : N ≤ 13 := by have := HX.out.n13; omega
    obtain ⟨c, hc⟩ : ∃ c, ch k = c := ⟨_, rfl⟩
    obtain ⟨dd, hdd⟩ : ∃ dd, D j = dd := ⟨_, rfl⟩
    rw [hc] at ik hdg
    rw [hdd] at hdg
    subst d2 d1
    have HKJ : Hid (k = 4 + j) := hkj
    have HNJ : Hid (N = j + 1) := hN'
    have HJ : Hid (j < n) := hj
    have HMV : Hid (M = hv D j) := hM'
    have HDD : Hid (D j = dd) := hdd
    have hN16 : (N : Int) < 16 := by omega
    have hN0 : ((N : Int) == 0) = false := by have := HNJ.out; simp; omega
    clear hb1 hb2 hM hM' hN hN' hd hb hk hkj hc hdd HT h0 h1 hT hn hj hN14
    rcases hdg with ⟨g1, g2, g3⟩ | ⟨g1, g2, g3⟩
    · have HG : Hid ((dd : Int) = c - 48) := g3
      clear g3
      go_wp2_with (go_at_call 119; refine (lower_any _ _).mono ?_; rintro e w' ⟨rfl, rfl⟩)
      all_goals
        refine ⟨rf_end HX.out.d15 HX.out.n13 HFE.out HJ.out HKJ.out HNJ.out HMV.out _ ?_, by simp [intOf]; omega⟩
        have e1 := HDD.out
        have e2 := HG.out
        by_cases h48 : c = 48
        · have e3 : (D j : Int) = 0 := by omega
          first | (exfalso; contradiction) | (rw [e3, Int.add_zero])
        · have e3 : (D j : Int) = c - 48 := by omega
          first | (exfalso; contradiction) | (rw [e3])
    · have HG : Hid ((dd : Int) = c - 87) := g3
      have hlo : bits .or .u8 c 32 = c := by
        have : c = 97 ∨ c = 98 ∨ c = 99 ∨ c = 100 ∨ c = 101 ∨ c = 102 := by omega
        rcases this with rfl | rfl | rfl | rfl | rfl | rfl <;> decide
      clear g3
      go_wp2_with (go_at_call 119; refine (lower_any _ _).mono ?_; rw [hlo]; rintro e w' ⟨rfl, rfl⟩)
      refine ⟨rf_end HX.out.d15 HX.out.n13 HFE.out HJ.out HKJ.out HNJ.out HMV.out _ ?_, by simp [intOf]; omega⟩
      have e1 := HDD.out
      have e2 := HG.out
      rw [show (D j : Int) = c - 97 + 10 by omega]
end Go.Proofs.YtieldmakbokekaaGreatDoor.Oct
