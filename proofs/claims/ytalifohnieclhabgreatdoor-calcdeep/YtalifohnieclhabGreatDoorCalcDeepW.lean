/- The walk: Of any two small numbers: so many brackets, signs, calls as may be are taken, one more is too deep. -/
import Derived.Test.YtalifohnieclhabGreatDoorAk4
import Derived.Test.YtalifohnieclhabGreatDoorPd
import Derived.WalkKit
import Derived.ProofKit
import Derived.OpenShut
import Derived.ShutString
import Derived.ChangeOld
import Derived.Below
import Derived.LaidMore
import Derived.Lay
import Derived.SevenTiedAt
import Derived.Stop.Joined
namespace Go.Proofs.YtalifohnieclhabGreatDoor.calcDeep
open Go.ChangeShapes Go.WideShapes Go.ChangeAt Go.RowKit
open Go.Proofs.YtalifohnieclhabGreatDoor.Oct Go.Proofs.YtalifohnieclhabGreatDoor.Fl
open Go.ChangeMaps (open_string shut_string)
set_option linter.unusedVariables false

/-- So many brackets, signs, calls around 7. -/
def dS (m : Nat) : Nat → List UInt8
  | 0 => [55]
  | k + 1 => if m = 0 then 40 :: (dS m k ++ [41]) else if m = 1 then 45 :: dS m k else 97 :: 98 :: 115 :: 40 :: (dS m k ++ [41])
/-- What it is. -/
def dW (m : Nat) : Nat → Nat
  | 0 => 4619567317775286272
  | k + 1 => if m = 1 then Op.negFloat .f64 (dW m k) else dW m k

theorem dS_len (m : Nat) : ∀ k, (dS m k).length ≤ 1 + 5 * k
  | 0 => by simp [dS]
  | k + 1 => by
    have := dS_len m k
    unfold dS
    split
    · simp; omega
    · split
      · simp; omega
      · simp; omega

theorem dS_tb (m : Nat) : ∀ k, tb (dS m k) = dS m k
  | 0 => rfl
  | k + 1 => by
    unfold dS
    split
    · rw [tb_cons, if_neg (by decide)]
    · split
      · rw [tb_cons, if_neg (by decide)]
      · rw [tb_cons, if_neg (by decide)]

theorem dW_two (m : Nat) : ∀ k, (m ≠ 1 → dW m k = 4619567317775286272) ∧ (dW m k = 4619567317775286272 ∨ dW m k = 13842939354630062080)
  | 0 => ⟨fun _ => rfl, .inl rfl⟩
  | k + 1 => by
    have ih := dW_two m k
    unfold dW
    by_cases h : m = 1
    · rw [if_pos h]
      refine ⟨fun h' => absurd h h', ?_⟩
      rcases ih.2 with h1 | h1
      · rw [h1]; exact .inr (by decide +kernel)
      · rw [h1]; exact .inl (by decide +kernel)
    · rw [if_neg h]; exact ⟨fun h' => ih.1 h', ih.2⟩

theorem neg_dW (m k : Nat) : negN (dW m k) = Op.negFloat .f64 (dW m k) := by
  rcases (dW_two m k).2 with h | h <;> rw [h] <;> decide +kernel

theorem dF (m : Nat) : ∀ k n, pF (n + k + 1) (dS m k) = some (dW m k, [], k)
  | 0, n => by
    have hn : ∀ b ∈ dS m 0, nc b = true := by intro b hb; simp [dS] at hb; subst hb; decide
    have hd : dcm (dS m 0) = some 4619567317775286272 := by show dcm [55] = _; decide +kernel
    exact pF_nc n hn hd
  | k + 1, n => by
    have ih := dF m k n
    have he : pE (pF (n + k + 1)) (n + k + 1) (tb (dS m k)) = some (dW m k, [], k) := by rw [dS_tb]; exact pE_one (n + k) ih
    unfold dS dW
    by_cases h0 : m = 0
    · rw [if_pos h0, if_neg (by omega)]
      exact pF_paren he
    · by_cases h1 : m = 1
      · rw [if_neg h0, if_pos h1, if_pos h1]
        have := pF_neg (n + k + 1) (dS_tb m k) ih
        rw [neg_dW] at this
        exact this
      · rw [if_neg h0, if_neg h1, if_neg h1]
        have := pF_abs (r := []) he
        rw [show absN (dW m k) = dW m k by rw [(dW_two m k).1 h1]; decide +kernel] at this
        exact this

theorem dE (m k : Nat) (hk : k < 40) : evE 300 (dS m k) = (if 32 < k then 3 else 0) ∧ (¬ 32 < k → evV 300 (dS m k) = dW m k) := by
  have hl := dS_len m k
  have hw : pW 300 (dS m k) = some (dW m k, [], k) := by
    have := dF m k (299 - k)
    rw [show 299 - k + k + 1 = 299 + 1 by omega] at this
    exact pW_one 299 (dS_tb m k) this
  have h1 : ¬ 4096 < (dS m k).length := by omega
  unfold evE evV
  rw [if_neg h1, if_neg h1, hw]
  exact ⟨rfl, fun h => if_neg h⟩

theorem deep_go (a b : Int) (m k : Nat) (w : World) (ha : 0 ≤ a ∧ a ≤ 255) (hb : 0 ≤ b ∧ b ≤ 255) (hk : a.tmod 40 = (k : Int)) (hm : b.tmod 3 = (m : Int)) (hk40 : k < 40) (hm3 : m < 3) :
    Calls Tryz.prog 5 #[.int .u8 a, .int .u8 b] w fun e w' => e = .returned (.bool true) ∧ Below w.heap.size w w' := by
  have hcv : IntKind.i64.wrap a = a := by rw [IntKind.wrap_i64]; omega
  have hum : IntKind.u8.wrap (m : Int) = (m : Int) := by rw [IntKind.wrap_u8']; omega
  have hE := fun w => eval_any 300 (dS m k) w (by have := dS_len m k; omega)
  have hde := dE m k hk40
  have HE : Hid (evE 300 (dS m k) = (if 32 < k then 3 else 0) ∧ (¬ 32 < k → evV 300 (dS m k) = dW m k)) := hde
  obtain ⟨ha0, ha1⟩ := ha
  obtain ⟨hb0, hb1⟩ := hb
  clear hde
  generalize evE 300 (dS m k) = E at *
  generalize evV 300 (dS m k) = V at *
  go_enter Tryz.func5, Tryz.ntmps5
  go_wp2_with fail
  refine (awake4 _).mono ?_
  rintro e w1 ⟨rfl, hb⟩
  have HB1 : Hid (Below w.heap.size w w1) := hb
  clear hb
  go_wp2
  go_loop [6, 7, 8] (fun t x i => ∃ j : Nat, j ≤ k ∧ i = .int .i64 (j : Int) ∧ t = .string ⟨(dS m j).toArray⟩ ∧ x = .float .f64 (dW m j)) (fun _ _ i => k - (intOf i).toNat)
  case atStart => exact ⟨0, Nat.zero_le _, rfl, rfl, rfl⟩
  case round =>
    obtain ⟨j, hj, rfl, rfl, rfl⟩ := hrel
    by_cases hlt : j < k
    · have hsl : (dS m j).length ≤ 250 := by have := dS_len m j; omega
      rcases (show m = 0 ∨ m = 1 ∨ m = 2 by omega) with rfl | rfl | rfl
      · have HS : Hid ((⟨#[40]⟩ : ByteArray) ++ ⟨(dS 0 j).toArray⟩ ++ (⟨#[41]⟩ : ByteArray) = ⟨(dS 0 (j + 1)).toArray⟩) := by
          unfold Hid; refine ba_eq ?_; simp [ByteArray.data_append, dS]
        have HW : Hid (dW 0 (j + 1) = dW 0 j) := rfl
        go_wp2
        go_round
        case rel => exact ⟨j + 1, by omega, by go_num, by rw [← HS.out], by rw [HW.out]⟩
        case measure => simp [intOf]; omega
      · have HS : Hid ((⟨#[45]⟩ : ByteArray) ++ ⟨(dS 1 j).toArray⟩ = ⟨(dS 1 (j + 1)).toArray⟩) := by
          unfold Hid; refine ba_eq ?_; simp [ByteArray.data_append, dS]
        have HW : Hid (dW 1 (j + 1) = Op.negFloat .f64 (dW 1 j)) := rfl
        have hng : ∀ w, (Op.unary .neg (.float .f64 (dW 1 j))).run Tryz.prog w = .ok (.float .f64 (Op.negFloat .f64 (dW 1 j))) w := fun _ => rfl
        obtain ⟨u, hu⟩ : ∃ u, Op.negFloat .f64 (dW 1 j) = u := ⟨_, rfl⟩
        rw [hu] at hng HW
        clear hu
        go_wp2
        go_round
        case rel => exact ⟨j + 1, by omega, by go_num, by rw [← HS.out], by rw [HW.out]⟩
        case measure => simp [intOf]; omega
      · have HS : Hid ((⟨#[97, 98, 115, 40]⟩ : ByteArray) ++ ⟨(dS 2 j).toArray⟩ ++ (⟨#[41]⟩ : ByteArray) = ⟨(dS 2 (j + 1)).toArray⟩) := by
          unfold Hid; refine ba_eq ?_; simp [ByteArray.data_append, dS]
        have HW : Hid (dW 2 (j + 1) = dW 2 j) := rfl
        go_wp2
        go_round
        case rel => exact ⟨j + 1, by omega, by go_num, by rw [← HS.out], by rw [HW.out]⟩
        case measure => simp [intOf]; omega
    · obtain rfl : j = k := by omega
      have HD : Hid (¬ Nan (dW m j) ∧ (FloatKind.f64.format.order (dW m j) (dW m j) == some .eq) = true) := by
        unfold Hid
        rcases (dW_two m j).2 with h | h <;> rw [h] <;> exact ⟨by decide +kernel, by decide +kernel⟩
      go_wp2_with fail
      refine (hE _).mono ?_
      rintro e w2 ⟨x, rfl, hx, hn, hb⟩
      have HB2 : Hid (Below w.heap.size w w2) := HB1.out.trans (hb.mono HB1.out.size)
      have HN : Hid (nb x = V) := hn
      clear hx hn hb hE
      by_cases h32 : 32 < j
      · have h3 : E = 3 := HE.out.1.trans (if_pos h32)
        have h32' : (32 : Int) < (j : Int) := by omega
        subst h3
        go_wp2
        go_ret
        exact ⟨rfl, HB2.out⟩
      · have h3 : E = 0 := HE.out.1.trans (if_neg h32)
        have h32' : ¬ (32 : Int) < (j : Int) := by omega
        have hx : x = dW m j := nb_is (HN.out.trans (HE.out.2 h32)) HD.out.1
        have hord := HD.out.2
        subst h3 hx
        go_wp2
        go_ret
        exact ⟨by first | rfl | (rw [hord]), HB2.out⟩

set_option maxHeartbeats 4000000 in
set_option maxRecDepth 100000 in
theorem walk (a0 : Int) (a1 : Int) (w : World) (w0 : (Lit.int .u8 a0).wf = true) (w1 : (Lit.int .u8 a1).wf = true) :
    Calls Tryz.prog 5 #[.int .u8 a0, .int .u8 a1] w fun e w' => e = .returned (.bool true) ∧ Below w.heap.size w w' := by
  have ha := u8_wf w0
  have hb := u8_wf w1
  obtain ⟨k, hk⟩ : ∃ k : Nat, a0.tmod 40 = (k : Int) := ⟨(a0.tmod 40).toNat, by rw [Int.tmod_eq_emod_of_nonneg ha.1]; omega⟩
  obtain ⟨m, hm⟩ : ∃ m : Nat, a1.tmod 3 = (m : Int) := ⟨(a1.tmod 3).toNat, by rw [Int.tmod_eq_emod_of_nonneg hb.1]; omega⟩
  exact deep_go a0 a1 m k w ha hb hk hm (by rw [Int.tmod_eq_emod_of_nonneg ha.1] at hk; omega) (by rw [Int.tmod_eq_emod_of_nonneg hb.1] at hm; omega)

end Go.Proofs.YtalifohnieclhabGreatDoor.calcDeep
