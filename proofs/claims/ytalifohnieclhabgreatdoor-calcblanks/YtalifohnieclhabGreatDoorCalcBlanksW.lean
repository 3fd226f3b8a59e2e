/- The walk: Of any text and number: blanks ahead and behind change nothing, a pair of brackets around an expression nothing of its value. -/
import Derived.Test.YtalifohnieclhabGreatDoorAk4
import Derived.Test.YtalifohnieclhabGreatDoorPd
import Derived.WalkKit
import Derived.ProofKit
import Derived.OpenShut
import Derived.ShutString
import Derived.ChangeOld
import Derived.Below
import Derived.LaidMore
import Derived.Lay
import Derived.SevenTiedAt
import Derived.Stop.Joined
namespace Go.Proofs.YtalifohnieclhabGreatDoor.calcBlanks
open Go.ChangeShapes Go.WideShapes Go.ChangeAt Go.RowKit
open Go.Proofs.YtalifohnieclhabGreatDoor.Oct Go.Proofs.YtalifohnieclhabGreatDoor.Fl
open Go.ChangeMaps (open_string shut_string)
set_option linter.unusedVariables false

/-- So many blanks ahead, twice as many behind. -/
def bl (s : List UInt8) : Nat → List UInt8
  | 0 => s
  | i + 1 => 32 :: (bl s i ++ [32, 32])

theorem bl_len (s : List UInt8) : ∀ i, (bl s i).length = s.length + 3 * i
  | 0 => rfl
  | i + 1 => by unfold bl; rw [List.length_cons, List.length_append, bl_len s i]; simp; omega

theorem bl_pW (n : Nat) (s : List UInt8) : ∀ i, pW n (bl s i) = pW n s
  | 0 => rfl
  | i + 1 => by
    unfold bl
    rw [show 32 :: (bl s i ++ [32, 32]) = [32] ++ (bl s i ++ [32, 32]) from rfl, pW_ahead (by decide), pW_blank (by decide), bl_pW n s i]

theorem ev_same {n : Nat} {l t : List UInt8} (hl : l.length ≤ 4096) (ht : t.length ≤ 4096) (h : pW n t = pW n l) : evE n t = evE n l ∧ evV n t = evV n l := by
  unfold evE evV
  rw [if_neg (by omega), if_neg (by omega), if_neg (by omega), if_neg (by omega), h]
  exact ⟨rfl, rfl⟩

theorem ev_paren {l t : List UInt8} (hl : l.length ≤ 4096) (ht : t.length ≤ 4000) (h : pW 4200 t = pW 4200 l) (h0 : evE 4200 l = 0) :
    evE 4201 (40 :: (t ++ [41])) = 3 ∨ (evE 4201 (40 :: (t ++ [41])) = 0 ∧ evV 4201 (40 :: (t ++ [41])) = evV 4200 l) := by
  unfold evE at h0
  rw [if_neg (by omega)] at h0
  cases hp : pW 4200 l with
  | none => rw [hp] at h0; simp at h0
  | some q =>
    rw [hp] at h0
    simp only at h0
    obtain ⟨v, r, k⟩ := q
    obtain ⟨hr, he⟩ := pW_some (h.trans hp)
    simp only at hr
    subst hr
    have hf := pF_paren (r := []) he
    have hw := pW_one 4200 (by rw [tb_cons, if_neg (by decide)]) hf
    unfold evE evV
    rw [if_neg (by simp; omega), if_neg (by simp; omega), if_neg (by omega), hw, hp]
    simp only at h0 ⊢
    by_cases hk : 32 < k + 1
    · exact .inl (if_pos hk)
    · refine .inr ⟨if_neg hk, ?_⟩
      rw [if_neg hk, if_neg (by omega)]

theorem tail (E G V U : Nat) (l T : List UInt8) (m : Nat) (w : World) (a : Int) (ha : 0 ≤ a ∧ a ≤ 255) (hm : a.tmod 4 = (m : Int)) (hm4 : m < 4) (hl : l.length ≤ 2000) (hT : bl l m = T)
    (h1 : Hid (∀ w, Calls Tryz.prog 8 #[.string ⟨l.toArray⟩] w fun e w' => ∃ x, e = .returned (.tuple #[.float .f64 x, .int .i64 (E : Nat)]) ∧ x < 2 ^ 64 ∧ nb x = V ∧ Below w.heap.size w w'))
    (h2 : Hid (∀ w, Calls Tryz.prog 8 #[.string ⟨T.toArray⟩] w fun e w' => ∃ x, e = .returned (.tuple #[.float .f64 x, .int .i64 (E : Nat)]) ∧ x < 2 ^ 64 ∧ nb x = V ∧ Below w.heap.size w w'))
    (h3 : Hid (∀ w, Calls Tryz.prog 8 #[.string ⟨(40 :: (T ++ [41])).toArray⟩] w fun e w' => ∃ x, e = .returned (.tuple #[.float .f64 x, .int .i64 (G : Nat)]) ∧ x < 2 ^ 64 ∧ nb x = U ∧ Below w.heap.size w w'))
    (hG : E = 0 → G = 3 ∨ (G = 0 ∧ U = V)) :
    Calls Tryz.prog 3 #[.string ⟨l.toArray⟩, .int .u8 a] w fun e w' => e = .returned (.bool true) ∧ Below w.heap.size w w' := by
  have HT : Hid (bl l m = T) := hT
  have HG : Hid (E = 0 → G = 3 ∨ (G = 0 ∧ U = V)) := hG
  have HL : Hid (l.length ≤ 2000) := hl
  have hs := sz_mk l
  have hl' : ¬ (2000 : Int) < (l.length : Int) := by omega
  have HTL : Hid (T.length ≤ 2010) := by unfold Hid; rw [← hT, bl_len]; omega
  have hcv : IntKind.i64.wrap a = a := by rw [IntKind.wrap_i64]; omega
  obtain ⟨ha0, ha1⟩ := ha
  clear hT hG hl
  go_enter Tryz.func3, Tryz.ntmps3
  go_wp2_with fail
  refine (awake4 _).mono ?_
  rintro e w1 ⟨rfl, hb⟩
  have HB1 : Hid (Below w.heap.size w w1) := hb
  clear hb
  go_wp2_with fail
  refine (h1.out _).mono ?_
  rintro e w2 ⟨x, rfl, hx, hn, hb⟩
  have HB2 : Hid (Below w.heap.size w w2) := HB1.out.trans (hb.mono HB1.out.size)
  have HX : Hid (nb x = V) := hn
  clear hx hn hb
  go_wp2
  go_loop [7, 8] (fun t i => ∃ k : Nat, k ≤ m ∧ i = .int .i64 (k : Int) ∧ t = .string ⟨(bl l k).toArray⟩) (fun _ i => m - (intOf i).toNat)
  case atStart => exact ⟨0, Nat.zero_le _, rfl, rfl⟩
  case round =>
    obtain ⟨k, hk, rfl, rfl⟩ := hrel
    by_cases hlt : k < m
    · have hbl : (bl l k).length ≤ 2020 := by have := bl_len l k; have := HL.out; omega
      have HBB : Hid ((⟨#[32]⟩ : ByteArray) ++ ⟨(bl l k).toArray⟩ ++ (⟨#[32, 32]⟩ : ByteArray) = ⟨(bl l (k + 1)).toArray⟩) := by
        unfold Hid; refine ba_eq ?_; simp [ByteArray.data_append, bl]
      go_wp2
      go_round
      case rel => exact ⟨k + 1, by omega, by go_num, by rw [← HBB.out]⟩
      case measure => simp [intOf]; omega
    · have he : k = m := by omega
      subst he
      rw [HT.out]
      have htl : T.length ≤ 2010 := HTL.out
      have H3 : Hid (∀ w, Calls Tryz.prog 8 #[.string ((⟨#[40]⟩ : ByteArray) ++ ⟨T.toArray⟩ ++ (⟨#[41]⟩ : ByteArray))] w fun e w' => ∃ x, e = .returned (.tuple #[.float .f64 x, .int .i64 (G : Nat)]) ∧ x < 2 ^ 64 ∧ nb x = U ∧ Below w.heap.size w w') := by
        have e : (⟨#[40]⟩ : ByteArray) ++ ⟨T.toArray⟩ ++ (⟨#[41]⟩ : ByteArray) = ⟨(40 :: (T ++ [41])).toArray⟩ := by
          refine ba_eq ?_; simp [ByteArray.data_append]
        rw [e]; exact h3
      go_wp2_with fail
      refine (h2.out _).mono ?_
      rintro e w3 ⟨y, rfl, hx, hn, hb⟩
      have HB3 : Hid (Below w.heap.size w w3) := HB2.out.trans (hb.mono HB2.out.size)
      have HY : Hid (nb y = V) := hn
      clear hx hn hb
      go_wp2_with fail
      refine (H3.out _).mono ?_
      rintro e w4 ⟨z, rfl, hx, hn, hb⟩
      have HB4 : Hid (Below w.heap.size w w4) := HB3.out.trans (hb.mono HB3.out.size)
      have HZ : Hid (nb z = U) := hn
      clear hx hn hb
      have b1 := fun w => bits_any x w
      have b2 := fun w => bits_any y w
      have b3 := fun w => bits_any z w
      rw [HX.out] at b1
      rw [HY.out] at b2
      rw [HZ.out] at b3
      by_cases h0 : E = 0
      · rcases HG.out h0 with hG | ⟨hG, hU⟩
        · subst h0 hG
          go_wp2_with fail
          refine (b1 _).mono ?_
          rintro e w' ⟨rfl, rfl⟩
          go_wp2_with fail
          refine (b2 _).mono ?_
          rintro e w' ⟨rfl, rfl⟩
          go_wp2
          go_ret
          exact ⟨rfl, HB4.out⟩
        · subst h0 hG hU
          go_wp2_with fail
          refine (b1 _).mono ?_
          rintro e w' ⟨rfl, rfl⟩
          go_wp2_with fail
          refine (b2 _).mono ?_
          rintro e w' ⟨rfl, rfl⟩
          go_wp2_with fail
          refine (b3 _).mono ?_
          rintro e w' ⟨rfl, rfl⟩
          go_wp2_with fail
          refine (b1 _).mono ?_
          rintro e w' ⟨rfl, rfl⟩
          go_wp2
          go_ret
          exact ⟨rfl, HB4.out⟩
      · have h0' : ((E : Int) == 0) = false := by simpa using h0
        go_wp2_with fail
        refine (b1 _).mono ?_
        rintro e w' ⟨rfl, rfl⟩
        go_wp2_with fail
        refine (b2 _).mono ?_
        rintro e w' ⟨rfl, rfl⟩
        go_wp2
        go_ret
        exact ⟨rfl, HB4.out⟩

set_option maxHeartbeats 4000000 in
set_option maxRecDepth 100000 in
theorem walk (a0 : ByteArray) (a1 : Int) (w : World) (w0 : a0.size ≤ maxLen) (w1 : (Lit.int .u8 a1).wf = true) :
    Calls Tryz.prog 3 #[.string a0, .int .u8 a1] w fun e w' => e = .returned (.bool true) ∧ Below w.heap.size w w' := by
  obtain ⟨l, hl⟩ : ∃ l, a0.data.toList = l := ⟨_, rfl⟩
  obtain rfl : a0 = ⟨l.toArray⟩ := ba_eq hl
  clear hl
  have hs := sz_mk l
  by_cases h2000 : 2000 < l.length
  · have h1 : (2000 : Int) < (l.length : Int) := by omega
    go_enter Tryz.func3, Tryz.ntmps3
    go_wp2_with fail
    refine (awake4 _).mono ?_
    rintro e w1 ⟨rfl, hb⟩
    have HB1 : Hid (Below w.heap.size w w1) := hb
    clear hb
    go_wp2
    go_ret
    exact ⟨rfl, HB1.out⟩
  have ha := u8_wf w1
  obtain ⟨m, hm⟩ : ∃ m : Nat, a1.tmod 4 = (m : Int) := ⟨(a1.tmod 4).toNat, by rw [Int.tmod_eq_emod_of_nonneg ha.1]; omega⟩
  have hm4 : m < 4 := by rw [Int.tmod_eq_emod_of_nonneg ha.1] at hm; omega
  have hlen := bl_len l m
  have hsame := ev_same (n := 4200) (l := l) (t := bl l m) (by omega) (by omega) (bl_pW 4200 l m)
  have h2 := fun w => eval_any 4200 (bl l m) w (by omega)
  rw [hsame.1, hsame.2] at h2
  exact tail _ _ _ _ l (bl l m) m w a1 ha hm hm4 (by omega) rfl (fun w => eval_any 4200 l w (by omega)) h2 (fun w => eval_any 4201 (40 :: (bl l m ++ [41])) w (by simp; omega)) (fun h0 => ev_paren (by omega) (by omega) (bl_pW 4200 l m) h0)

end Go.Proofs.YtalifohnieclhabGreatDoor.calcBlanks
