/- The walk: Of any number and place: a whole number is shown in its digits and read back; digits with a point are the nearest number to what they say. -/
import Derived.Test.YtalifohnieclhaaGreatDoorRows
import Derived.Test.YtalifohnieclhaaGreatDoorAk3
import Derived.Test.YtalifohnieclhaaGreatDoorSw
import Derived.Test.YtalifohnieclhaaGreatDoorDc
import Derived.Test.YtalifohnieclhaaGreatDoorCn
import Derived.Test.YtalifohnieclhaaGreatDoorRi
import Derived.WalkKit
import Derived.Deep.RegionWith
import Derived.ProofKit
import Derived.OpenShut
import Derived.ShutString
import Derived.ChangeOld
import Derived.Below
import Derived.LaidMore
import Derived.Lay
import Derived.SevenTiedAt
import Derived.Stop.Joined
namespace Go.Proofs.YtalifohnieclhaaGreatDoor.realWhole
open Go.ChangeShapes Go.WideShapes Go.ChangeAt Go.RowKit
open Go.Proofs.YtalifohnieclhaaGreatDoor.Oct Go.Proofs.YtalifohnieclhaaGreatDoor.Fl
open Go.ChangeMaps (open_string shut_string)
set_option linter.unusedVariables false

theorem nb_is' {x v : Nat} (h : nb x = v) (hv : ¬ Nan v) : x = v := by
  by_cases hx : Nan x
  · rw [nb_nan hx] at h; subst h; exact absurd nan_can hv
  · rw [nb_num hx] at h; exact h

theorem dg_nc {b : UInt8} (hb : dgU b = true) : nc b = true := by
  have : ∀ i : Fin 256, dgU (UInt8.ofNat i.val) = true → nc (UInt8.ofNat i.val) = true := by decide +kernel
  have := this ⟨b.toNat, b.toNat_lt⟩
  simpa using this (by simpa using hb)

theorem dd_nc (n : Nat) : ∀ b ∈ Lib.decDigits n, nc b = true := fun b hb => dg_nc (List.all_eq_true.1 (dd_all n) b hb)

/-- Powers of ten. -/
def tn (j : Nat) : Nat := floatOfInt .f64 ((10 ^ j : Nat) : Int)
theorem tn_step : ∀ j : Fin 15, floatBits .mul .f64 (tn j.val) 4621819117588971520 = some (tn (j.val + 1)) := by decide +kernel
theorem tn_num : ∀ j : Fin 16, ¬ Nan (tn j.val) := by decide +kernel

theorem pref_x {l : List UInt8} (h : ∀ b ∈ l, nc b = true) : Lib.hasPrefix l [48, 120] = false := by
  refine Bool.eq_false_iff.2 fun hk => ?_
  have h1 := (List.isPrefixOf_iff_prefix.1 hk).subset (a := 120) (by simp)
  have := h 120 h1; revert this; decide

/-- The digits, with a point among them. -/
theorem cut_val {N : Nat} (h : N < 1000000000000000) {c : Nat} (h0 : 0 < c) (hc : c < (Lib.decDigits N).length) (hz : (Lib.decDigits N).head? ≠ some 48) :
    dOk ((Lib.decDigits N).take ((Lib.decDigits N).length - c) ++ 46 :: (Lib.decDigits N).drop ((Lib.decDigits N).length - c)) = true ∧
    dV ((Lib.decDigits N).take ((Lib.decDigits N).length - c) ++ 46 :: (Lib.decDigits N).drop ((Lib.decDigits N).length - c)) = opN .quo (floatOfInt .f64 (N : Int)) (tn c) := by
  have hall := dd_all N
  have hl : (Lib.decDigits N).length ≤ 15 := dd_len 14 N h
  have hnum := dd_num N
  generalize Lib.decDigits N = l at *
  have e := List.take_append_drop (l.length - c) l
  have hla : (l.take (l.length - c)).length = l.length - c := by rw [List.length_take]; omega
  have hlb : (l.drop (l.length - c)).length = c := by rw [List.length_drop]; omega
  have ha : (l.take (l.length - c)).all dgU = true := by
    rw [← e, List.all_append, Bool.and_eq_true] at hall; exact hall.1
  have hb : (l.drop (l.length - c)).all dgU = true := by
    rw [← e, List.all_append, Bool.and_eq_true] at hall; exact hall.2
  have hh : (l.take (l.length - c)).head? ≠ some 48 := by
    cases l with
    | nil => simp at hc
    | cons d m =>
      rw [show (d :: m).length - c = ((d :: m).length - c - 1) + 1 by omega, List.take_succ_cons]
      simpa using hz
  generalize l.take (l.length - c) = a at *
  generalize l.drop (l.length - c) = b at *
  obtain ⟨p1, p2, p3⟩ := a_point (b := b) ha
  have na : a.isEmpty = false := by cases a with | nil => simp at hla; omega | cons => rfl
  have nbb : b.isEmpty = false := by cases b with | nil => simp at hlb; omega | cons => rfl
  constructor
  · unfold dOk
    rw [p1, p2, p3, ha, hb, na, nbb, show (a.head? == some 48) = false by simpa using hh]
    simp
    omega
  · unfold dV
    rw [p1, p2, e, hnum, hlb]
    rfl

theorem w64_small {j : Nat} (h : j < 1000) : wrap64 ((j : Int) + 1) = (j : Int) + 1 := by unfold wrap64; omega
theorem meas {c j : Nat} (h : j < c) : c - (intOf (.int .i64 ((j : Int) + 1))).toNat < c - (intOf (.int .i64 (j : Int))).toNat := by simp [intOf]; omega

theorem slice_h (s : ByteArray) (P : Nat) (hP : P ≤ s.size) (W : World) : (Instr.slice 9 (.string s) none (some (.int .i64 (P : Int))) none).run Tryz.prog W = .ok (.string (s.extract 0 P)) W := by
  rw [run_slice_string_h W 9 s Tryz.underlying9 .i64 (P : Int) (by omega) (by omega), Int.toNat_natCast]
theorem slice_l (s : ByteArray) (P : Nat) (hP : P ≤ s.size) (W : World) : (Instr.slice 9 (.string s) (some (.int .i64 (P : Int))) none none).run Tryz.prog W = .ok (.string (s.extract P s.size)) W := by
  rw [run_slice_string_l W 9 s Tryz.underlying9 .i64 (P : Int) (by omega) (by omega), Int.toNat_natCast]

set_option maxHeartbeats 4000000 in
theorem whole_go (N : Nat) (k : Int) (w : World) (hN : N < 1000000000000000) (hk : 0 ≤ k ∧ k ≤ 255) (hT : Tab w) :
    Calls Tryz.prog 6 #[.int .i64 N, .int .u8 k] w fun e w' => e = .returned (.bool true) ∧ Below w.heap.size w w' := by
  have HT : Hid (Tab w) := hT
  obtain ⟨l, hl⟩ : ∃ l, Lib.decDigits N = l := ⟨_, rfl⟩
  obtain ⟨F, hF⟩ : ∃ F, fi N = F := ⟨_, rfl⟩
  have hFb := fi_num hN
  have hwf := wh_fi (n := N) (by omega)
  have hfn := floatOfInt_nat N
  have hval := dd_val hN
  have hlen : (Lib.decDigits N).length ≤ 15 := dd_len 14 N hN
  have hnc := dd_nc N
  have hcv := fun {c} => cut_val (c := c) hN
  rw [hF] at hFb hwf hfn hval
  rw [hl] at hval hlen hnc hcv
  have hFn : ¬ Nan F := by rw [nan_iff]; omega
  have hord : (FloatKind.f64.format.order F F != some .eq) = false := by
    rw [ne_self]; exact decide_eq_false hFn
  have hwhole : fi (wh F) = F := by rw [hwf, hF]
  have hFbig : F < 4831355200913801216 := by
    refine Nat.lt_of_not_le fun hle => ?_
    have := wh_mono hle
    rw [wh_1e15, hwf] at this
    omega
  -- the texts
  have HD : Hid (∀ w, Calls Tryz.prog 20 #[.int .u64 N] w fun e w' => e = .returned (.string ⟨l.toArray⟩) ∧ Below w.heap.size w w') := fun w => by
    have := dec_any N w (by omega); rwa [hl] at this
  have HR1 : Hid (∀ w, Calls Tryz.prog 10 #[.string ⟨l.toArray⟩] w fun e w' => e = .returned (.tuple #[.float .f64 F, .bool true]) ∧ Below w.heap.size w w') := fun w => by
    refine (read_ncs l w hnc (by omega)).mono ?_
    rintro e w' ⟨⟨r, rfl, _, h1, _⟩, hb⟩
    rw [nb_is' ((h1 hval.1).trans hval.2) hFn, hval.1]
    exact ⟨rfl, hb⟩
  have HR2 : Hid (∀ w, Calls Tryz.prog 10 #[.string ((⟨#[45]⟩ : ByteArray) ++ ⟨l.toArray⟩)] w fun e w' => e = .returned (.tuple #[.float .f64 (F + 2 ^ 63), .bool true]) ∧ Below w.heap.size w w') := fun w => by
    have et : ((⟨#[45]⟩ : ByteArray) ++ ⟨l.toArray⟩).data.toList = 45 :: l := by simp [ByteArray.data_append]
    have etl : ((⟨#[45]⟩ : ByteArray) ++ ⟨l.toArray⟩).toList = 45 :: l := by rw [ByteArray.toList_eq]; exact et
    have h105 : (45 :: l == [45, 105, 110, 102]) = false := by
      refine Bool.eq_false_iff.2 fun h => ?_
      have h1 : l = [105, 110, 102] := by simpa using h
      have := hnc 105 (by rw [h1]; simp)
      revert this; decide
    refine (read_minus ⟨l.toArray⟩ _ w F et (by rw [etl]; simp) (by rw [etl]; simp) (by rw [etl]; exact h105) (pref_x hnc) (fun w => ?_)).mono ?_
    · refine (decimal_any l w (by omega)).mono ?_
      rintro e w' ⟨⟨r, rfl, hr, h1, _⟩, hb⟩
      rw [hval.1]
      exact ⟨r, rfl, hr, (h1 hval.1).trans hval.2, hb⟩
    · rintro e w' ⟨r, rfl, hr, h1, hb⟩
      rw [nb_is' h1 hFn, Nat.mod_eq_of_lt (by omega : F < 2 ^ 63)]
      exact ⟨rfl, hb⟩
  have HS1 : Hid (∀ w, Tab w → Calls Tryz.prog 14 #[.float .f64 F] w fun e w' => e = .returned (.string ⟨l.toArray⟩) ∧ Below w.heap.size w w') := fun w ht => by
    have hm : F % 2 ^ 63 = F := Nat.mod_eq_of_lt (by omega)
    have hwl : whole F = true := by unfold whole; rw [hm, decide_eq_true hFbig, decide_eq_true hwhole]; rfl
    have := show_whole F w (by omega) hwl (.inl ht)
    rw [hm, hwf, hl, show sgn F = ⟨#[]⟩ from if_neg (by omega)] at this
    rwa [show (⟨#[]⟩ : ByteArray) ++ ⟨l.toArray⟩ = ⟨l.toArray⟩ from ba_eq (by simp [ByteArray.data_append])] at this
  have HS2 : Hid (∀ w, Tab w → Calls Tryz.prog 14 #[.float .f64 (F + 2 ^ 63)] w fun e w' => e = .returned (.string ((⟨#[45]⟩ : ByteArray) ++ ⟨l.toArray⟩)) ∧ Below w.heap.size w w') := fun w ht => by
    have hm : (F + 2 ^ 63) % 2 ^ 63 = F := by omega
    have hwl : whole (F + 2 ^ 63) = true := by unfold whole; rw [hm, decide_eq_true hFbig, decide_eq_true hwhole]; rfl
    have := show_whole (F + 2 ^ 63) w (by omega) hwl (.inl ht)
    rwa [hm, hwf, hl, show sgn (F + 2 ^ 63) = ⟨#[45]⟩ from if_pos (by omega)] at this
  have HC : Hid (∀ c, 0 < c → c < l.length → l.head? ≠ some 48 → ∀ w, Calls Tryz.prog 10 #[.string ⟨(l.take (l.length - c) ++ 46 :: l.drop (l.length - c)).toArray⟩] w fun e w' => (∃ r, e = .returned (.tuple #[.float .f64 r, .bool true]) ∧ r < 2 ^ 64 ∧ nb r = opN .quo F (tn c)) ∧ Below w.heap.size w w') := fun c h0 h1 h2 w => by
    have hv := hcv h0 h1 h2
    have hn : ∀ b ∈ l.take (l.length - c) ++ 46 :: l.drop (l.length - c), nc b = true := fun b hb => by
      rcases List.mem_append.1 hb with hb | hb
      · exact hnc b (List.mem_of_mem_take hb)
      · rcases List.mem_cons.1 hb with rfl | hb
        · decide
        · exact hnc b (List.mem_of_mem_drop hb)
    refine (read_ncs _ w hn (by simp; omega)).mono ?_
    rintro e w' ⟨⟨r, rfl, hr, h3, _⟩, hb⟩
    rw [hv.1]
    refine ⟨⟨r, rfl, hr, ?_⟩, hb⟩
    rw [h3 hv.1, hv.2, hfn]
  have HF : Hid (F < 0x7ff0000000000000) := hFb.1
  have HNN : Hid (¬ Nan F) := hFn
  obtain ⟨G, hG⟩ : ∃ G, F + 2 ^ 63 = G := ⟨_, rfl⟩
  rw [hG] at HR2 HS2
  have hs := sz_mk l
  obtain ⟨d, m, hdm⟩ : ∃ d m, l = d :: m := by
    cases l with
    | nil => exact absurd hl (dd_ne N)
    | cons d m => exact ⟨d, m, rfl⟩
  have hix : ∀ W, (Instr.index 9 (.string ⟨l.toArray⟩) (.int .i64 0)).run Tryz.prog W = .ok (.int .u8 (d.toNat : Int)) W := fun W => by rw [hdm]; exact index_mk d m W
  have HH : Hid (l.head? = some d) := by unfold Hid; rw [hdm]; rfl
  have hl1 : 1 ≤ l.length := by rw [hdm]; simp
  have hu64 : IntKind.u64.wrap (N : Int) = (N : Int) := by rw [IntKind.wrap_u64]; omega
  have hi64 : IntKind.i64.wrap k = k := by rw [IntKind.wrap_i64]; omega
  obtain ⟨c, hc⟩ : ∃ c : Nat, k.tmod ((l.length : Int) + 1) = (c : Int) := ⟨(k.tmod ((l.length : Int) + 1)).toNat, by
    have := Int.emod_nonneg k (b := (l.length : Int) + 1) (by omega)
    rw [Int.tmod_eq_emod_of_nonneg hk.1]; omega⟩
  have hcl : c ≤ l.length := by
    have := Int.emod_lt_of_pos k (b := (l.length : Int) + 1) (by omega)
    rw [Int.tmod_eq_emod_of_nonneg hk.1] at hc; omega
  obtain ⟨hk0, hk1⟩ := hk
  clear hdm hcv hval hwhole hFbig hFb hwf hnc hl hT hFn hG
  have HSL : Hid ((⟨l.toArray⟩ : ByteArray).data.toList = l) := rfl
  generalize (⟨l.toArray⟩ : ByteArray) = s at *
  go_enter Tryz.func6, Tryz.ntmps6
  go_wp2_with fail
  refine (awake_any _).mono ?_
  rintro e w1 ⟨rfl, rfl⟩
  have HB0 : Hid (Below w.heap.size w w.drew) := (Below.refl _ w).drew
  go_wp2_with fail
  refine (HD.out _).mono ?_
  rintro e w2 ⟨rfl, hb⟩
  have HB2 : Hid (Below w.heap.size w w2) := HB0.out.trans hb
  clear hb HB0
  go_wp2_with fail
  refine (HR1.out _).mono ?_
  rintro e w3 ⟨rfl, hb⟩
  have HB3 : Hid (Below w.heap.size w w3) := HB2.out.trans (hb.mono HB2.out.size)
  clear hb HB2
  go_wp2_with fail
  refine (HR2.out _).mono ?_
  rintro e w4 ⟨rfl, hb⟩
  have HB4 : Hid (Below w.heap.size w w4) := HB3.out.trans (hb.mono HB3.out.size)
  clear hb HB3
  go_wp2_with fail
  refine (HS1.out _ (HT.out.below HB4.out)).mono ?_
  rintro e w5 ⟨rfl, hb⟩
  have HB5 : Hid (Below w.heap.size w w5) := HB4.out.trans (hb.mono HB4.out.size)
  clear hb HB4
  go_wp2_with fail
  refine (HS2.out _ (HT.out.below HB5.out)).mono ?_
  rintro e w6 ⟨rfl, hb⟩
  have HB6 : Hid (Below w.heap.size w w6) := HB5.out.trans (hb.mono HB5.out.size)
  clear hb HB5
  have hl63 : (l.length : Int) + 1 ≤ 16 := by omega
  by_cases h0 : c = 0
  · subst h0
    go_wp2
    go_ret
    exact ⟨rfl, HB6.out⟩
  by_cases hcL : c = l.length
  · subst hcL
    have h0' : ((l.length : Int) == 0) = false := by simpa using h0
    go_wp2
    go_ret
    exact ⟨rfl, HB6.out⟩
  have h0' : ((c : Int) == 0) = false := by simpa using h0
  have hcL' : ((c : Int) == (l.length : Int)) = false := by simpa using fun h => hcL (by omega)
  by_cases h48 : d = 48
  · subst h48
    go_wp2
    go_ret
    exact ⟨rfl, HB6.out⟩
  have h48' : ((d.toNat : Int) == 48) = false := by
    have : d.toNat ≠ 48 := fun h => h48 (UInt8.toNat_inj.1 h)
    simp; omega
  have HR3 := HC.out c (by omega) (by omega) (by rw [HH.out]; simpa using h48)
  obtain ⟨P, hP⟩ : ∃ P, l.length - c = P := ⟨_, rfl⟩
  rw [hP] at HR3
  have hPi : (l.length : Int) - (c : Int) = (P : Int) := by omega
  have hPl : P ≤ l.length := by omega
  have hPs : P ≤ s.size := by omega
  obtain ⟨A, hA⟩ : ∃ A, s.extract 0 P = A := ⟨_, rfl⟩
  obtain ⟨B, hB⟩ : ∃ B, s.extract P l.length = B := ⟨_, rfl⟩
  have eA : A.data.toList = l.take P := by rw [← hA, ← HSL.out]; simp
  have eB : B.data.toList = l.drop P := by rw [← hB, ← hs, Lib.extract_to_end, HSL.out]
  have zA : A.size ≤ 15 := by rw [Lib.size_eq, eA]; simp; omega
  have zB : B.size ≤ 15 := by rw [Lib.size_eq, eB]; simp; omega
  have eAB : A ++ (⟨#[46]⟩ : ByteArray) ++ B = ⟨(l.take P ++ 46 :: l.drop P).toArray⟩ := ba_eq (by simp [ByteArray.data_append, eA, eB])
  rw [← eAB] at HR3
  have hc15 : c ≤ 14 := by omega
  have hPI : (P : Int) ≤ (l.length : Int) := by omega
  have hP0 : (0 : Int) ≤ (P : Int) := by omega
  have hcI : (c : Int) ≤ (l.length : Int) := by omega
  have hw1 : IntKind.i64.wrap ((l.length : Int) - (c : Int)) = (P : Int) := by rw [IntKind.wrap_i64]; omega
  have hw2 : wrap64 ((l.length : Int) - (c : Int)) = (P : Int) := by unfold wrap64; omega
  have hw3 : IntKind.i64.wrap (P : Int) = (P : Int) := by rw [IntKind.wrap_i64]; omega
  have hw4 : wrap64 (P : Int) = (P : Int) := by unfold wrap64; omega
  have sl1 : ∀ W, (Instr.slice 9 (.string s) none (some (.int .i64 (P : Int))) none).run Tryz.prog W = .ok (.string A) W := fun W => (slice_h s P hPs W).trans (by rw [hA])
  have sl2 : ∀ W, (Instr.slice 9 (.string s) (some (.int .i64 (P : Int))) none none).run Tryz.prog W = .ok (.string B) W := fun W => (slice_l s P hPs W).trans (by rw [hs, hB])
  clear eA eB eAB hP HC HH HSL h0 hcL h48
  have HR4 : Hid (∀ w, Calls Tryz.prog 10 #[.string (A ++ (⟨#[46]⟩ : ByteArray) ++ B)] w fun e w' => (∃ r, e = .returned (.tuple #[.float .f64 r, .bool true]) ∧ r < 2 ^ 64 ∧ nb r = opN .quo F (tn c)) ∧ Below w.heap.size w w') := HR3
  clear HR3
  go_wp2
  go_region_with (go_at_call 10; refine (HR4.out _).mono ?_; rintro e w7 ⟨⟨r, rfl, hr, hnr⟩, hb⟩; have HB7 : Hid (Below w.heap.size w w7) := (HB6.out.drew).trans (hb.mono HB6.out.size); have HNR : Hid (nb r = opN .quo F (tn c)) := hnr; clear hb hnr hr)
  all_goals
    go_wp2
    go_loop [12, 13] (fun t i => ∃ j : Nat, j ≤ c ∧ i = .int .i64 (j : Int) ∧ t = .float .f64 (tn j)) (fun _ i => c - (intOf i).toNat)
    case atStart => exact ⟨0, Nat.zero_le _, rfl, congrArg (fun x => Value.float .f64 x) (by decide +kernel)⟩
    case round =>
      obtain ⟨j, hj, rfl, rfl⟩ := hrel
      by_cases hlt : j < c
      · have hmul : ∀ W, (binOp .mul 23 (.float .f64 (tn j)) (.float .f64 4621819117588971520)).run Tryz.prog W = .ok (.float .f64 (tn (j + 1))) W := fun W => run_float_arith W .mul 23 .f64 _ _ _ (tn_step ⟨j, Nat.lt_of_lt_of_le hlt (Nat.le_succ_of_le hc15)⟩)
        have hwj := w64_small (j := j) (Nat.lt_of_lt_of_le hlt (Nat.le_trans hc15 (by decide)))
        obtain ⟨u, hu⟩ : ∃ u, tn (j + 1) = u := ⟨_, rfl⟩
        have HU : Hid (tn (j + 1) = u) := hu
        rw [hu] at hmul
        clear hu
        go_wp2
        go_round
        case rel => exact ⟨j + 1, hlt, by go_num, by rw [HU.out]⟩
        case measure => first | exact meas hlt | (rw [hwj]; exact meas hlt)
      · obtain rfl : j = c := Nat.le_antisymm hj (Nat.le_of_not_lt hlt)
        have htn : ¬ Nan (tn j) := tn_num ⟨j, Nat.lt_of_le_of_lt hc15 (by decide)⟩
        obtain ⟨q, w8, hb8, hq8, hn8, hop⟩ := run_op (op := .quo) (by simp [Ar]) F (tn j) w7
        rw [nb_num HNN.out, nb_num htn] at hn8
        have HB8 : Hid (Below w.heap.size w w8) := HB7.out.trans (hb8.mono HB7.out.size)
        have b1 := fun w => bits_any r w
        have b2 := fun w => bits_any q w
        rw [HNR.out] at b1
        rw [hn8] at b2
        generalize opN .quo F (tn j) = V at *
        generalize tn j = T at *
        clear hb8 hq8 hn8 htn
        go_wp2_with fail
        refine (b1 _).mono ?_
        rintro e w' ⟨rfl, rfl⟩
        go_wp2_with fail
        refine (b2 _).mono ?_
        rintro e w' ⟨rfl, rfl⟩
        go_wp2
        go_ret
        exact ⟨rfl, HB8.out⟩

set_option maxHeartbeats 4000000 in
set_option maxRecDepth 100000 in
theorem walk (a0 : Int) (a1 : Int) (w : World) (w0 : (Lit.int .i64 a0).wf = true) (w1 : (Lit.int .u8 a1).wf = true) (hL : laidMetH Tryz.prog Rows.realWholeRow.laid w) :
    Calls Tryz.prog 6 #[.int .i64 a0, .int .u8 a1] w fun e w' => e = .returned (.bool true) ∧ Below w.heap.size w w' := by
  have hn := i64_wf w0
  have hk := u8_wf w1
  have hT : Tab w := by
    rw [MakeChecks.laidMetH_plain _ _ _ (by kernel_rfl)] at hL
    exact tab_at (g := 1) (t := 100) (e := 31) (n := 20) (by kernel_rfl) (by kernel_rfl) (by kernel_rfl) Tryz.underlying31 (by kernel_rfl) (by kernel_rfl) hL (List.mem_of_getElem? (i := 8) (by kernel_rfl))
  by_cases hr : a0 < 0 ∨ 999999999999999 < a0
  · by_cases h1 : a0 < 0
    · go_enter Tryz.func6, Tryz.ntmps6
      go_wp2_with (go_at_call 9; refine (awake_any _).mono ?_; rintro e w1 ⟨rfl, rfl⟩)
      go_ret
      exact ⟨rfl, (Below.refl _ w).drew⟩
    · have h2 : 999999999999999 < a0 := by omega
      have h1' : decide (a0 < 0) = false := decide_eq_false h1
      go_enter Tryz.func6, Tryz.ntmps6
      go_wp2_with (go_at_call 9; refine (awake_any _).mono ?_; rintro e w1 ⟨rfl, rfl⟩)
      go_ret
      exact ⟨rfl, (Below.refl _ w).drew⟩
  obtain ⟨N, rfl⟩ : ∃ N : Nat, a0 = (N : Int) := ⟨a0.toNat, by omega⟩
  exact whole_go N a1 w (by omega) hk hT

end Go.Proofs.YtalifohnieclhaaGreatDoor.realWhole
