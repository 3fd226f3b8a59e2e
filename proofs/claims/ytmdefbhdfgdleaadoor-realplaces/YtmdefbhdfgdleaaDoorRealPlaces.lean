/- Place lies within, of a greater share not ahead; of NaN there is none; no condition. -/
import Derived.Test.YtmdefbhdfgdleaaDoorRows
import Derived.Test.YtmdefbhdfgdleaaDoorCards
import Derived.Test.YtmdefbhdfgdleaaDoorTie
import Derived.Test.YtmdefbhdfgdleaaDoorAw3
import Derived.Test.YtmdefbhdfgdleaaDoorPl
import Derived.Test.YtmdefbhdfgdleaaDoorRi
import Derived.WalkKit
import Derived.ProofKit
import Derived.OpenShut
import Derived.ShutString
import Derived.ChangeOld
import Derived.Below
import Derived.LaidMore
import Derived.Lay
import Derived.SevenTiedAt
import Derived.Stop.Joined
namespace Go.Proofs.YtmdefbhdfgdleaaDoor.realPlaces
open Go.ChangeShapes Go.WideShapes Go.ChangeAt Go.RowKit
open Go.Proofs.YtmdefbhdfgdleaaDoor.Oct Go.Proofs.YtmdefbhdfgdleaaDoor.Fl
open Go.ChangeMaps (open_string shut_string)
set_option linter.unusedVariables false

theorem own : ownKnob Tryd.prog.godebug = none := by kernel_rfl
theorem laidOut : laidOutB Tryd.prog = true := by kernel_rfl

theorem eq_self (a : Nat) : (FloatKind.f64.format.order a a == some .eq) = decide (¬ Nan a) := by
  rw [show FloatKind.f64.format = Ieee.double from rfl, eq_iff]
  simp

theorem plc_in {a : Nat} {n : Int} (h : (plc a n).2 = true) (hn : n < 2 ^ 63) : ¬ Nan a ∧ 0 ≤ n ∧ 0 ≤ (plc a n).1 ∧ (plc a n).1 ≤ n := by
  unfold plc at h ⊢
  by_cases h1 : Nan a ∨ n < 0
  · rw [if_pos h1] at h; cases h
  · have h1' : ¬ Nan a ∧ 0 ≤ n := ⟨fun k => h1 (.inl k), by omega⟩
    rw [if_neg h1] at h ⊢
    refine ⟨h1'.1, h1'.2, ?_⟩
    by_cases h2 : 2 ^ 63 ≤ a ∨ a = 0
    · rw [if_pos h2]; dsimp only; omega
    · rw [if_neg h2]
      by_cases h3 : 0x3ff0000000000000 ≤ a
      · rw [if_pos h3]; dsimp only; omega
      · rw [if_neg h3]
        have := pr_wh (x := a) (n := n.toNat) (by omega) (by omega)
        dsimp only; omega

theorem plc_ok (a : Nat) (n : Int) : (plc a n).2 = decide (¬ Nan a ∧ 0 ≤ n) ∧ ((plc a n).2 = false → (plc a n).1 = 0) := by
  unfold plc
  by_cases h1 : Nan a ∨ n < 0
  · rw [if_pos h1]; refine ⟨(decide_eq_false ?_).symm, fun _ => rfl⟩
    rcases h1 with h1 | h1
    · simp [h1]
    · omega
  · have h1' : ¬ Nan a ∧ 0 ≤ n := ⟨fun k => h1 (.inl k), by omega⟩
    rw [if_neg h1, decide_eq_true h1']
    split
    · exact ⟨rfl, fun h => by cases h⟩
    · split
      · exact ⟨rfl, fun h => by cases h⟩
      · exact ⟨rfl, fun h => by cases h⟩

theorem plc_mono {a b : Nat} {n : Int} (ha : a < 2 ^ 64) (hb : b < 2 ^ 64) (hn : n < 2 ^ 63) (oka : (plc a n).2 = true) (okb : (plc b n).2 = true) (h : rk a ≤ rk b) : (plc a n).1 ≤ (plc b n).1 := by
  obtain ⟨na, n0, a0, an⟩ := plc_in oka hn
  obtain ⟨mb, _, b0, bn⟩ := plc_in okb hn
  have ra := rk_num na ha
  have rb := rk_num mb hb
  unfold plc at a0 an b0 bn ⊢
  have h1 : ¬ (Nan a ∨ n < 0) := by rintro (h | h); exact na h; omega
  have h1' : ¬ (Nan b ∨ n < 0) := by rintro (h | h); exact mb h; omega
  rw [if_neg h1] at a0 an ⊢
  rw [if_neg h1'] at b0 bn ⊢
  by_cases h2 : 2 ^ 63 ≤ a ∨ a = 0
  · rw [if_pos h2]; exact b0
  · rw [if_neg h2] at a0 an ⊢
    have h2' : ¬ (2 ^ 63 ≤ b ∨ b = 0) := by omega
    rw [if_neg h2'] at b0 bn ⊢
    by_cases h3 : 0x3ff0000000000000 ≤ b
    · rw [if_pos h3]; exact an
    · have h3' : ¬ 0x3ff0000000000000 ≤ a := by omega
      rw [if_neg h3, if_neg h3']
      have := wh_mono (pr_mono (x := a) (y := b) (n := n.toNat) (by omega))
      dsimp only; omega

set_option maxHeartbeats 8000000 in
/-- The walk, where the answers are known. -/
theorem goes (a b : Nat) (n : Int) (p q : Int) (ok is : Bool) (w : World) (ha : a < 2 ^ 64) (hb : b < 2 ^ 64) (hn : n < 2 ^ 63) (hp : Hid (plc a n = (p, ok))) (hq : Hid (plc b n = (q, is)))
    (ho : ok = decide (¬ Nan a ∧ 0 ≤ n)) (h0 : Hid (ok = false → p = 0)) (h0' : Hid (is = false → q = 0))
    (hin : Hid (ok = true → 0 ≤ n ∧ 0 ≤ p ∧ p ≤ n)) (hin' : Hid (is = true → 0 ≤ q ∧ q ≤ n)) (hm : Hid (ok = true → is = true → rk a ≤ rk b → p ≤ q)) :
    Calls Tryd.prog 5 #[.float .f64 a, .float .f64 b, .int .i64 n] w fun e w' => e = .returned (.bool true) ∧ Below w.heap.size w w' := by
  have hs := eq_self a
  cases ok
  · obtain rfl := h0.out rfl
    by_cases na : Nan a
    · rw [decide_eq_false (by simp [na])] at hs
      clear ho
      go_enter Tryd.func5, Tryd.ntmps5
      go_wp2_with (go_at_call 6; refine (awake_any _).mono ?_; rintro e w1 ⟨rfl, rfl⟩)
      refine (place_any _ _ _ ha hn).mono ?_
      rw [hp.out]
      rintro e w1 ⟨rfl, rfl⟩
      go_wp2_with fail
      refine (place_any _ _ _ hb hn).mono ?_
      rw [hq.out]
      rintro e w1 ⟨rfl, rfl⟩
      go_wp2
      go_ret
      exact ⟨rfl, (Below.refl _ w).drew⟩
    · rw [decide_eq_true na] at hs
      have n0 : n < 0 := by
        rcases Int.lt_or_le n 0 with h | h
        · exact h
        · rw [decide_eq_true ⟨na, h⟩] at ho; cases ho
      clear ho
      go_enter Tryd.func5, Tryd.ntmps5
      go_wp2_with (go_at_call 6; refine (awake_any _).mono ?_; rintro e w1 ⟨rfl, rfl⟩)
      refine (place_any _ _ _ ha hn).mono ?_
      rw [hp.out]
      rintro e w1 ⟨rfl, rfl⟩
      go_wp2_with fail
      refine (place_any _ _ _ hb hn).mono ?_
      rw [hq.out]
      rintro e w1 ⟨rfl, rfl⟩
      go_wp2
      go_ret
      exact ⟨rfl, (Below.refl _ w).drew⟩
  · obtain ⟨na, n0⟩ := of_decide_eq_true ho.symm
    rw [decide_eq_true na] at hs
    clear ho
    obtain ⟨_, p0, p1⟩ := hin.out rfl
    cases is
    · obtain rfl := h0'.out rfl
      go_enter Tryd.func5, Tryd.ntmps5
      go_wp2_with (go_at_call 6; refine (awake_any _).mono ?_; rintro e w1 ⟨rfl, rfl⟩)
      refine (place_any _ _ _ ha hn).mono ?_
      rw [hp.out]
      rintro e w1 ⟨rfl, rfl⟩
      go_wp2_with fail
      refine (place_any _ _ _ hb hn).mono ?_
      rw [hq.out]
      rintro e w1 ⟨rfl, rfl⟩
      go_wp2
      go_ret
      exact ⟨rfl, (Below.refl _ w).drew⟩
    · obtain ⟨q0, q1⟩ := hin'.out rfl
      by_cases hr : rk a ≤ rk b
      · have hpq := hm.out rfl rfl hr
        have hc : Hid (c3 (rk a) (rk b) ≤ 0) := by unfold Hid c3; split; omega; split <;> omega
        go_enter Tryd.func5, Tryd.ntmps5
        go_wp2_with (go_at_call 6; refine (awake_any _).mono ?_; rintro e w1 ⟨rfl, rfl⟩)
        refine (place_any _ _ _ ha hn).mono ?_
        rw [hp.out]
        rintro e w1 ⟨rfl, rfl⟩
        go_wp2_with fail
        refine (place_any _ _ _ hb hn).mono ?_
        rw [hq.out]
        rintro e w1 ⟨rfl, rfl⟩
        go_wp2_with fail
        refine (compare_any _ _ _ ha hb).mono ?_
        generalize hcc : c3 (rk a) (rk b) = c at hc
        have hc' := hc.out
        rintro e w1 ⟨rfl, rfl⟩
        go_wp2
        go_ret
        exact ⟨rfl, (Below.refl _ w).drew⟩
      · have hc : Hid (c3 (rk a) (rk b) = 1) := c3_gt (by omega)
        go_enter Tryd.func5, Tryd.ntmps5
        go_wp2_with (go_at_call 6; refine (awake_any _).mono ?_; rintro e w1 ⟨rfl, rfl⟩)
        refine (place_any _ _ _ ha hn).mono ?_
        rw [hp.out]
        rintro e w1 ⟨rfl, rfl⟩
        go_wp2_with fail
        refine (place_any _ _ _ hb hn).mono ?_
        rw [hq.out]
        rintro e w1 ⟨rfl, rfl⟩
        go_wp2_with fail
        refine (compare_any _ _ _ ha hb).mono ?_
        rw [hc.out]
        rintro e w1 ⟨rfl, rfl⟩
        go_wp2
        go_ret
        exact ⟨rfl, (Below.refl _ w).drew⟩

set_option maxHeartbeats 4000000 in
theorem walk (a0 : Nat) (a1 : Nat) (a2 : Int) (w : World) (w0 : (Lit.float .f64 a0).wf = true) (w1 : (Lit.float .f64 a1).wf = true) (w2 : (Lit.int .i64 a2).wf = true) :
    Calls Tryd.prog 5 #[.float .f64 a0, .float .f64 a1, .int .i64 a2] w fun e w' => e = .returned (.bool true) ∧ Below w.heap.size w w' := by
  have ha := f64_wf w0
  have hb := f64_wf w1
  have hn := (i64_wf w2).2
  refine goes a0 a1 a2 _ _ _ _ w ha hb (by omega) rfl rfl (plc_ok _ _).1 (plc_ok _ _).2 (plc_ok _ _).2 ?_ ?_ ?_
  · exact fun h => (plc_in h (by omega)).2
  · exact fun h => (plc_in h (by omega)).2.2
  · exact fun h1 h2 h3 => plc_mono ha hb (by omega) h1 h2 h3

set_option maxRecDepth 100000 in
theorem lifted (os : Os) (started : os.Started) (H : Type) (enc : TypeId × Value → H) :
    ReturnsInHanded {} Tryd.checked os 5 .any (fun w args => (Rows.realPlacesSpec.pre enc Tryd.prog Tryd.f5 Rows.realPlacesRow.domain false w args ∧ laidMetH Tryd.prog Rows.realPlacesRow.laid w) ∧ sizedMet enc Tryd.prog Tryd.f5 (OpenSpec.ofChange Rows.realPlacesSpec) false w args)
      (Rows.realPlacesSpec.post enc Tryd.prog Tryd.f5 false true false false) := by
  refine returnsInHanded_of_change_and (C := Tryd.checked) (X := fun w _ => laidMetH Tryd.prog Rows.realPlacesRow.laid w) (fun _ _ _ hh h => h.of_heap hh) own started (by kernel_rfl) Tryd.func5
    (ChangeSpec.witness_shaped (enc := enc) (C := Tryd.checked) (os := os) (X := fun w _ => laidMetH Tryd.prog Rows.realPlacesRow.laid w) false (World.laidAll Tryd.prog os Rows.realPlacesRow.laid) #[.float .f64 0, .float .f64 0, .int .i64 0] 8 (World.laidAll_os _ _ _)
      (World.shaped_of_ZipB (by kernel_rfl) (by kernel_rfl)) (by kernel_rfl) (by kernel_rfl) (by kernel_rfl)
      (by rw [MakeChecks.laidMetH_plain _ _ _ (by kernel_rfl)]; exact laidMet_laidAll _ (by kernel_rfl) (by kernel_rfl))) ?_
  intro W base args ds gs before hval0 hW hcnd _ hL _
  have hval : ∀ (j : Nat) t v, Tryd.f5.params[j]? = some t → args[j]? = some v → Value.okWide Tryd.prog W .any base t v := hval0
  have hW' := hW
  obtain ⟨p, q, hA0, hV, rfl, hfz, hnd⟩ := hW
  have hA : DataW.TrodAll enc Tryd.prog W 0 (fun _ => true) true Tryd.f5.params.toList args.toList ds p := hA0
  rw [Tryd.params5] at hA hval
  obtain ⟨v0, vs0, d0, ds0, p0, q0, hargs, rfl, rfl, h0, r0⟩ := trodAll_cons hA
  obtain ⟨v1, vs1, d1, ds1, p1, q1, rfl, rfl, rfl, h1, r1⟩ := trodAll_cons r0
  obtain ⟨v2, vs2, d2, ds2, p2, q2, rfl, rfl, rfl, h2, r2⟩ := trodAll_cons r1
  obtain ⟨rfl, rfl, rfl⟩ := trodAll_nil r2
  obtain rfl : args = #[v0, v1, v2] := by cases args; simp_all
  obtain ⟨rfl, rfl⟩ := trodVars_none hV
  obtain ⟨a0, rfl, rfl, rfl, w0⟩ := open_float Tryd.underlying22 (hval 0 22 v0 rfl rfl) h0
  obtain ⟨a1, rfl, rfl, rfl, w1⟩ := open_float Tryd.underlying22 (hval 1 22 v1 rfl rfl) h1
  obtain ⟨a2, rfl, rfl, rfl, w2⟩ := open_int Tryd.underlying3 (hval 2 3 v2 rfl rfl) h2
  clear hA0 hval0
  refine (walk a0 a1 a2 W w0 w1 w2).mono fun e W' ⟨he, bel⟩ => ?_
  subst he
  exact ⟨_, rfl, _, _, _, [], _, [], hW', trodAll_mk1 (shut_bool Tryd.underlying4 _), (trodAll_cons_mk (shut_float Tryd.underlying22 w0) (trodAll_cons_mk (shut_float Tryd.underlying22 w1) (trodAll_cons_mk (shut_int Tryd.underlying3 w2) trodAll_mk0))), rfl, bel.frame _, fun h => by cases h⟩

theorem over : Rows.RealPlacesSaid :=
  OpenClaim.holds_of_wide 5 Tryd.f5 rfl rfl rfl rfl rfl rfl rfl ⟨rfl, rfl, rfl, rfl, rfl⟩ rfl rfl rfl rfl rfl (by kernel_rfl) Tryd.func5 (by kernel_rfl)
    (of_decide_eq_true (by kernel_rfl)) (by unfold Func.isWrapper; first | (rw [if_pos (by decide +kernel)]; kernel_rfl) | (rw [if_neg (by decide +kernel)]; exact ⟨rfl, rfl⟩))
    (fun os started H enc _ => lifted os started H enc)

/-- THE CARD. -/
theorem proved : Rows.RealPlacesCardSaid :=
  Claim7.holds_tied_plain_at .later [] _ true _ false over (fun _ h => by cases h) (by kernel_rfl) (fun _ h => by cases h) realPlaces_row_tie rfl ⟨rfl, rfl⟩ (by kernel_rfl) rfl
    (fun f fn hf hfn => by
      obtain rfl : f = 5 := Option.some.inj ((show Tryd.prog.funcNamed Rows.realPlacesRow.func = some 5 by kernel_rfl).symm.trans hf) |>.symm
      obtain rfl : fn = Tryd.f5 := (Option.some.inj (Tryd.func5.symm.trans hfn)).symm
      exact ⟨by kernel_rfl, fun j t ht => by
        rw [Tryd.params5] at ht
        have hm : t ∈ [22, 22, 3] := by simpa using Array.mem_of_getElem? ht
        have hall : ([22, 22, 3].all fun u => !Tryd.prog.wantsStandIn u) = true := by kernel_rfl
        exact (show Tryd.prog.wantsStandIn t = false by simpa using List.all_eq_true.1 hall t hm)⟩)
    (by kernel_rfl)
#print axioms proved
end Go.Proofs.YtmdefbhdfgdleaaDoor.realPlaces
