/- Sum, Share and Place answer as the document does, of lists of at most 1000 numbers; no further condition. -/
import Derived.Test.YtmdefbhdfgdleaaDoorRows
import Derived.Test.YtmdefbhdfgdleaaDoorCards
import Derived.Test.YtmdefbhdfgdleaaDoorTie
import Derived.Test.YtmdefbhdfgdleaaDoorAw3
import Derived.Test.YtmdefbhdfgdleaaDoorSu
import Derived.Test.YtmdefbhdfgdleaaDoorRi
import Derived.WalkKit
import Derived.ProofKit
import Derived.OpenShut
import Derived.ShutString
import Derived.ChangeOld
import Derived.Below
import Derived.LaidMore
import Derived.Lay
import Derived.SevenTiedAt
import Derived.Stop.Joined
namespace Go.Proofs.YtmdefbhdfgdleaaDoor.realSums
open Go.ChangeShapes Go.WideShapes Go.ChangeAt Go.RowKit
open Go.Proofs.YtmdefbhdfgdleaaDoor.Oct Go.Proofs.YtmdefbhdfgdleaaDoor.Fl
open Go.ChangeMaps (open_string shut_string)
set_option linter.unusedVariables false

theorem own : ownKnob Tryd.prog.godebug = none := by kernel_rfl
theorem laidOut : laidOutB Tryd.prog = true := by kernel_rfl

set_option maxHeartbeats 4000000 in
/-- The walk, where the sums are known. -/
theorem goes (a0 : Option Addr) (cap0 : Nat) (zs : List Nat) (a b : Int) (w : World) (ha : Hid (a < 2 ^ 63)) (n : Nat) (hn : zs.length = n) (hs : ¬ (1000 : Int) < n) (v : Nat)
    (c1 : Hid (∀ w', Below w.heap.size w w' → Calls Tryd.prog 14 #[.slice a0 n cap0] w' fun e w2 => ∃ r, e = .returned (.float .f64 r) ∧ r < 2 ^ 64 ∧ nb r = v ∧ Below w'.heap.size w' w2))
    (c2 : Hid (∀ w', Below w.heap.size w w' → Calls Tryd.prog 15 #[.slice a0 n cap0] w' fun e w2 => ∃ r, e = .returned (.float .f64 r) ∧ r < 2 ^ 64 ∧ nb r = v ∧ Below w'.heap.size w' w2)) :
    Calls Tryd.prog 4 #[.slice a0 n cap0, .int .i64 a, .int .i64 b] w fun e w' => e = .returned (.bool true) ∧ Below w.heap.size w w' := by
  clear hn
  go_enter Tryd.func4, Tryd.ntmps4
  go_wp2_with (go_at_call 6; refine (awake_any _).mono ?_; rintro e w1 ⟨rfl, rfl⟩)
  refine (share_any _ _ _).mono ?_
  rintro e w1 ⟨x, rfl, hx, hxn, hb1⟩
  have X1 : Hid (x < 2 ^ 64) := hx
  have XN : Hid (nb x = nb (quo2 (floatOfInt .f64 a) (floatOfInt .f64 b))) := hxn
  have B1 : Hid (Below w.heap.size w w1) := ((Below.refl _ w).drew).trans hb1
  clear hx hxn hb1
  go_wp2_with fail
  refine (place_any _ _ _ X1.out ha.out).mono ?_
  rintro e w2 ⟨rfl, rfl⟩
  generalize hpl : plc x a = pp
  have HPL : Hid (plc x a = pp) := hpl
  clear hpl
  obtain ⟨p, ok⟩ := pp
  go_wp2_with fail
  refine (refplace_any _ _ _ X1.out ha.out).mono ?_
  rw [HPL.out]
  rintro e w2 ⟨rfl, rfl⟩
  go_wp2_with fail
  refine (c1.out _ B1.out).mono ?_
  rintro e w2 ⟨r, rfl, hr, hrn, hb2⟩
  have R1 : Hid (nb r = v) := hrn
  have B2 : Hid (Below w.heap.size w w2) := B1.out.trans (hb2.mono B1.out.size)
  clear hr hrn hb2
  go_wp2_with fail
  refine (bits_any _ _).mono ?_
  rw [R1.out]
  rintro e w3 ⟨rfl, rfl⟩
  go_wp2_with fail
  refine (c2.out _ B2.out).mono ?_
  rintro e w3 ⟨r2, rfl, hr, hrn, hb2⟩
  have R2 : Hid (nb r2 = v) := hrn
  have B3 : Hid (Below w.heap.size w w3) := B2.out.trans (hb2.mono B2.out.size)
  clear hr hrn hb2
  go_wp2_with fail
  refine (refbits_any _ _).mono ?_
  rw [R2.out]
  rintro e w4 ⟨rfl, rfl⟩
  go_wp2_with fail
  refine (bits_any _ _).mono ?_
  rw [XN.out]
  rintro e w4 ⟨rfl, rfl⟩
  go_wp2_with fail
  refine (refshare_any _ _ _).mono ?_
  rintro e w4 ⟨r3, rfl, hr, hrn, hb2⟩
  have R3 : Hid (nb r3 = nb (quo2 (floatOfInt .f64 a) (floatOfInt .f64 b))) := hrn
  have B4 : Hid (Below w.heap.size w w4) := B3.out.trans (hb2.mono B3.out.size)
  clear hr hrn hb2
  go_wp2_with fail
  refine (refbits_any _ _).mono ?_
  rw [R3.out]
  rintro e w5 ⟨rfl, rfl⟩
  generalize nb (quo2 (floatOfInt .f64 a) (floatOfInt .f64 b)) = q
  go_wp2
  go_ret
  exact ⟨rfl, B4.out⟩

set_option maxHeartbeats 4000000 in
theorem walk (a0 : Option Addr) (len0 cap0 : Nat) (z0 : List Nat) (a1 : Int) (a2 : Int) (w : World) (w0 : IsRowF w a0 len0 cap0 z0) (w1 : (Lit.int .i64 a1).wf = true) (w2 : (Lit.int .i64 a2).wf = true) :
    Calls Tryd.prog 4 #[.slice a0 len0 cap0, .int .i64 a1, .int .i64 a2] w fun e w' => e = .returned (.bool true) ∧ Below w.heap.size w w' := by
  obtain ⟨zs, rfl, hr⟩ := w0.row
  clear w0
  have ha := (i64_wf w1).2
  by_cases hbig : (1000 : Int) < zs.length
  · go_enter Tryd.func4, Tryd.ntmps4
    go_wp2_with (go_at_call 6; refine (awake_any _).mono ?_; rintro e w1 ⟨rfl, rfl⟩)
    go_ret
    exact ⟨rfl, (Below.refl _ w).drew⟩
  · rcases Nat.eq_zero_or_pos zs.length with h0 | h0
    · refine goes a0 cap0 zs a1 a2 w (show a1 < 2 ^ 63 by omega) zs.length rfl hbig (nb 0) ?_ ?_
      · intro w' hb
        rw [h0]
        refine (sum_none _ _ _).mono ?_
        rintro e w2 ⟨rfl, rfl⟩
        exact ⟨0, rfl, by decide, rfl, Below.refl _ _⟩
      · intro w' hb
        rw [h0]
        refine (refsum_none _ _ _).mono ?_
        rintro e w2 ⟨rfl, rfl⟩
        exact ⟨0, rfl, by decide, rfl, Below.refl _ _⟩
    · exact goes a0 cap0 zs a1 a2 w (show a1 < 2 ^ 63 by omega) zs.length rfl hbig _ (fun w' hb => sum_some _ _ _ _ (hr.below hb) h0) (fun w' hb => refsum_some _ _ _ _ (hr.below hb) h0)

set_option maxRecDepth 100000 in
theorem lifted (os : Os) (started : os.Started) (H : Type) (enc : TypeId × Value → H) :
    ReturnsInHanded {} Tryd.checked os 4 .any (fun w args => (Rows.realSumsSpec.pre enc Tryd.prog Tryd.f4 Rows.realSumsRow.domain false w args ∧ laidMetH Tryd.prog Rows.realSumsRow.laid w) ∧ sizedMet enc Tryd.prog Tryd.f4 (OpenSpec.ofChange Rows.realSumsSpec) false w args)
      (Rows.realSumsSpec.post enc Tryd.prog Tryd.f4 false true false false) := by
  refine returnsInHanded_of_change_and (C := Tryd.checked) (X := fun w _ => laidMetH Tryd.prog Rows.realSumsRow.laid w) (fun _ _ _ hh h => h.of_heap hh) own started (by kernel_rfl) Tryd.func4
    (ChangeSpec.witness_shaped (enc := enc) (C := Tryd.checked) (os := os) (X := fun w _ => laidMetH Tryd.prog Rows.realSumsRow.laid w) false (World.laidAll Tryd.prog os Rows.realSumsRow.laid) #[.slice none 0 0, .int .i64 0, .int .i64 0] 8 (World.laidAll_os _ _ _)
      (World.shaped_of_ZipB (by kernel_rfl) (by kernel_rfl)) (by kernel_rfl) (by kernel_rfl) (by kernel_rfl)
      (by rw [MakeChecks.laidMetH_plain _ _ _ (by kernel_rfl)]; exact laidMet_laidAll _ (by kernel_rfl) (by kernel_rfl))) ?_
  intro W base args ds gs before hval0 hW hcnd _ hL _
  have hval : ∀ (j : Nat) t v, Tryd.f4.params[j]? = some t → args[j]? = some v → Value.okWide Tryd.prog W .any base t v := hval0
  have hW' := hW
  obtain ⟨p, q, hA0, hV, rfl, hfz, hnd⟩ := hW
  have hA : DataW.TrodAll enc Tryd.prog W 0 (fun _ => true) true Tryd.f4.params.toList args.toList ds p := hA0
  rw [Tryd.params4] at hA hval
  obtain ⟨v0, vs0, d0, ds0, p0, q0, hargs, rfl, rfl, h0, r0⟩ := trodAll_cons hA
  obtain ⟨v1, vs1, d1, ds1, p1, q1, rfl, rfl, rfl, h1, r1⟩ := trodAll_cons r0
  obtain ⟨v2, vs2, d2, ds2, p2, q2, rfl, rfl, rfl, h2, r2⟩ := trodAll_cons r1
  obtain ⟨rfl, rfl, rfl⟩ := trodAll_nil r2
  obtain rfl : args = #[v0, v1, v2] := by cases args; simp_all
  obtain ⟨rfl, rfl⟩ := trodVars_none hV
  obtain ⟨a0, len0, cap0, rfl⟩ := okWide_slice Tryd.underlying28 (hval 0 28 v0 rfl rfl)
  have k0 := h0
  have lt0 : ∀ x ∈ p0, x.block < W.heap.size := by obtain ⟨m, hm⟩ := k0; exact DataW.trod_lt m _ _ _ hm
  obtain ⟨z0, w0⟩ : ∃ zs, IsRowF W a0 len0 cap0 zs := by
    obtain ⟨fuel, hf⟩ := h0
    exact open_floats Tryd.underlying28 Tryd.underlying22 (by kernel_rfl) hf
  obtain ⟨a1, rfl, rfl, rfl, w1⟩ := open_int Tryd.underlying3 (hval 1 3 v1 rfl rfl) h1
  obtain ⟨a2, rfl, rfl, rfl, w2⟩ := open_int Tryd.underlying3 (hval 2 3 v2 rfl rfl) h2
  clear hA0 hval0
  refine (walk a0 len0 cap0 z0 a1 a2 W w0 w1 w2).mono fun e W' ⟨he, bel⟩ => ?_
  subst he
  exact ⟨_, rfl, _, _, _, [], _, [], hW', trodAll_mk1 (shut_bool Tryd.underlying4 _), (trodAll_cons_mk (Below.trod laidOut (by kernel_rfl) (of_decide_eq_true (by kernel_rfl)) k0 bel lt0) (trodAll_cons_mk (shut_int Tryd.underlying3 w1) (trodAll_cons_mk (shut_int Tryd.underlying3 w2) trodAll_mk0))), rfl, bel.frame _, fun h => by cases h⟩

theorem over : Rows.RealSumsSaid :=
  OpenClaim.holds_of_wide 4 Tryd.f4 rfl rfl rfl rfl rfl rfl rfl ⟨rfl, rfl, rfl, rfl, rfl⟩ rfl rfl rfl rfl rfl (by kernel_rfl) Tryd.func4 (by kernel_rfl)
    (of_decide_eq_true (by kernel_rfl)) (by unfold Func.isWrapper; first | (rw [if_pos (by decide +kernel)]; kernel_rfl) | (rw [if_neg (by decide +kernel)]; exact ⟨rfl, rfl⟩))
    (fun os started H enc _ => lifted os started H enc)

/-- THE CARD. -/
theorem proved : Rows.RealSumsCardSaid :=
  Claim7.holds_tied_plain_at .later [] _ true _ false over (fun _ h => by cases h) (by kernel_rfl) (fun _ h => by cases h) realSums_row_tie rfl ⟨rfl, rfl⟩ (by kernel_rfl) rfl
    (fun f fn hf hfn => by
      obtain rfl : f = 4 := Option.some.inj ((show Tryd.prog.funcNamed Rows.realSumsRow.func = some 4 by kernel_rfl).symm.trans hf) |>.symm
      obtain rfl : fn = Tryd.f4 := (Option.some.inj (Tryd.func4.symm.trans hfn)).symm
      exact ⟨by kernel_rfl, fun j t ht => by
        rw [Tryd.params4] at ht
        have hm : t ∈ [28, 3, 3] := by simpa using Array.mem_of_getElem? ht
        have hall : ([28, 3, 3].all fun u => !Tryd.prog.wantsStandIn u) = true := by kernel_rfl
        exact (show Tryd.prog.wantsStandIn t = false by simpa using List.all_eq_true.1 hall t hm)⟩)
    (by kernel_rfl)
#print axioms proved
end Go.Proofs.YtmdefbhdfgdleaaDoor.realSums
