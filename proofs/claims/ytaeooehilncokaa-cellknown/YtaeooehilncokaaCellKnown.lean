/- Chapter 8's examples. -/
import Derived.Test.YtaeooehilncokaaRows
import Derived.Test.YtaeooehilncokaaRows
import Derived.Test.YtaeooehilncokaaYr
import Derived.WalkKit
import Derived.ProofKit
import Derived.OpenShut
import Derived.ShutString
namespace Go.Proofs.Ytaeooehilncokaa.cellKnown
open Go.ChangeShapes Go.WideShapes Go.ChangeAt Go.RowKit
open Go.Proofs.Ytaeooehilncokaa.Oct
open Go.ChangeMaps (open_string shut_string)
set_option linter.unusedVariables false      -- a walk need not use every 'w<i>' (that an integer argument fits its kind)

theorem own : ownKnob Try.prog.godebug = none := by kernel_rfl

def kQ : C4 := ⟨5, 0, 3, 0⟩
theorem ok_kQ : layB false 0 [kQ] = true := by decide
theorem te_leaf : teE (layZ false 0 [kQ]) = 4 ∧ teL (layZ false 0 [kQ]) = [] := by
  have hz : layZ false 0 [kQ] = sealL (pgC false 0 [kQ]) := by unfold layZ; rw [ok_kQ]; rfl
  obtain ⟨o1, o2⟩ := open_seal (p := pgC false 0 [kQ]) (cels_bys _ _) (pgC_ok ok_kQ)
  rw [hz]
  refine teE_no o1 ?_
  rw [o2]
  unfold teB
  rw [opB_no (s := textS) (fun h => absurd h.1 (by decide))]
  rfl
theorem made21 : (madeCells zero4.cells (21 * 4)).toList = (List.replicate 21 c40).flatMap vals4 := by kernel_rfl
theorem wf_c40 : ∀ q ∈ List.replicate 21 c40, wfC q := by
  intro q hq
  rw [List.eq_of_mem_replicate hq]
  refine ⟨?_, ?_, ?_, ?_⟩ <;> (unfold wf1; decide)
theorem rowC_nil (w : World) : RowC w none 0 [] := ⟨fun q hq => (by cases hq), Nat.le_refl _, by simp [maxLen], .inl rfl⟩

set_option maxHeartbeats 2000000 in
set_option maxRecDepth 20000 in
theorem walk  (w : World) :
    Calls Try.prog 3 #[] w fun e w' => e = .returned (.bool true) ∧ Below w.heap.size w w' := by
  obtain ⟨i0, hi0, hz0, hz1, hz2⟩ := info_parts infoP
  have hlen := layZ_len ok_kQ
  have hbys := layZ_bys false 0 [kQ]
  have C1 : Hid (∀ w1, Calls Try.prog 9 #[.slice none 0 0] w1 fun e w' => ∃ g c, e = .returned (.tuple #[.slice g 0 c, .int .i64 1]) ∧ Hid (Below w1.heap.size w1 w')) := fun w1 => by
    refine (leafMk_v [] none 0 0 w1 (rowC_nil w1) rfl 1 (by decide) [] (by decide) 0 rfl).mono ?_
    rintro e w' ⟨g, c, rfl, _, hb⟩
    exact ⟨g, c, rfl, hb⟩
  have C2 : Hid (∀ w1 a, RowC w1 a 21 (List.replicate 21 c40) → Calls Try.prog 9 #[.slice a 21 21] w1 fun e w' => ∃ g c, e = .returned (.tuple #[.slice g 0 c, .int .i64 1]) ∧ Hid (Below w1.heap.size w1 w')) := fun w1 a hr => by
    refine (leafMk_v (List.replicate 21 c40) a 21 21 w1 hr rfl 1 (by decide) [] (by decide) 0 rfl).mono ?_
    rintro e w' ⟨g, c, rfl, _, hb⟩
    exact ⟨g, c, rfl, hb⟩
  have C3 : Hid (∀ w1, Calls Try.prog 10 #[.slice none 0 0] w1 fun e w' => ∃ g c, e = .returned (.tuple #[.slice g 0 c, .int .i64 1]) ∧ Hid (Below w1.heap.size w1 w')) := fun w1 => by
    refine (bytes_v none 0 0 [] w1 (row0 w1) rfl 1 (by decide) [] (by decide) 0 rfl).mono ?_
    rintro e w' ⟨g, c, rfl, _, hb⟩
    exact ⟨g, c, rfl, hb⟩
  have C4 : Hid (∀ w1 a, RowC w1 a 1 [kQ] → Calls Try.prog 9 #[.slice a 1 1] w1 fun e w' => ∃ g c, e = .returned (.tuple #[.slice g 256 c, .int .i64 0]) ∧ Hid (Row w' g c (layZ false 0 [kQ])) ∧ Hid (Below w1.heap.size w1 w')) := fun w1 a hr => by
    refine (leafMk_v [kQ] a 1 1 w1 hr rfl 0 (layZ_yes ok_kQ).1 _ rfl 256 hlen).mono ?_
    rintro e w' ⟨g, c, rfl, ho, hb⟩
    exact ⟨g, c, rfl, (ho.row' hbys).2, hb⟩
  have C5 : Hid (∀ w1 a c, Row w1 a c (layZ false 0 [kQ]) → Calls Try.prog 11 #[.slice a 256 c] w1 fun e w' => ∃ g c, e = .returned (.tuple #[.slice g 0 c, .int .i64 4]) ∧ Hid (Below w1.heap.size w1 w')) := fun w1 a c hr => by
    refine (text_v' a c 256 _ w1 hr hlen 4 te_leaf.1 [] te_leaf.2 0 rfl).mono ?_
    rintro e w' ⟨g, c, rfl, _, _, hb⟩
    exact ⟨g, c, rfl, hb⟩
  clear hlen hbys
  go_enter Try.func3, Try.ntmps3
  go_wp2_with fail
  refine (awake_any w).mono ?_
  rintro e w1 ⟨rfl, hb1⟩
  have HB1 : Hid (Below w.heap.size w w1) := hb1
  clear hb1
  go_wp2_with fail
  refine (C1.out _).mono ?_
  rintro e w2 ⟨g2, c2, rfl, hb⟩
  have HB2 : Hid (Below w.heap.size w w2) := HB1.out.trans (hb.out.mono HB1.out.size)
  clear hb
  go_wp2_with (at_make; refine wpList_make_full _ rfl _ _ 27 rfl w2.heap.size 30 i0 zero4 4 Try.underlying27 hi0 hz0 hz1 .i64 .i64 _ _ 21 rfl rfl rfl rfl (by rw [hz2]; omega) (by unfold maxLen; omega) (Nat.le_refl _) ?_; intro w3 hown3 hgrow3; have HB3 : Hid (Below w.heap.size w w3) := HB2.out.trans (((Below.refl _ _).grown hgrow3 (Nat.le_refl _) (by simp)).mono HB2.out.size); rw [made21] at hown3; have HO3 : Hid (OwnC 30 w2.heap.size w3 (.slice (some ⟨w2.heap.size, 0, none⟩) 21 21) (List.replicate 21 c40)) := hown3; clear hown3 hgrow3)
  refine (C2.out _ _ (HO3.out.row' wf_c40).2.1).mono ?_
  rintro e w4 ⟨g4, c4, rfl, hb⟩
  have HB4 : Hid (Below w.heap.size w w4) := HB3.out.trans (hb.out.mono HB3.out.size)
  clear hb HO3
  go_wp2_with fail
  refine (C3.out _).mono ?_
  rintro e w5 ⟨g5, c5, rfl, hb⟩
  have HB5 : Hid (Below w.heap.size w w5) := HB4.out.trans (hb.out.mono HB4.out.size)
  clear hb
  go_wp2_with fail
  refine (C4.out _ _ (rowC_one w5 kQ _ (by refine ⟨?_, ?_, ?_, ?_⟩ <;> (unfold wf1; decide)))).mono ?_
  rintro e w6 ⟨g6, c6, rfl, HR6, hb⟩
  have HB6 : Hid (Below w.heap.size w w6) := (HB5.out.alloc HB5.out.size _).trans (hb.out.mono (Nat.le_trans HB5.out.size (by rw [heap_alloc_size]; omega)))
  clear hb
  go_wp2_with fail
  refine (C5.out _ _ _ HR6.out).mono ?_
  rintro e w7 ⟨g7, c7, rfl, hb⟩
  have HB7 : Hid (Below w.heap.size w w7) := HB6.out.trans (hb.out.mono HB6.out.size)
  clear hb
  go_wp2
  go_ret
  exact ⟨rfl, HB7.out⟩

/-! ### THE ROW's STEP: WRITTEN OUT: LEAVE IT -/
set_option maxRecDepth 100000 in
theorem lifted (os : Os) (started : os.Started) (H : Type) (enc : TypeId × Value → H) :
    ReturnsInHanded {} Try.checked os 3 .any (Rows.cellKnownSpec.pre6 enc Try.prog Try.f3 Rows.cellKnownRow.domain false) (Rows.cellKnownSpec.post enc Try.prog Try.f3 false true false false) := by
  refine returnsInHanded_of_change (C := Try.checked) own started (by kernel_rfl) Try.func3
    (ChangeSpec.witness6 (enc := enc) (C := Try.checked) false ⟨#[], #[], []⟩ 8 (by kernel_rfl) (by kernel_rfl) (by kernel_rfl) (by kernel_rfl)) ?_
  intro W base args ds gs before hval0 hW hcnd _
  have hval : ∀ (j : Nat) t v, Try.f3.params[j]? = some t → args[j]? = some v → Value.okWide Try.prog W .any base t v := hval0
  have hW' := hW
  obtain ⟨p, q, hA0, hV, rfl, hfz, hnd⟩ := hW
  have hA : DataW.TrodAll enc Try.prog W 0 (fun _ => true) true Try.f3.params.toList args.toList ds p := hA0
  rw [Try.params3] at hA hval
  obtain ⟨rfl, rfl, rfl⟩ := trodAll_none hA
  obtain ⟨rfl, rfl⟩ := trodVars_none hV
  clear hA0 hval0
  simp only [List.append_nil] at hW'
  refine (walk  W).mono fun e W' ⟨he, bel⟩ => ?_
  subst he
  exact ⟨_, rfl, _, _, _, [], [], [], hW', trodAll_mk1 (shut_bool Try.underlying4 _), trodAll_mk0, rfl, bel.frame _, fun h => by cases h⟩

theorem over : Rows.cellKnownRow.holds Try.pinned (OpenSpec.ofChange Rows.cellKnownSpec) :=
  OpenClaim.holds_of_wide 3 Try.f3 rfl rfl rfl rfl rfl rfl rfl ⟨rfl, rfl, rfl, rfl, rfl⟩ rfl rfl rfl rfl rfl (by kernel_rfl) Try.func3 (by kernel_rfl)
    (of_decide_eq_true (by kernel_rfl)) (by unfold Func.isWrapper; first | (rw [if_pos (by decide +kernel)]; kernel_rfl) | (rw [if_neg (by decide +kernel)]; exact ⟨rfl, rfl⟩))
    (fun os started H enc _ => lifted os started H enc)

/-- ████ THE STATEMENT ████ -/
theorem proved : Rows.CellKnownSaid :=
  over
#print axioms proved
end Go.Proofs.Ytaeooehilncokaa.cellKnown
