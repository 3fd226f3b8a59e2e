/- The examples of chapter 2 hold of utf: a closed statement, without conditions. -/
import Derived.Test.YtfnbkjmoppjegaaRows
import Derived.Test.YtfnbkjmoppjegaaAw
import Derived.WalkKit
import Derived.ProofKit
import Derived.OpenShut
import Derived.ShutString
namespace Go.Proofs.Ytfnbkjmoppjegaa.utfKnown
open Go.ChangeShapes Go.WideShapes Go.ChangeAt Go.RowKit
open Go.Proofs.Ytfnbkjmoppjegaa.Oct
open Go.ChangeMaps (open_string shut_string)
set_option linter.unusedVariables false      -- a walk need not use every 'w<i>' (that an integer argument fits its kind)

theorem own : ownKnob Try.prog.godebug = none := by kernel_rfl

theorem k1 : nxI [195, 65] 0 = -1 := by decide +kernel
theorem k2 : nxN [195, 65] 0 = 1 := by decide +kernel
theorem k3 : nxI [237, 160, 128] 0 = -1 := by decide +kernel
theorem k4 : nxN [237, 160, 128] 0 = 1 := by decide +kernel
theorem k5 : laI [164] 1 = 1 := by decide +kernel
theorem k6 : beB [195, 164] 1 = false := by decide +kernel
theorem k7 : beB [195, 65] 1 = true := by decide +kernel
theorem k8 : cnt [195, 164, 164] 0 = 2 := by
  rw [cnt_in (by decide), cnt_in (by decide +kernel), cnt_out (by decide +kernel)]


set_option maxHeartbeats 2000000 in
theorem walk  (w : World) :
    Calls Try.prog 3 #[] w fun e w' => e = .returned (.bool true) ∧ Below w.heap.size w w' := by
  go_enter Try.func3, Try.ntmps3
  go_wp2_with (go_at_call 9; refine (awake_any _).mono ?_; rintro e w1 ⟨rfl, hb1⟩)
  have B1 : Hid (Below w.heap.size w w1) := hb1
  clear hb1
  have hr := row_new w1 [195, 65] 5 (bysOf (by decide)) (by simp [maxLen])
  simp at hr
  have c := next_any _ _ _ 0 _ hr
  rw [k1, k2] at c
  refine c.mono ?_
  clear c hr
  rintro e w2 ⟨rfl, hb⟩
  have B2 : Hid (Below w.heap.size w w2) := (B1.out.alloc B1.out.size _).trans (hb.mono (by have := B1.out.size; simp; omega))
  clear hb B1
  go_wp2_with fail
  have hr := row_new w2 [237, 160, 128] 5 (bysOf (by decide)) (by simp [maxLen])
  simp at hr
  have c := next_any _ _ _ 0 _ hr
  rw [k3, k4] at c
  refine c.mono ?_
  clear c hr
  rintro e w3 ⟨rfl, hb⟩
  have B3 : Hid (Below w.heap.size w w3) := (B2.out.alloc B2.out.size _).trans (hb.mono (by have := B2.out.size; simp; omega))
  clear hb B2
  go_wp2_with fail
  have hr := row_new w3 [164] 5 (bysOf (by decide)) (by simp [maxLen])
  simp at hr
  have c := last_any _ _ _ 1 _ hr
  rw [k5] at c
  refine c.mono ?_
  clear c hr
  rintro e w4 ⟨rfl, hb⟩
  have B4 : Hid (Below w.heap.size w w4) := (B3.out.alloc B3.out.size _).trans (hb.mono (by have := B3.out.size; simp; omega))
  clear hb B3
  go_wp2_with fail
  have hr := row_new w4 [195, 164] 5 (bysOf (by decide)) (by simp [maxLen])
  simp at hr
  have c := begins_any _ _ _ 1 _ hr
  rw [k6] at c
  refine c.mono ?_
  clear c hr
  rintro e w5 ⟨rfl, hb⟩
  have B5 : Hid (Below w.heap.size w w5) := (B4.out.alloc B4.out.size _).trans (hb.mono (by have := B4.out.size; simp; omega))
  clear hb B4
  go_wp2_with fail
  have hr := row_new w5 [195, 65] 5 (bysOf (by decide)) (by simp [maxLen])
  simp at hr
  have c := begins_any _ _ _ 1 _ hr
  rw [k7] at c
  refine c.mono ?_
  clear c hr
  rintro e w6 ⟨rfl, hb⟩
  have B6 : Hid (Below w.heap.size w w6) := (B5.out.alloc B5.out.size _).trans (hb.mono (by have := B5.out.size; simp; omega))
  clear hb B5
  go_wp2_with fail
  have hr := row_new w6 [195, 164, 164] 5 (bysOf (by decide)) (by simp [maxLen])
  simp at hr
  have c := count_any _ _ _ _ hr
  rw [k8] at c
  refine c.mono ?_
  clear c hr
  rintro e w7 ⟨rfl, hb⟩
  have B7 : Hid (Below w.heap.size w w7) := (B6.out.alloc B6.out.size _).trans (hb.mono (by have := B6.out.size; simp; omega))
  clear hb B6
  go_wp2
  go_ret
  exact ⟨rfl, B7.out⟩

/-! ### THE ROW's STEP: WRITTEN OUT: LEAVE IT -/
set_option maxRecDepth 100000 in
theorem lifted (os : Os) (started : os.Started) (H : Type) (enc : TypeId × Value → H) :
    ReturnsInHanded {} Try.checked os 3 .any (Rows.utfKnownSpec.pre6 enc Try.prog Try.f3 Rows.utfKnownRow.domain false) (Rows.utfKnownSpec.post enc Try.prog Try.f3 false true false false) := by
  refine returnsInHanded_of_change (C := Try.checked) own started (by kernel_rfl) Try.func3
    (ChangeSpec.witness6 (enc := enc) (C := Try.checked) false ⟨#[], #[], []⟩ 8 (by kernel_rfl) (by kernel_rfl) (by kernel_rfl) (by kernel_rfl)) ?_
  intro W base args ds gs before hval0 hW hcnd _
  have hval : ∀ (j : Nat) t v, Try.f3.params[j]? = some t → args[j]? = some v → Value.okWide Try.prog W .any base t v := hval0
  have hW' := hW
  obtain ⟨p, q, hA0, hV, rfl, hfz, hnd⟩ := hW
  have hA : DataW.TrodAll enc Try.prog W 0 (fun _ => true) true Try.f3.params.toList args.toList ds p := hA0
  rw [Try.params3] at hA hval
  obtain ⟨rfl, rfl, rfl⟩ := trodAll_none hA
  obtain ⟨rfl, rfl⟩ := trodVars_none hV
  clear hA0 hval0
  simp only [List.append_nil] at hW'
  refine (walk  W).mono fun e W' ⟨he, bel⟩ => ?_
  subst he
  exact ⟨_, rfl, _, _, _, [], [], [], hW', trodAll_mk1 (shut_bool Try.underlying4 _), trodAll_mk0, rfl, bel.frame _, fun h => by cases h⟩

theorem over : Rows.utfKnownRow.holds Try.pinned (OpenSpec.ofChange Rows.utfKnownSpec) :=
  OpenClaim.holds_of_wide 3 Try.f3 rfl rfl rfl rfl rfl rfl rfl ⟨rfl, rfl, rfl, rfl, rfl⟩ rfl rfl rfl rfl rfl (by kernel_rfl) Try.func3 (by kernel_rfl)
    (of_decide_eq_true (by kernel_rfl)) (by unfold Func.isWrapper; first | (rw [if_pos (by decide +kernel)]; kernel_rfl) | (rw [if_neg (by decide +kernel)]; exact ⟨rfl, rfl⟩))
    (fun os started H enc _ => lifted os started H enc)

/-- ████ THE STATEMENT ████ -/
theorem proved : Rows.UtfKnownSaid :=
  over
#print axioms proved
end Go.Proofs.Ytfnbkjmoppjegaa.utfKnown
