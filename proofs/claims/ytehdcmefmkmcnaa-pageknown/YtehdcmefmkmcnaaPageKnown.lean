/- Chapter 6's examples hold: Open of 256 noughts, Seal of Kind 0 and of a body of 249 bytes, Open of nothing. -/
import Derived.Test.YtehdcmefmkmcnaaRows
import Derived.Test.YtehdcmefmkmcnaaRows
import Derived.Test.YtehdcmefmkmcnaaZn
import Derived.WalkKit
import Derived.ProofKit
import Derived.OpenShut
import Derived.ShutString
namespace Go.Proofs.Ytehdcmefmkmcnaa.pageKnown
open Go.ChangeShapes Go.WideShapes Go.ChangeAt Go.RowKit
open Go.Proofs.Ytehdcmefmkmcnaa.Oct
open Go.ChangeMaps (open_string shut_string)
set_option linter.unusedVariables false      -- a walk need not use every 'w<i>' (that an integer argument fits its kind)

theorem own : ownKnob Try.prog.godebug = none := by kernel_rfl

theorem kn_open0 : opE (List.replicate 256 0) = 5 := by
  have hg : getI (List.replicate 256 0) 0 4 = 0 := by kernel_rfl
  have hc : (crc ((List.replicate 256 0).drop 4) == 0) = false := by kernel_rfl
  unfold opE
  rw [if_pos List.length_replicate, if_neg]
  rw [hg]
  intro e
  rw [← e] at hc
  exact absurd hc (by decide)
theorem kn_seal0 : sealE ⟨0, 0, 0, []⟩ = 1 := by decide
theorem kn_seal1 : sealE ⟨1, 0, 0, List.replicate 249 0⟩ = 3 := by
  unfold sealE
  rw [if_pos (by decide), if_neg (by show ¬ (List.replicate 249 (0 : Int)).length ≤ 248; rw [List.length_replicate]; omega)]
theorem row_nil0 (w : World) : Row w none 0 [] := ⟨fun z hz => (by cases hz), Nat.le_refl _, by simp [maxLen], .inl rfl⟩

set_option maxRecDepth 20000 in
set_option maxHeartbeats 2000000 in
theorem walk  (w : World) :
    Calls Try.prog 3 #[] w fun e w' => e = .returned (.bool true) ∧ Below w.heap.size w w' := by
  obtain ⟨i0, hi0, hz0, hz1, hz2⟩ := info_parts info5
  have C0 : Hid (∀ (a : Option Addr) (c : Nat) (w' : World), Row w' a c (List.replicate 256 0) → Calls Try.prog 8 #[.slice a 256 c] w' fun e w'' => ∃ v0 v1 v2 g n c, e = .returned (.tuple #[.agg #[.int .i64 v0, .int .i64 v1, .int .i64 v2, .slice g n c], .int .i64 5]) ∧ Below w'.heap.size w' w'') := fun a c w' h => by
    refine (open_v a c 256 _ w' h List.length_replicate 5 kn_open0 _ rfl).mono ?_
    rintro e w'' ⟨g, c, rfl, _, hb⟩
    exact ⟨_, _, _, _, _, _, rfl, hb⟩
  have C1 : Hid (∀ (w' : World), Calls Try.prog 9 #[.agg #[.int .i64 0, .int .i64 0, .int .i64 0, .slice none 0 0]] w' fun e w'' => ∃ g n c, e = .returned (.tuple #[.slice g n c, .int .i64 1]) ∧ Below w'.heap.size w' w'') := fun w' => by
    refine (seal_v ⟨0, 0, 0, []⟩ none 0 w' (row_nil0 w') (by decide) (by decide) (by decide) 1 kn_seal0 _ rfl _ rfl).mono ?_
    rintro e w'' ⟨g, c, rfl, _, hb⟩
    exact ⟨_, _, _, rfl, hb⟩
  have C2 : Hid (∀ (a : Option Addr) (c : Nat) (w' : World), Row w' a c (List.replicate 249 0) → Calls Try.prog 9 #[.agg #[.int .i64 1, .int .i64 0, .int .i64 0, .slice a 249 c]] w' fun e w'' => ∃ g n c, e = .returned (.tuple #[.slice g n c, .int .i64 3]) ∧ Below w'.heap.size w' w'') := fun a c w' h => by
    have := seal_v ⟨1, 0, 0, List.replicate 249 0⟩ a c w' h (by decide) (by decide) (by decide) 3 kn_seal1 _ rfl _ rfl
    unfold pgV at this
    dsimp only at this
    rw [List.length_replicate] at this
    refine this.mono ?_
    rintro e w'' ⟨g, c, rfl, _, hb⟩
    exact ⟨_, _, _, rfl, hb⟩
  have C3 : Hid (∀ (w' : World), Calls Try.prog 8 #[.slice none 0 0] w' fun e w'' => ∃ v0 v1 v2 g n c, e = .returned (.tuple #[.agg #[.int .i64 v0, .int .i64 v1, .int .i64 v2, .slice g n c], .int .i64 1]) ∧ Below w'.heap.size w' w'') := fun w' => by
    refine (open_v none 0 0 [] w' (row_nil0 w') rfl 1 (by decide) _ rfl).mono ?_
    rintro e w'' ⟨g, c, rfl, _, hb⟩
    exact ⟨_, _, _, _, _, _, rfl, hb⟩
  go_enter Try.func3, Try.ntmps3
  go_wp2_with fail
  refine (awake_any w).mono ?_
  rintro e w1 ⟨rfl, hb1⟩
  have HB1 : Hid (Below w.heap.size w w1) := hb1
  clear hb1
  go_wp2_with (at_make; refine wpList_make_full _ rfl _ _ 23 rfl w.heap.size 5 i0 (.int .u8 0) 1 Try.underlying23 hi0 hz0 hz1 .i64 .i64 _ _ 256 rfl rfl rfl rfl (by rw [hz2]; omega) (by simp [maxLen]) HB1.out.size ?_; intro w2 hown2 hgrow2; have HB2 : Hid (Below w.heap.size w w2) := HB1.out.grown hgrow2 HB1.out.size (by simp); have HR2 : Hid (Row w2 (some ⟨w1.heap.size, 0, none⟩) 256 (List.replicate 256 0)) := ((made_own hown2).row' (bys_rep _)).2; clear hown2 hgrow2)
  refine (C0.out _ _ _ HR2.out).mono ?_
  rintro e w3 ⟨v0, v1, v2, g, n, c, rfl, hb3⟩
  have HB3 : Hid (Below w.heap.size w w3) := HB2.out.trans (hb3.mono HB2.out.size)
  clear hb3
  go_wp2_with fail
  refine (C1.out _).mono ?_
  rintro e w4 ⟨g4, n4, c4, rfl, hb4⟩
  have HB4 : Hid (Below w.heap.size w w4) := (HB3.out.alloc HB3.out.size _).trans (hb4.mono (HB3.out.alloc HB3.out.size _).size)
  clear hb4
  go_wp2_with (at_make; refine wpList_make_full _ rfl _ _ 23 rfl w.heap.size 5 i0 (.int .u8 0) 1 Try.underlying23 hi0 hz0 hz1 .i64 .i64 _ _ 249 rfl rfl rfl rfl (by rw [hz2]; omega) (by simp [maxLen]) HB4.out.size ?_; intro w5 hown5 hgrow5; have HB5 : Hid (Below w.heap.size w w5) := HB4.out.grown hgrow5 HB4.out.size (by simp); have HR5 : Hid (Row w5 (some ⟨w4.heap.size, 0, none⟩) 249 (List.replicate 249 0)) := ((made_own hown5).row' (bys_rep _)).2; clear hown5 hgrow5)
  refine (C2.out _ _ _ HR5.out).mono ?_
  rintro e w6 ⟨g6, n6, c6, rfl, hb6⟩
  have HB6 : Hid (Below w.heap.size w w6) := HB5.out.trans (hb6.mono HB5.out.size)
  clear hb6
  go_wp2_with fail
  refine (C3.out _).mono ?_
  rintro e w7 ⟨x0, x1, x2, g7, n7, c7, rfl, hb7⟩
  have HB7 : Hid (Below w.heap.size w w7) := HB6.out.trans (hb7.mono HB6.out.size)
  clear hb7
  go_wp2
  go_ret
  exact ⟨rfl, HB7.out.alloc HB7.out.size _⟩

/-! ### THE ROW's STEP: WRITTEN OUT: LEAVE IT -/
set_option maxRecDepth 100000 in
theorem lifted (os : Os) (started : os.Started) (H : Type) (enc : TypeId × Value → H) :
    ReturnsInHanded {} Try.checked os 3 .any (Rows.pageKnownSpec.pre6 enc Try.prog Try.f3 Rows.pageKnownRow.domain false) (Rows.pageKnownSpec.post enc Try.prog Try.f3 false true false false) := by
  refine returnsInHanded_of_change (C := Try.checked) own started (by kernel_rfl) Try.func3
    (ChangeSpec.witness6 (enc := enc) (C := Try.checked) false ⟨#[], #[], []⟩ 8 (by kernel_rfl) (by kernel_rfl) (by kernel_rfl) (by kernel_rfl)) ?_
  intro W base args ds gs before hval0 hW hcnd _
  have hval : ∀ (j : Nat) t v, Try.f3.params[j]? = some t → args[j]? = some v → Value.okWide Try.prog W .any base t v := hval0
  have hW' := hW
  obtain ⟨p, q, hA0, hV, rfl, hfz, hnd⟩ := hW
  have hA : DataW.TrodAll enc Try.prog W 0 (fun _ => true) true Try.f3.params.toList args.toList ds p := hA0
  rw [Try.params3] at hA hval
  obtain ⟨rfl, rfl, rfl⟩ := trodAll_none hA
  obtain ⟨rfl, rfl⟩ := trodVars_none hV
  clear hA0 hval0
  simp only [List.append_nil] at hW'
  refine (walk  W).mono fun e W' ⟨he, bel⟩ => ?_
  subst he
  exact ⟨_, rfl, _, _, _, [], [], [], hW', trodAll_mk1 (shut_bool Try.underlying4 _), trodAll_mk0, rfl, bel.frame _, fun h => by cases h⟩

theorem over : Rows.pageKnownRow.holds Try.pinned (OpenSpec.ofChange Rows.pageKnownSpec) :=
  OpenClaim.holds_of_wide 3 Try.f3 rfl rfl rfl rfl rfl rfl rfl ⟨rfl, rfl, rfl, rfl, rfl⟩ rfl rfl rfl rfl rfl (by kernel_rfl) Try.func3 (by kernel_rfl)
    (of_decide_eq_true (by kernel_rfl)) (by unfold Func.isWrapper; first | (rw [if_pos (by decide +kernel)]; kernel_rfl) | (rw [if_neg (by decide +kernel)]; exact ⟨rfl, rfl⟩))
    (fun os started H enc _ => lifted os started H enc)

/-- ████ THE STATEMENT ████ -/
theorem proved : Rows.PageKnownSaid :=
  over
#print axioms proved
end Go.Proofs.Ytehdcmefmkmcnaa.pageKnown
