/- The examples of chapter 1 hold of octet: a closed statement, without conditions. -/
import Derived.Test.YtehkbcnibmemaaaRows
import Derived.Test.YtehkbcnibmemaaaI
import Derived.Test.YtehkbcnibmemaaaD
import Derived.WalkKit
import Derived.ProofKit
import Derived.OpenShut
import Derived.ShutString
import Derived.ChangeOld
import Derived.Below
import Derived.Lib.SlBytesConst
namespace Go.Proofs.Ytehkbcnibmemaaa.octetKnown
open Go.ChangeShapes Go.WideShapes Go.ChangeAt Go.RowKit
open Go.Proofs.Ytehkbcnibmemaaa.Oct
open Go.ChangeMaps (open_string shut_string)
set_option linter.unusedVariables false

theorem own : ownKnob Try.prog.godebug = none := by kernel_rfl

theorem kGet : getB [1, 2, 3] 2 2 = false := by decide
theorem kPut : putB [0, 0, 0] 1 2 300 = true := by decide
theorem kPutR : putR [0, 0, 0] 1 2 300 = [0, 1, 44] := by decide
theorem kNo : putB [0] 0 1 256 = false := by decide
theorem kCrc : crc [49, 50, 51, 52, 53, 54, 55, 56, 57] = 3421780262 := by decide +kernel
theorem bysOf {zs : List Int} (h : zs.all (fun z => decide (0 ≤ z ∧ z ≤ 255)) = true) : Bys zs := by
  intro z hz
  have := List.all_eq_true.1 h z hz
  simpa using this

set_option maxHeartbeats 400000 in
theorem walk  (w : World) :
    Calls Try.prog 3 #[] w fun e w' => e = .returned (.bool true) ∧ Below w.heap.size w w' := by
  have hconv := fun (w : World) (C : Array Value) (n c : Nat) => Lib.run_convert_bytes_const (P := Try.prog) w 25 5 C n c Try.underlying25 Try.underlying5
  go_enter Try.func3, Try.ntmps3
  go_wp2_with (go_at_call 8; refine (awake_any _).mono ?_; rintro e w1 ⟨rfl, hb1⟩)
  have hr := row_new w1 [1, 2, 3] 5 bys123 (by simp [maxLen])
  simp at hr
  have c := get_any _ _ _ 2 2 _ hr
  rw [kGet] at c
  refine c.mono ?_
  clear c hr
  rintro e w2 ⟨rfl, hb2⟩
  have HB2 : Hid (Below w.heap.size w w2) := (hb1.alloc hb1.size _).trans (hb2.mono (by have := hb1.size; simp; omega))
  clear hb1 hb2
  go_wp2_with fail
  have hr := row_new w2 [0, 0, 0] 5 (bysOf (by decide)) (by simp [maxLen])
  simp at hr
  have c := put_any _ _ _ 1 2 300 _ hr (by simp) (by decide)
  rw [kPut, kPutR] at c
  refine c.mono ?_
  clear c hr
  rintro e w3 ⟨v3, rfl, hown3, hb3⟩
  have HB3 : Hid (Below w.heap.size w w3) := (HB2.out.alloc HB2.out.size _).trans (hb3.mono (by have := HB2.out.size; simp; omega))
  obtain ⟨a3, c3, rfl, hr3⟩ := hown3.row (bysOf (by decide))
  clear hown3 hb3
  have HR3 : Hid (Row w3 a3 c3 [0, 1, 44]) := hr3
  clear hr3
  go_wp2_with fail
  have hr := row_new w3 [0] 5 (bysOf (by decide)) (by simp [maxLen])
  simp at hr
  have c := put_any _ _ _ 0 1 256 _ hr (by simp) (by decide)
  rw [kNo] at c
  refine c.mono ?_
  clear c hr
  rintro e w4 ⟨v4, rfl, hown4, hb4⟩
  have HB4 : Hid (Below w.heap.size w w4) := (HB3.out.alloc HB3.out.size _).trans (hb4.mono (by have := HB3.out.size; simp; omega))
  have HR4 : Hid (Row w4 a3 c3 [0, 1, 44]) := (HR3.out.below ((Below.refl _ _).alloc (Nat.le_refl _) _)).below hb4
  clear hown4 hb4
  go_wp2_with fail
  have hr := row_new w4 [0, 1, 44] 5 (bysOf (by decide)) (by simp [maxLen])
  simp at hr
  have c := same_any _ _ _ _ _ _ _ (HR4.out.below ((Below.refl _ _).alloc (Nat.le_refl _) _)) hr
  rw [same_self] at c
  refine c.mono ?_
  clear c hr
  rintro e w5 ⟨rfl, hb5⟩
  have HB5 : Hid (Below w.heap.size w w5) := (HB4.out.alloc HB4.out.size _).trans (hb5.mono (by have := HB4.out.size; simp; omega))
  clear hb5 HB4 HR4 HB3 HR3 HB2
  go_wp2_with fail
  have hr := row_new' w5 [49, 50, 51, 52, 53, 54, 55, 56, 57] 5 (9, 10) (bysOf (by decide)) (by simp [maxLen])
  simp at hr
  have c := crc_any _ _ _ _ hr
  rw [kCrc] at c
  refine c.mono ?_
  clear c hr
  rintro e w6 ⟨rfl, rfl⟩
  go_wp2
  go_ret
  exact ⟨rfl, HB5.out.alloc HB5.out.size _⟩

/-! ### THE ROW's STEP: WRITTEN OUT: LEAVE IT -/
set_option maxRecDepth 100000 in
theorem lifted (os : Os) (started : os.Started) (H : Type) (enc : TypeId × Value → H) :
    ReturnsInHanded {} Try.checked os 3 .any (Rows.octetKnownSpec.pre6 enc Try.prog Try.f3 Rows.octetKnownRow.domain false) (Rows.octetKnownSpec.post enc Try.prog Try.f3 false true false false) := by
  refine returnsInHanded_of_change (C := Try.checked) own started (by kernel_rfl) Try.func3
    (ChangeSpec.witness6 (enc := enc) (C := Try.checked) false ⟨#[], #[], []⟩ 8 (by kernel_rfl) (by kernel_rfl) (by kernel_rfl) (by kernel_rfl)) ?_
  intro W base args ds gs before hval0 hW hcnd _
  have hval : ∀ (j : Nat) t v, Try.f3.params[j]? = some t → args[j]? = some v → Value.okWide Try.prog W .any base t v := hval0
  have hW' := hW
  obtain ⟨p, q, hA0, hV, rfl, hfz, hnd⟩ := hW
  have hA : DataW.TrodAll enc Try.prog W 0 (fun _ => true) true Try.f3.params.toList args.toList ds p := hA0
  rw [Try.params3] at hA hval
  obtain ⟨rfl, rfl, rfl⟩ := trodAll_none hA
  obtain ⟨rfl, rfl⟩ := trodVars_none hV
  clear hA0 hval0
  simp only [List.append_nil] at hW'
  refine (walk  W).mono fun e W' ⟨he, bel⟩ => ?_
  subst he
  exact ⟨_, rfl, _, _, _, [], [], [], hW', trodAll_mk1 (shut_bool Try.underlying4 _), trodAll_mk0, rfl, bel.frame _, fun h => by cases h⟩

theorem over : Rows.octetKnownRow.holds Try.pinned (OpenSpec.ofChange Rows.octetKnownSpec) :=
  OpenClaim.holds_of_wide 3 Try.f3 rfl rfl rfl rfl rfl rfl rfl ⟨rfl, rfl, rfl, rfl, rfl⟩ rfl rfl rfl rfl rfl (by kernel_rfl) Try.func3 (by kernel_rfl)
    (of_decide_eq_true (by kernel_rfl)) (by unfold Func.isWrapper; first | (rw [if_pos (by decide +kernel)]; kernel_rfl) | (rw [if_neg (by decide +kernel)]; exact ⟨rfl, rfl⟩))
    (fun os started H enc _ => lifted os started H enc)

/-- ████ THE STATEMENT ████ -/
theorem proved : Rows.OctetKnownSaid :=
  over
#print axioms proved
end Go.Proofs.Ytehkbcnibmemaaa.octetKnown
