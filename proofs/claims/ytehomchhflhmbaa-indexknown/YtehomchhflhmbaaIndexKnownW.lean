/- The walk: The chapter's examples hold for every world. -/
import Derived.Test.YtehomchhflhmbaaXne
import Derived.WalkKit
import Derived.ProofKit
import Derived.OpenShut
import Derived.ShutString
import Derived.ChangeOld
import Derived.Below
namespace Go.Proofs.Ytehomchhflhmbaa.indexKnown
open Go.ChangeShapes Go.WideShapes Go.ChangeAt Go.RowKit
open Go.Proofs.Ytehomchhflhmbaa.Oct
set_option linter.unusedVariables false


set_option maxHeartbeats 4000000 in
set_option maxRecDepth 100000 in
theorem walk {Ix : World → Nat → (Nat → Prop) → List Int → Prop} (X : IxC Ix)  (w : World)  :
    Calls Try.prog 3 #[] w fun e w' => e = .returned (.bool true) ∧ Below w.heap.size w w' := by
  go_enter Try.func3, Try.ntmps3
  go_wp2_with (first
    | (go_at_call 7; refine (awake16 X w).mono ?_; rintro e w0 ⟨rfl, hb0⟩
       have hn := X.new w0
       have H0 : Hid (Below w.heap.size w w0) := hb0
       clear hb0)
    | (go_at_call 8; refine hn.mono ?_; clear hn; rintro e w1 ⟨s, F, rfl, h1, hb1, hF⟩
       obtain ⟨w2, hcv, hr2, hb2⟩ := litB w1 #[.int .u8 97, .int .u8 98, .int .u8 10, .int .u8 99, .int .u8 100, .int .u8 10] [97, 98, 10, 99, 100, 10] 6 rfl (by unfold Bys; decide) (by decide) rfl
       have hst := X.step (X.below h1 hb2) _ 6 _ 6 hr2 rfl (.inr (fun x hx => by cases hx; intro h; have := X.lt h1 _ h; simp only at this; omega)) (by decide)
       have H2 : Hid (Below w.heap.size w w2 ∧ ∀ k, F k → w.heap.size ≤ k) := ⟨(H0.out.trans (hb1.mono H0.out.size)).trans (hb2.mono (H0.out.trans (hb1.mono H0.out.size)).size), fun k hk => Nat.le_trans H0.out.size (hF k hk)⟩
       clear h1 hb1 hF hr2 hb2)
    | (go_at_call 9; refine hst.mono ?_; clear hst; rintro e w3 ⟨rfl, F2, h3, st3⟩
       obtain ⟨w4, hcv2, hr4, hb4⟩ := litB w3 #[.int .u8 10, .int .u8 10] [10, 10] 2 rfl (by unfold Bys; decide) (by decide) rfl
       have hed := X.edit (X.below h3 hb4) 1 1 _ 2 _ 2 (by omega) (by omega) hr4 rfl (.inr (fun x hx => by cases hx; intro h; have := X.lt h3 _ h; simp only at this; omega)) (by decide)
       have H4 : Hid (Below w.heap.size w w4 ∧ ∀ k, F2 k → w.heap.size ≤ k) := by
         obtain ⟨b, f⟩ := st3.below H2.out.1.size H2.out.2
         exact ⟨(H2.out.1.trans b).trans (hb4.mono (H2.out.1.trans b).size), f⟩
       clear h3 st3 H2 hr4 hb4)
    | (go_at_call 10; refine hed.mono ?_; clear hed; rintro e w5 ⟨rfl, F3, h5, st5⟩
       have h5 : Ix w5 s F3 [97, 10, 10, 10, 99, 100, 10] := h5
       have hbg := X.begin' h5 1 (by omega)
       rw [show bgV [97, 10, 10, 10, 99, 100, 10] 1 = 2 by decide, show bgB [97, 10, 10, 10, 99, 100, 10] 1 = true by decide] at hbg
       have H5 : Hid (Ix w5 s F3 [97, 10, 10, 10, 99, 100, 10] ∧ Below w.heap.size w w5) := by
         obtain ⟨b, f⟩ := st5.below H4.out.1.size H4.out.2
         exact ⟨h5, H4.out.1.trans b⟩
       clear h5 st5 H4)
    | (go_at_call 11; refine hbg.mono ?_; clear hbg; rintro e w6 ⟨rfl, hb6⟩
       have hbg2 := X.begin' (X.below H5.out.1 hb6) 9 (by omega)
       rw [show bgV [97, 10, 10, 10, 99, 100, 10] 9 = 0 by decide, show bgB [97, 10, 10, 10, 99, 100, 10] 9 = false by decide] at hbg2
       have H6 : Hid (Ix w6 s F3 [97, 10, 10, 10, 99, 100, 10] ∧ Below w.heap.size w w6) := ⟨X.below H5.out.1 hb6, H5.out.2.trans (hb6.mono H5.out.2.size)⟩
       clear hb6 H5)
    | (go_at_call 11; refine hbg2.mono ?_; clear hbg2; rintro e w7 ⟨rfl, hb7⟩
       have hkn := X.known (X.below H6.out.1 hb7)
       rw [show nlC [97, 10, 10, 10, 99, 100, 10] = 4 by decide] at hkn
       have H7 : Hid (Ix w7 s F3 [97, 10, 10, 10, 99, 100, 10] ∧ Below w.heap.size w w7) := ⟨X.below H6.out.1 hb7, H6.out.2.trans (hb7.mono H6.out.2.size)⟩
       clear hb7 H6)
    | (go_at_call 12; refine hkn.mono ?_; clear hkn; rintro e w8 ⟨rfl, hb8⟩
       have hse := X.seen (X.below H7.out.1 hb8)
       have H8 : Hid (Below w.heap.size w w8) := H7.out.2.trans (hb8.mono H7.out.2.size)
       clear hb8 H7)
    | (go_at_call 13; refine hse.mono ?_; clear hse; rintro e w9 ⟨rfl, hb9⟩
       have H9 : Hid (Below w.heap.size w w9) := H8.out.trans (hb9.mono H8.out.size)
       clear hb9))
  go_ret
  exact ⟨rfl, H9.out⟩

end Go.Proofs.Ytehomchhflhmbaa.indexKnown
