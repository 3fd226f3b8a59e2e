/- The walk: As the document asks. -/
import Derived.Test.YtbamdcjhcmogbaaKg
import Derived.WalkKit
import Derived.ProofKit
import Derived.OpenShut
import Derived.ShutString
import Derived.ChangeOld
import Derived.Below
namespace Go.Proofs.Ytbamdcjhcmogbaa.chainParts
open Go.ChangeShapes Go.WideShapes Go.ChangeAt Go.RowKit
open Go.Proofs.Ytbamdcjhcmogbaa.Oct
set_option linter.unusedVariables false


set_option maxHeartbeats 4000000 in
set_option maxRecDepth 100000 in
theorem walk (X : ChC) (a0 : Option Addr) (cap0 : Nat) (l0 : List Int) (w : World) (w0 : Row w a0 cap0 l0) (n0 : a0 = none → cap0 = 0) :
    Calls Try.prog 5 #[.slice a0 l0.length cap0] w fun e w' => e = .returned (.bool true) ∧ Below w.heap.size w w' := by
  have HR : Hid (Row w a0 cap0 l0) := w0
  have HN : Hid (a0 = none → cap0 = 0) := n0
  clear w0 n0
  go_enter Try.func5, Try.ntmps5
  go_wp2_with fail
  refine (awake11 X w).mono ?_
  rintro x w1 ⟨rfl, hb1⟩
  have HB1 : Hid (Below w.heap.size w w1) := hb1
  have hlen0 : l0.length ≤ maxLen := Nat.le_trans HR.out.2.1 HR.out.2.2.1
  unfold maxLen at hlen0
  clear hb1
  by_cases hbig : 2000 < l0.length
  · go_wp2
    go_ret
    exact ⟨rfl, HB1.out⟩
  clear hlen0
  have hl := X.part a0 cap0 l0 w1 (HR.out.below HB1.out) HN.out (by omega)
  go_wp2_with fail
  refine hl.mono ?_
  clear hl
  rintro x w2 ⟨g2, c2, rfl, hn2, hr2, hb2⟩
  have HB2 : Hid (Below w.heap.size w w2) := HB1.out.trans (hb2.mono HB1.out.size)
  obtain ⟨E, hE⟩ : ∃ E, ptE l0 = E := ⟨_, rfl⟩
  obtain ⟨L, hL⟩ : ∃ L, ptL l0 = L := ⟨_, rfl⟩
  obtain ⟨m, hm⟩ : ∃ m, L.length = m := ⟨_, rfl⟩
  obtain ⟨Y, hY⟩ : ∃ Y, ptN l0 = Y := ⟨_, rfl⟩
  have hr := rPart_v a0 cap0 l0.length l0 w2 (HR.out.below HB2.out) rfl E hE L hL m hm Y hY
  rw [hE, hL, hm, hY]
  rw [hL] at hr2
  have HR2 : Hid (Row w2 g2 c2 L) := hr2
  have HM : Hid (L.length = m) := hm
  clear hb2 hE hL hY hm hr2
  go_wp2_with fail
  refine hr.mono ?_
  clear hr
  rintro x w3 ⟨g3, c3, rfl, hn3, hr3, hb3⟩
  have HB3 : Hid (Below w.heap.size w w3) := HB2.out.trans (hb3.mono HB2.out.size)
  have hsm := same_any g2 g3 c2 c3 L L w3 (HR2.out.below hb3) hr3
  rw [HM.out, show sameB L L = true by simp [sameB]] at hsm
  clear hb3 hr3
  go_wp2_with (go_at_call 16; refine hsm.mono ?_; clear hsm; rintro e w4 ⟨rfl, hb4⟩; have HB4 : Hid (Below w.heap.size w w4) := HB3.out.trans (hb4.mono HB3.out.size); clear hb4)
  go_ret
  exact ⟨rfl, HB4.out⟩

end Go.Proofs.Ytbamdcjhcmogbaa.chainParts
