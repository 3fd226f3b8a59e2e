/- The walk: As the document asks. -/
import Derived.Test.YtbamdcjhcmogbaaKg
import Derived.WalkKit
import Derived.ProofKit
import Derived.OpenShut
import Derived.ShutString
import Derived.ChangeOld
import Derived.Below
namespace Go.Proofs.Ytbamdcjhcmogbaa.chainCuts
open Go.ChangeShapes Go.WideShapes Go.ChangeAt Go.RowKit
open Go.Proofs.Ytbamdcjhcmogbaa.Oct
set_option linter.unusedVariables false


set_option maxHeartbeats 4000000 in
set_option maxRecDepth 100000 in
theorem walk (X : ChC) (a0 : Option Addr) (cap0 : Nat) (l0 : List Int) (a1 : Option Addr) (cap1 : Nat) (l1 : List Int) (a2 : Int) (w : World) (w0 : Row w a0 cap0 l0) (n0 : a0 = none → cap0 = 0) (w1 : RowI w a1 cap1 l1) (n1 : ∀ z ∈ l1, -9223372036854775808 ≤ z ∧ z ≤ 9223372036854775807) (w2 : -9223372036854775808 ≤ a2 ∧ a2 ≤ 9223372036854775807) :
    Calls Try.prog 4 #[.slice a0 l0.length cap0, .slice a1 l1.length cap1, .int .i64 a2] w fun e w' => e = .returned (.bool true) ∧ Below w.heap.size w w' := by
  have HR : Hid (Row w a0 cap0 l0) := w0
  have HN : Hid (a0 = none → cap0 = 0) := n0
  have HI : Hid (RowI w a1 cap1 l1) := w1
  have HW : Hid (∀ z ∈ l1, -9223372036854775808 ≤ z ∧ z ≤ 9223372036854775807) := n1
  clear w0 n0 w1 n1
  go_enter Try.func4, Try.ntmps4
  go_wp2_with fail
  refine (awake11 X w).mono ?_
  rintro x w1 ⟨rfl, hb1⟩
  have HB1 : Hid (Below w.heap.size w w1) := hb1
  have hlen0 : l0.length ≤ maxLen := Nat.le_trans HR.out.2.1 HR.out.2.2.1
  have hlen1 : l1.length ≤ maxLen := Nat.le_trans HI.out.1 HI.out.2.1
  unfold maxLen at hlen0 hlen1
  clear hb1
  by_cases hbig0 : 5000 < l0.length
  · go_wp2
    go_ret
    exact ⟨rfl, HB1.out⟩
  by_cases hbig1 : 100 < l1.length
  · go_wp2
    go_ret
    exact ⟨rfl, HB1.out⟩
  clear hlen0 hlen1
  have hl := X.cut a0 cap0 l0 a1 cap1 l1 w1 (HR.out.below HB1.out) HN.out (HI.out.below HB1.out) HW.out (by omega) (by omega)
  go_wp2_with fail
  refine hl.mono ?_
  clear hl
  rintro x w3 ⟨v3, rfl, hp3, hb3⟩
  have HB3 : Hid (Below w.heap.size w w3) := HB1.out.trans (hb3.mono HB1.out.size)
  have HP3 : Hid (PgL w1.heap.size w3 v3 (ctZ l0 l1)) := hp3
  have hr := rCut_any a0 cap0 l0 a1 cap1 l1 w3 (HR.out.below HB3.out) HN.out (HI.out.below HB3.out) (by omega)
  clear hb3 hp3
  obtain ⟨E, hE⟩ : ∃ E, ctE l0 l1 = E := ⟨_, rfl⟩
  have HE : Hid (ctE l0 l1 = E) := hE
  rw [hE]
  clear hE
  go_wp2_with fail
  refine hr.mono ?_
  clear hr
  rintro x w4 ⟨v4, rfl, hp4, hb4⟩
  rw [HE.out]
  have HB4 : Hid (Below w.heap.size w w4) := HB3.out.trans (hb4.mono HB3.out.size)
  have hpg := pages_any (HP3.out.below hb4) hp4 (ctZ_bys HR.out.1) (ctZ_bys HR.out.1)
  rw [show decide (ctZ l0 l1 = ctZ l0 l1) = true by simp] at hpg
  obtain ⟨nd, hnd⟩ : ∃ nd, nedI a2 = nd := ⟨_, rfl⟩
  have HND : Hid (nedI a2 = nd) := hnd
  clear hp4 hb4 hnd
  go_wp2_with (first | (go_at_call 12; refine hpg.mono ?_; clear hpg; rintro e w5 ⟨rfl, hb5⟩; have HB5 : Hid (Below w.heap.size w w5) := HB4.out.trans (hb5.mono HB4.out.size); clear hb5) | (go_at_call 10; refine (X.need a2 w5 w2).mono ?_; rintro e w6 ⟨rfl, hb6⟩; rw [HND.out]; have HB6 : Hid (Below w.heap.size w w6) := HB5.out.trans (hb6.mono HB5.out.size); clear hb6) | (go_at_call 13; refine (rNeed_any a2 w6 w2.1 w2.2).mono ?_; rintro e w7 ⟨rfl, rfl⟩; rw [HND.out]))
  go_ret
  exact ⟨rfl, HB6.out⟩

end Go.Proofs.Ytbamdcjhcmogbaa.chainCuts
