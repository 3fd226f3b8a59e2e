/- The walk: The chapter's examples. -/
import Derived.Test.YtbamdcjhcmogbaaKi
import Derived.WalkKit
import Derived.ProofKit
import Derived.OpenShut
import Derived.ShutString
import Derived.ChangeOld
import Derived.Below
namespace Go.Proofs.Ytbamdcjhcmogbaa.chainKnown
open Go.ChangeShapes Go.WideShapes Go.ChangeAt Go.RowKit
open Go.Proofs.Ytbamdcjhcmogbaa.Oct
set_option linter.unusedVariables false

theorem row1 (w : World) : Row (w.alloc (.cells #[.int .u8 1] 5)) (some ⟨w.heap.size, 0, none⟩) 1 [1] := row_new w [1] 5 (fun z hz => by simp at hz; omega) (by simp [maxLen])
theorem rowI0 (w : World) : RowI w none 0 [] := ⟨Nat.le_refl _, by simp [maxLen], .inl rfl⟩
set_option maxHeartbeats 4000000 in
set_option maxRecDepth 100000 in
theorem walk (X : ChC)  (w : World)  :
    Calls Try.prog 3 #[] w fun e w' => e = .returned (.bool true) ∧ Below w.heap.size w w' := by
  go_enter Try.func3, Try.ntmps3
  go_wp2_with fail
  refine (awake11 X w).mono ?_
  rintro x w1 ⟨rfl, hb1⟩
  have HB1 : Hid (Below w.heap.size w w1) := hb1
  have hc := X.cut (some ⟨w1.heap.size, 0, none⟩) 1 [1] none 0 [] _ (row1 w1) (by intro e; cases e) (rowI0 _) (by simp) (by simp) (by simp)
  rw [show ([1] : List Int).length = 1 from rfl, show ([] : List Int).length = 0 from rfl] at hc
  have HB2 : Hid (Below w.heap.size w (w1.alloc (.cells #[.int .u8 1] 5))) := HB1.out.alloc HB1.out.size _
  clear hb1
  go_wp2_with fail
  refine hc.mono ?_
  clear hc
  rintro e w3 ⟨v3, rfl, -, hb3⟩
  rw [show ctE [1] [] = 1 by decide]
  have HB3 : Hid (Below w.heap.size w w3) := HB2.out.trans (hb3.mono HB2.out.size)
  have hc := X.cut none 0 [] none 0 [] w3 (row0 w3) (fun _ => rfl) (rowI0 _) (by simp) (by simp) (by simp)
  rw [show ([] : List Int).length = 0 from rfl] at hc
  clear hb3
  go_wp2_with fail
  refine hc.mono ?_
  clear hc
  rintro e w4 ⟨v4, rfl, hp4, hb4⟩
  rw [show ctE [] [] = 0 by decide]
  have HB4 : Hid (Below w.heap.size w w4) := HB3.out.trans (hb4.mono HB3.out.size)
  obtain ⟨va, vc, hv, -, -⟩ := hp4.slice
  rw [show (ctZ [] []).length = 0 by decide] at hv
  subst hv
  clear hp4 hb4
  have n0 := X.need 0
  have n1 := X.need 244
  have n2 := X.need 245
  have n3 := X.need (-5)
  rw [show nedI 0 = 0 by decide] at n0
  rw [show nedI 244 = 1 by decide] at n1
  rw [show nedI 245 = 2 by decide] at n2
  rw [show nedI (-5) = 0 by decide] at n3
  have N0 : Hid _ := n0
  have N1 : Hid _ := n1
  have N2 : Hid _ := n2
  have N3 : Hid _ := n3
  clear n0 n1 n2 n3
  go_wp2_with (go_at_call 10; first | (have _t := N0; refine (N0.out w4 (by omega)).mono ?_; rintro e w5 ⟨rfl, hb5⟩; have HB5 : Hid (Below w.heap.size w w5) := HB4.out.trans (hb5.mono HB4.out.size); clear hb5 N0) | (refine (N1.out w5 (by omega)).mono ?_; rintro e w6 ⟨rfl, hb6⟩; have HB6 : Hid (Below w.heap.size w w6) := HB5.out.trans (hb6.mono HB5.out.size); clear hb6 N1) | (refine (N2.out w6 (by omega)).mono ?_; rintro e w7 ⟨rfl, hb7⟩; have HB7 : Hid (Below w.heap.size w w7) := HB6.out.trans (hb7.mono HB6.out.size); clear hb7 N2) | (refine (N3.out w7 (by omega)).mono ?_; rintro e w8 ⟨rfl, hb8⟩; have HB8 : Hid (Below w.heap.size w w8) := HB7.out.trans (hb8.mono HB7.out.size); clear hb8 N3))
  go_ret
  exact ⟨rfl, HB8.out⟩

end Go.Proofs.Ytbamdcjhcmogbaa.chainKnown
