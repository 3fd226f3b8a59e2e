/- The walk: The chapter's examples. -/
import Derived.Test.YtdmahobldghojaaSj
import Derived.WalkKit
import Derived.ProofKit
import Derived.OpenShut
import Derived.ShutString
import Derived.ChangeOld
import Derived.Below
namespace Go.Proofs.Ytdmahobldghojaa.spaceKnown
open Go.ChangeShapes Go.WideShapes Go.ChangeAt Go.RowKit
open Go.Proofs.Ytdmahobldghojaa.Oct
set_option linter.unusedVariables false


set_option maxHeartbeats 4000000 in
set_option maxRecDepth 100000 in
theorem walk {Sp : World → Nat → (Nat → Prop) → List Int → Prop} (X : SpC Sp)  (w : World)  :
    Calls Try.prog 3 #[] w fun e w' => e = .returned (.bool true) ∧ Below w.heap.size w w' := by
  go_enter Try.func3, Try.ntmps3
  go_wp2_with fail
  refine (awake10 X w).mono ?_
  rintro x w0 ⟨rfl, hb0⟩
  have HB0 : Hid (Below w.heap.size w w0) := hb0
  have hn := X.new_yes 10 w0 (by omega) (by omega)
  rw [show ((10 : Nat) : Int) = 10 from rfl, show newS 10 = [1, 1, 0, 0, 0, 0, 0, 0, 0, 0] by decide] at hn
  clear hb0
  go_wp2_with fail
  refine hn.mono ?_
  clear hn
  rintro x w1 ⟨s, F1, rfl, h1, hb1, hF1⟩
  have HP1 : Hid (Ls Sp w w1 s F1 [1, 1, 0, 0, 0, 0, 0, 0, 0, 0]) := ⟨h1, fun k hk => Nat.le_trans HB0.out.size (hF1 k hk), HB0.out.trans (hb1.mono HB0.out.size)⟩
  clear h1 hb1 hF1 HB0
  have hu := X.alloc HP1.out.a
  rw [show alN [1, 1, 0, 0, 0, 0, 0, 0, 0, 0] = 2 by decide, show alE [1, 1, 0, 0, 0, 0, 0, 0, 0, 0] = 0 by decide, show alL [1, 1, 0, 0, 0, 0, 0, 0, 0, 0] = [1, 1, 2, 0, 0, 0, 0, 0, 0, 0] by decide] at hu
  go_wp2_with fail
  refine hu.mono ?_
  clear hu
  rintro x w2 ⟨rfl, F2, h2, st2⟩
  have HP2 : Hid (Ls Sp w w2 s F2 [1, 1, 2, 0, 0, 0, 0, 0, 0, 0]) := HP1.out.step h2 st2
  clear h2 st2 HP1
  have hu := X.alloc HP2.out.a
  rw [show alN [1, 1, 2, 0, 0, 0, 0, 0, 0, 0] = 3 by decide, show alE [1, 1, 2, 0, 0, 0, 0, 0, 0, 0] = 0 by decide, show alL [1, 1, 2, 0, 0, 0, 0, 0, 0, 0] = [1, 1, 2, 2, 0, 0, 0, 0, 0, 0] by decide] at hu
  go_wp2_with fail
  refine hu.mono ?_
  clear hu
  rintro x w3 ⟨rfl, F3, h3, st3⟩
  have HP3 : Hid (Ls Sp w w3 s F3 [1, 1, 2, 2, 0, 0, 0, 0, 0, 0]) := HP2.out.step h3 st3
  clear h3 st3 HP2
  have hu := X.give HP3.out.a 2 (by omega)
  rw [show gvE [1, 1, 2, 2, 0, 0, 0, 0, 0, 0] 2 = 0 by decide, show gvL [1, 1, 2, 2, 0, 0, 0, 0, 0, 0] 2 = [1, 1, 0, 2, 0, 0, 0, 0, 0, 0] by decide] at hu
  go_wp2_with fail
  refine hu.mono ?_
  clear hu
  rintro x w4 ⟨rfl, F4, h4, st4⟩
  have HP4 : Hid (Ls Sp w w4 s F4 [1, 1, 0, 2, 0, 0, 0, 0, 0, 0]) := HP3.out.step h4 st4
  clear h4 st4 HP3
  have hu := X.alloc HP4.out.a
  rw [show alN [1, 1, 0, 2, 0, 0, 0, 0, 0, 0] = 2 by decide, show alE [1, 1, 0, 2, 0, 0, 0, 0, 0, 0] = 0 by decide, show alL [1, 1, 0, 2, 0, 0, 0, 0, 0, 0] = [1, 1, 2, 2, 0, 0, 0, 0, 0, 0] by decide] at hu
  go_wp2_with fail
  refine hu.mono ?_
  clear hu
  rintro x w5 ⟨rfl, F5, h5, st5⟩
  have HP5 : Hid (Ls Sp w w5 s F5 [1, 1, 2, 2, 0, 0, 0, 0, 0, 0]) := HP4.out.step h5 st5
  clear h5 st5 HP4
  have hu := X.commit HP5.out.a
  rw [show trS 1 0 [1, 1, 2, 2, 0, 0, 0, 0, 0, 0] = [1, 1, 1, 1, 0, 0, 0, 0, 0, 0] by decide] at hu
  go_wp2_with fail
  refine hu.mono ?_
  clear hu
  rintro x w6 ⟨rfl, F6, h6, st6⟩
  have HP6 : Hid (Ls Sp w w6 s F6 [1, 1, 1, 1, 0, 0, 0, 0, 0, 0]) := HP5.out.step h6 st6
  clear h6 st6 HP5
  have hu := X.give HP6.out.a 3 (by omega)
  rw [show gvE [1, 1, 1, 1, 0, 0, 0, 0, 0, 0] 3 = 0 by decide, show gvL [1, 1, 1, 1, 0, 0, 0, 0, 0, 0] 3 = [1, 1, 1, 3, 0, 0, 0, 0, 0, 0] by decide] at hu
  go_wp2_with fail
  refine hu.mono ?_
  clear hu
  rintro x w7 ⟨rfl, F7, h7, st7⟩
  have HP7 : Hid (Ls Sp w w7 s F7 [1, 1, 1, 3, 0, 0, 0, 0, 0, 0]) := HP6.out.step h7 st7
  clear h7 st7 HP6
  have hu := X.alloc HP7.out.a
  rw [show alN [1, 1, 1, 3, 0, 0, 0, 0, 0, 0] = 4 by decide, show alE [1, 1, 1, 3, 0, 0, 0, 0, 0, 0] = 0 by decide, show alL [1, 1, 1, 3, 0, 0, 0, 0, 0, 0] = [1, 1, 1, 3, 2, 0, 0, 0, 0, 0] by decide] at hu
  go_wp2_with fail
  refine hu.mono ?_
  clear hu
  rintro x w8 ⟨rfl, F8, h8, st8⟩
  have HP8 : Hid (Ls Sp w w8 s F8 [1, 1, 1, 3, 2, 0, 0, 0, 0, 0]) := HP7.out.step h8 st8
  clear h8 st8 HP7
  have hu := X.free HP8.out.a
  rw [show ([1, 1, 1, 3, 2, 0, 0, 0, 0, 0] : List Int).count 0 = 5 by decide, show ((5 : Nat) : Int) = 5 from rfl] at hu
  go_wp2_with fail
  refine hu.mono ?_
  clear hu
  rintro x w9 ⟨rfl, hb9⟩
  have HP9 : Hid (Ls Sp w w9 s F8 [1, 1, 1, 3, 2, 0, 0, 0, 0, 0]) := HP8.out.below X hb9
  clear hb9 HP8
  have hu := X.give HP9.out.a 3 (by omega)
  rw [show gvE [1, 1, 1, 3, 2, 0, 0, 0, 0, 0] 3 = 10 by decide, show gvL [1, 1, 1, 3, 2, 0, 0, 0, 0, 0] 3 = [1, 1, 1, 3, 2, 0, 0, 0, 0, 0] by decide] at hu
  go_wp2_with fail
  refine hu.mono ?_
  clear hu
  rintro x w10 ⟨rfl, F10, h10, st10⟩
  have HP10 : Hid (Ls Sp w w10 s F10 [1, 1, 1, 3, 2, 0, 0, 0, 0, 0]) := HP9.out.step h10 st10
  clear h10 st10 HP9
  have hu := X.give HP10.out.a 0 (by omega)
  rw [show gvE [1, 1, 1, 3, 2, 0, 0, 0, 0, 0] 0 = 1 by decide, show gvL [1, 1, 1, 3, 2, 0, 0, 0, 0, 0] 0 = [1, 1, 1, 3, 2, 0, 0, 0, 0, 0] by decide] at hu
  go_wp2_with fail
  refine hu.mono ?_
  clear hu
  rintro x w11 ⟨rfl, F11, h11, st11⟩
  have HP11 : Hid (Ls Sp w w11 s F11 [1, 1, 1, 3, 2, 0, 0, 0, 0, 0]) := HP10.out.step h11 st11
  clear h11 st11 HP10
  have hu := X.commit HP11.out.a
  rw [show trS 1 0 [1, 1, 1, 3, 2, 0, 0, 0, 0, 0] = [1, 1, 1, 0, 1, 0, 0, 0, 0, 0] by decide] at hu
  go_wp2_with fail
  refine hu.mono ?_
  clear hu
  rintro x w12 ⟨rfl, F12, h12, st12⟩
  have HP12 : Hid (Ls Sp w w12 s F12 [1, 1, 1, 0, 1, 0, 0, 0, 0, 0]) := HP11.out.step h12 st12
  clear h12 st12 HP11
  have hu := X.alloc HP12.out.a
  rw [show alN [1, 1, 1, 0, 1, 0, 0, 0, 0, 0] = 3 by decide, show alE [1, 1, 1, 0, 1, 0, 0, 0, 0, 0] = 0 by decide, show alL [1, 1, 1, 0, 1, 0, 0, 0, 0, 0] = [1, 1, 1, 2, 1, 0, 0, 0, 0, 0] by decide] at hu
  go_wp2_with fail
  refine hu.mono ?_
  clear hu
  rintro x w13 ⟨rfl, F13, h13, st13⟩
  have HP13 : Hid (Ls Sp w w13 s F13 [1, 1, 1, 2, 1, 0, 0, 0, 0, 0]) := HP12.out.step h13 st13
  clear h13 st13 HP12
  go_wp2
  go_ret
  exact ⟨rfl, HP13.out.bel⟩

end Go.Proofs.Ytdmahobldghojaa.spaceKnown
