/- The walk: Chapter 3's examples. -/
import Derived.Test.YtlccfpojlmmdaaaGreatDoorRows
import Derived.Test.YtlccfpojlmmdaaaGreatDoorRk
import Derived.WalkKit
import Derived.ProofKit
import Derived.OpenShut
import Derived.ShutString
import Derived.ChangeOld
import Derived.Below
import Derived.LaidMore
import Derived.Lay
import Derived.SevenTiedAt
import Derived.Stop.Joined
namespace Go.Proofs.YtlccfpojlmmdaaaGreatDoor.realKnown
open Go.ChangeShapes Go.WideShapes Go.ChangeAt Go.RowKit
open Go.Proofs.YtlccfpojlmmdaaaGreatDoor.Oct Go.Proofs.YtlccfpojlmmdaaaGreatDoor.Fl
open Go.ChangeMaps (open_string shut_string)
set_option linter.unusedVariables false

/-- What is kept. -/
def Al (v w : World) : Prop := Tab w ∧ Tz w ∧ Fi w ∧ Below v.heap.size v w

theorem Al.below {v w w' : World} (h : Al v w) (hb : Below w.heap.size w w') : Al v w' := ⟨h.1.below hb, h.2.1.below hb, h.2.2.1.below hb, h.2.2.2.trans (hb.mono h.2.2.2.size)⟩

theorem drew_below (w : World) : Below w.heap.size w w.drew := ⟨rfl, rfl, rfl, Nat.le_refl _, fun _ _ => rfl⟩

set_option maxHeartbeats 4000000 in
set_option maxRecDepth 100000 in
theorem walk  (w : World)  (hL : laidMetH Tryz.prog Rows.realKnownRow.laid w) :
    Calls Tryz.prog 3 #[] w fun e w' => e = .returned (.bool true) ∧ Below w.heap.size w w' := by
  obtain ⟨hT, hZ, hF⟩ := known_laid hL
  have HA0 : Hid (Al w w) := ⟨hT, hZ, hF, Below.refl _ w⟩
  clear hT hZ hF hL
  go_enter Tryz.func3, Tryz.ntmps3
  go_wp2_with fail
  refine (awake_any _).mono ?_
  rintro e w1 ⟨rfl, hw1⟩
  have HA1 : Hid (Al w w1) := hw1 ▸ HA0.out.below (drew_below w)
  clear hw1 HA0
  obtain ⟨r, hn, hr, hq⟩ := zero_by_zero w1
  have HA2 : Hid (Al w w1.drew) := HA1.out.below (drew_below w1)
  have HN : Hid (Nan r ∧ r < 2 ^ 64) := ⟨hn, hr⟩
  clear hn hr HA1
  generalize hw2 : w1.drew = w2 at hq HA2
  clear hw2
  go_wp2_with fail
  refine (read35 _).mono ?_
  rintro e w3 ⟨rfl, hb⟩
  have HA3 : Hid (Al w w3) := HA2.out.below hb
  clear hb HA2 hq
  go_wp2_with fail
  refine (read03 _).mono ?_
  rintro e w4 ⟨rfl, hb⟩
  have HA4 : Hid (Al w w4) := HA3.out.below hb
  clear hb HA3
  go_wp2_with fail
  refine (readA _ HA4.out.2.2.1).mono ?_
  rintro e w5 ⟨rfl, hb⟩
  have HA5 : Hid (Al w w5) := HA4.out.below hb
  clear hb HA4
  go_wp2_with fail
  refine (readB _ HA5.out.2.2.1).mono ?_
  rintro e w6 ⟨rfl, hb⟩
  have HA6 : Hid (Al w w6) := HA5.out.below hb
  clear hb HA5
  go_wp2_with fail
  refine (read00 _).mono ?_
  rintro e w7 ⟨rfl, hb⟩
  have HA7 : Hid (Al w w7) := HA6.out.below hb
  clear hb HA6
  go_wp2_with fail
  refine (place_half _).mono ?_
  rintro e w' ⟨rfl, rfl⟩
  have hm := minus_by_zero w7
  go_wp2_with fail
  refine (place_mi _).mono ?_
  rintro e w' ⟨rfl, rfl⟩
  clear hm
  go_wp2_with fail
  refine (place_nan r _ HN.out.2 HN.out.1).mono ?_
  rintro e w' ⟨rfl, rfl⟩
  have h1 := one_by_zero w7
  go_wp2_with fail
  refine (minus_is _).mono ?_
  rintro e w' ⟨rfl, rfl⟩
  go_wp2_with fail
  refine (comp_mz _).mono ?_
  rintro e w' ⟨rfl, rfl⟩
  go_wp2_with fail
  refine (comp_nan r _ HN.out.2 HN.out.1).mono ?_
  rintro e w' ⟨rfl, rfl⟩
  clear h1
  go_wp2_with fail
  refine (minus_is _).mono ?_
  rintro e w' ⟨rfl, rfl⟩
  go_wp2_with fail
  refine (show_mz _).mono ?_
  rintro e w8 ⟨rfl, hb⟩
  have HA8 : Hid (Al w w8) := HA7.out.below hb
  clear hb HA7
  go_wp2_with fail
  refine (show_half _ HA8.out.1 HA8.out.2.1).mono ?_
  rintro e w9 ⟨rfl, hb⟩
  have HA9 : Hid (Al w w9) := HA8.out.below hb
  clear hb HA8
  have o1 : (FloatKind.f64.format.order 4615063718147915776 4615063718147915776 == some .eq) = true := by decide +kernel
  have o2 : (FloatKind.f64.format.order 0 0 == some .eq) = true := by decide +kernel
  go_wp2_with fail
  refine (bits_mz _).mono ?_
  rintro e w' ⟨rfl, rfl⟩
  go_wp2_with fail
  refine (share00 _).mono ?_
  rintro e w10 ⟨r2, rfl, hn2, hb⟩
  have HA10 : Hid (Al w w10) := HA9.out.below hb
  have HN2 : Hid (Nan r2) := hn2
  clear hb HA9 hn2
  go_wp2_with fail
  refine (show_nan r2 _ HN2.out).mono ?_
  rintro e w' ⟨rfl, rfl⟩
  go_wp2_with fail
  refine (share10 _).mono ?_
  rintro e w11 ⟨rfl, hb⟩
  have HA11 : Hid (Al w w11) := HA10.out.below hb
  clear hb HA10
  go_wp2_with fail
  refine (show_pi _).mono ?_
  rintro e w' ⟨rfl, rfl⟩
  go_wp2
  go_ret
  exact ⟨rfl, HA11.out.2.2.2⟩

end Go.Proofs.YtlccfpojlmmdaaaGreatDoor.realKnown
