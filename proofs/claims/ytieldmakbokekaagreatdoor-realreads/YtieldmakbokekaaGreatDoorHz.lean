/-
  FormatUint at base 16, whole; Frexp.
-/
import Derived.Test.YtieldmakbokekaaGreatDoorHy
import Derived.Test.YtieldmakbokekaaGreatDoorCr
namespace Go.Proofs.YtieldmakbokekaaGreatDoor.Oct
open Go.RowKit
open Go.Proofs.YtieldmakbokekaaGreatDoor.Fl

theorem ifu16 (u : Nat) (w : World) (h0 : 4503599627370496 ≤ u) (h1 : u < 9007199254740992) (ht : Tz w) :
    Calls Tryz.prog 60 #[.int .u64 u, .int .i64 16] w fun e w' => e = .returned (.string ⟨(hx14 u).toArray⟩) ∧ Below w.heap.size w w' := by
  have HT : Hid (Tz w) := ht
  have HU : Hid (4503599627370496 ≤ u ∧ u < 9007199254740992) := ⟨h0, h1⟩
  clear ht h0 h1
  go_enter Tryz.func60, Tryz.ntmps60
  go_wp2_with fail
  refine (fb16 u _ HU.out.1 HU.out.2 HT.out).mono ?_
  rintro e w' ⟨rfl, hb⟩
  have HB : Hid (Below w.heap.size w w') := hb
  clear hb
  go_wp2_with fail
  go_ret
  exact ⟨rfl, HB.out⟩

theorem fu16 (u : Nat) (w : World) (h0 : 4503599627370496 ≤ u) (h1 : u < 9007199254740992) (ht : Tz w) :
    Calls Tryz.prog 39 #[.int .u64 u, .int .i64 16] w fun e w' => e = .returned (.string ⟨(hx14 u).toArray⟩) ∧ Below w.heap.size w w' := by
  have HT : Hid (Tz w) := ht
  have HU : Hid (4503599627370496 ≤ u ∧ u < 9007199254740992) := ⟨h0, h1⟩
  clear ht h0 h1
  go_enter Tryz.func39, Tryz.ntmps39
  go_wp2_with fail
  refine (ifu16 u _ HU.out.1 HU.out.2 HT.out).mono ?_
  rintro e w' ⟨rfl, hb⟩
  have HB : Hid (Below w.heap.size w w') := hb
  clear hb
  go_wp2_with fail
  go_ret
  exact ⟨rfl, HB.out⟩

end Go.Proofs.YtieldmakbokekaaGreatDoor.Oct
