/- The walk: Any text is read as the document says: the number that it is, or that it is none. -/
import Derived.Test.YtieldmakbokekaaGreatDoorRows
import Derived.Test.YtieldmakbokekaaGreatDoorXl
import Derived.Test.YtieldmakbokekaaGreatDoorAk3
import Derived.WalkKit
import Derived.ProofKit
import Derived.OpenShut
import Derived.ShutString
import Derived.ChangeOld
import Derived.Below
import Derived.LaidMore
import Derived.Lay
import Derived.SevenTiedAt
import Derived.Stop.Joined
namespace Go.Proofs.YtieldmakbokekaaGreatDoor.realReads
open Go.ChangeShapes Go.WideShapes Go.ChangeAt Go.RowKit
open Go.Proofs.YtieldmakbokekaaGreatDoor.Oct Go.Proofs.YtieldmakbokekaaGreatDoor.Fl
open Go.ChangeMaps (open_string shut_string)
set_option linter.unusedVariables false

theorem refbits_any (a : Nat) (w : World) : Calls Tryz.prog 11 #[.float .f64 a] w fun e w' => e = .returned (.int .u64 (nb a : Nat)) ∧ w = w' := by
  have hf := run_f64bits a w
  have hs := ne_self a
  by_cases hn : Nan a
  · rw [decide_eq_true hn] at hs
    rw [nb_nan hn]
    go_enter Tryz.func11, Tryz.ntmps11
    go_wp2
    go_ret
    exact ⟨rfl, rfl⟩
  · rw [decide_eq_false hn] at hs
    rw [nb_num hn]
    go_enter Tryz.func11, Tryz.ntmps11
    go_wp2
    go_ret
    exact ⟨rfl, rfl⟩
set_option maxHeartbeats 4000000 in
set_option maxRecDepth 100000 in
theorem walk (a0 : ByteArray) (w : World) (w0 : a0.size ≤ 140737488355328) (hL : laidMetH Tryz.prog Rows.realReadsRow.laid w) :
    Calls Tryz.prog 4 #[.string a0] w fun e w' => e = .returned (.bool true) ∧ Below w.heap.size w w' := by
  obtain ⟨hT, hZ, hF⟩ := reads_laid hL
  obtain ⟨hE, hO⟩ := reads_laid2 hL
  have hAl : Al w w := ⟨hT, hZ, hF, hE, hO, Below.refl _ w⟩
  have HA0 : Hid (Al w w) := hAl
  have hsz : (a0.size : Int) ≤ 140737488355328 := by omega
  obtain ⟨N, ok, B1, B2, B3⟩ := both_any a0 hsz w hAl
  have HB1 : Hid _ := B1
  have HB2 : Hid _ := B2
  have HB3 : Hid _ := B3
  clear hT hZ hF hE hO hL hAl B1 B2 B3 w0
  by_cases hlt : 5000 < a0.size
  case pos =>
    have hlt' : (5000 : Int) < (a0.size : Int) := by omega
    have hok := HB3.out hlt
    subst hok
    clear hlt HB2 HB3
    go_enter Tryz.func4, Tryz.ntmps4
    go_wp2_with fail
    refine (awake_any _).mono ?_
    rintro e w1 ⟨rfl, hw1⟩
    have HA1 : Hid (Al w w1) := hw1 ▸ HA0.out.below (drew_below w)
    clear hw1 HA0
    go_wp2_with fail
    refine (HB1.out _ HA1.out).mono ?_
    rintro e w2 ⟨⟨r, rfl, hr⟩, hb⟩
    have HA2 : Hid (Al w w2) := HA1.out.below hb
    clear hb hr HA1
    go_wp2
    go_ret
    exact ⟨rfl, HA2.out.2.2.2.2.2⟩
  case neg =>
    have hlt' : (a0.size : Int) ≤ 5000 := by omega
    have HC : Hid _ := HB2.out (by omega)
    clear hlt HB2 HB3
    go_enter Tryz.func4, Tryz.ntmps4
    go_wp2_with fail
    refine (awake_any _).mono ?_
    rintro e w1 ⟨rfl, hw1⟩
    have HA1 : Hid (Al w w1) := hw1 ▸ HA0.out.below (drew_below w)
    clear hw1 HA0
    go_wp2_with fail
    refine (HB1.out _ HA1.out).mono ?_
    rintro e w2 ⟨⟨r, rfl, hr⟩, hb⟩
    have HA2 : Hid (Al w w2) := HA1.out.below hb
    clear hb HA1
    go_wp2_with fail
    refine (HC.out _).mono ?_
    rintro e w3 ⟨⟨y, rfl, hy⟩, hb⟩
    have HA3 : Hid (Al w w3) := HA2.out.below hb
    clear hb HA2 HB1 HC
    have c1 := fun v => bits_any r v
    have c2 := fun v => refbits_any y v
    rw [hr] at c1
    rw [hy] at c2
    clear hr hy
    cases ok
    · go_wp2_with fail
      refine (c1 _).mono ?_
      rintro e w4 ⟨rfl, rfl⟩
      go_wp2_with fail
      refine (c2 _).mono ?_
      rintro e w4 ⟨rfl, rfl⟩
      go_wp2
      go_ret
      exact ⟨rfl, HA3.out.2.2.2.2.2⟩
    · go_wp2_with fail
      refine (c1 _).mono ?_
      rintro e w4 ⟨rfl, rfl⟩
      go_wp2_with fail
      refine (c2 _).mono ?_
      rintro e w4 ⟨rfl, rfl⟩
      go_wp2
      go_ret
      exact ⟨rfl, HA3.out.2.2.2.2.2⟩

end Go.Proofs.YtieldmakbokekaaGreatDoor.realReads
