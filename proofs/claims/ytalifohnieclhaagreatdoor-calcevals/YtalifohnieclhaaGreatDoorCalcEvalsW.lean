/- The walk: Of any text: the value of the expression that it is, or what is wrong. -/
import Derived.Test.YtalifohnieclhaaGreatDoorRi2
import Derived.WalkKit
import Derived.ProofKit
import Derived.OpenShut
import Derived.ShutString
import Derived.ChangeOld
import Derived.Below
import Derived.LaidMore
import Derived.Lay
import Derived.SevenTiedAt
import Derived.Stop.Joined
namespace Go.Proofs.YtalifohnieclhaaGreatDoor.calcEvals
open Go.ChangeShapes Go.WideShapes Go.ChangeAt Go.RowKit
open Go.Proofs.YtalifohnieclhaaGreatDoor.Oct Go.Proofs.YtalifohnieclhaaGreatDoor.Fl
open Go.ChangeMaps (open_string shut_string)
set_option linter.unusedVariables false

theorem bits_of' {x V : Nat} (h : nb x = V) : ∀ w, Calls Tryz.prog 15 #[.float .f64 x] w fun e w' => e = .returned (.int .u64 (V : Nat)) ∧ w = w' := fun w => by
  have := bits_any x w
  rwa [h] at this
theorem rbits_of' {x V : Nat} (h : nb x = V) : ∀ w, Calls Tryz.prog 19 #[.float .f64 x] w fun e w' => e = .returned (.int .u64 (V : Nat)) ∧ w = w' := fun w => by
  have := refbits_any x w
  rwa [h] at this

set_option maxHeartbeats 4000000 in
set_option maxRecDepth 100000 in
theorem walk (a0 : ByteArray) (w : World) (w0 : a0.size ≤ maxLen) :
    Calls Tryz.prog 8 #[.string a0] w fun e w' => e = .returned (.bool true) ∧ Below w.heap.size w w' := by
  obtain ⟨l, hl⟩ : ∃ l, a0.data.toList = l := ⟨_, rfl⟩
  obtain rfl : a0 = ⟨l.toArray⟩ := ba_eq hl
  clear hl
  have hs := sz_mk l
  have h1 := fun w => eval_any (l.length + 1) l w (Nat.lt_succ_self _)
  by_cases hbig : 4200 < l.length
  · have hE : evE (l.length + 1) l = 3 := if_pos (by omega)
    rw [hE] at h1
    have hb' : (4200 : Int) < (l.length : Int) := by omega
    have H1 : Hid (∀ w, Calls Tryz.prog 22 #[.string ⟨l.toArray⟩] w fun e w' => ∃ x, e = .returned (.tuple #[.float .f64 x, .int .i64 (3 : Nat)]) ∧ x < 2 ^ 64 ∧ nb x = evV (l.length + 1) l ∧ Below w.heap.size w w') := h1
    clear h1
    generalize (⟨l.toArray⟩ : ByteArray) = s at *
    go_enter Tryz.func8, Tryz.ntmps8
    go_wp2_with fail
    refine (awake4 _).mono ?_
    rintro e w1 ⟨rfl, hb⟩
    have HB1 : Hid (Below w.heap.size w w1) := hb
    clear hb
    go_wp2_with fail
    refine (H1.out _).mono ?_
    rintro e w2 ⟨x, rfl, hx, hn, hb⟩
    have HB2 : Hid (Below w.heap.size w w2) := HB1.out.trans (hb.mono HB1.out.size)
    clear hx hn hb
    go_wp2
    go_ret
    exact ⟨rfl, HB2.out⟩
  · have h2 := fun w => reval_any (l.length + 1) l w (Nat.lt_succ_self _)
    have hb' : ¬ (4200 : Int) < (l.length : Int) := by omega
    generalize evE (l.length + 1) l = E at *
    generalize evV (l.length + 1) l = V at *
    generalize (⟨l.toArray⟩ : ByteArray) = s at *
    have H1 : Hid (∀ w, Calls Tryz.prog 22 #[.string s] w fun e w' => ∃ x, e = .returned (.tuple #[.float .f64 x, .int .i64 (E : Nat)]) ∧ x < 2 ^ 64 ∧ nb x = V ∧ Below w.heap.size w w') := h1
    have H2 : Hid (∀ w, Calls Tryz.prog 23 #[.string s] w fun e w' => ∃ x, e = .returned (.tuple #[.float .f64 x, .int .i64 (E : Nat)]) ∧ x < 2 ^ 64 ∧ nb x = V ∧ Below w.heap.size w w') := h2
    clear h1 h2
    go_enter Tryz.func8, Tryz.ntmps8
    go_wp2_with fail
    refine (awake4 _).mono ?_
    rintro e w1 ⟨rfl, hb⟩
    have HB1 : Hid (Below w.heap.size w w1) := hb
    clear hb
    go_wp2_with fail
    refine (H1.out _).mono ?_
    rintro e w2 ⟨x, rfl, hx, hn, hb⟩
    have HB2 : Hid (Below w.heap.size w w2) := HB1.out.trans (hb.mono HB1.out.size)
    have b1 := bits_of' hn
    clear hx hn hb
    go_wp2_with fail
    refine (H2.out _).mono ?_
    rintro e w3 ⟨y, rfl, hx, hn, hb⟩
    have HB3 : Hid (Below w.heap.size w w3) := HB2.out.trans (hb.mono HB2.out.size)
    have b2 := rbits_of' hn
    clear hx hn hb
    go_wp2_with fail
    refine (b1 _).mono ?_
    rintro e w' ⟨rfl, rfl⟩
    go_wp2_with fail
    refine (b2 _).mono ?_
    rintro e w' ⟨rfl, rfl⟩
    go_wp2
    go_ret
    exact ⟨rfl, HB3.out⟩

end Go.Proofs.YtalifohnieclhaaGreatDoor.calcEvals
