/-
  real.Read of any text that is not in the form with 0x.
-/
import Derived.Test.YtieldmakbokekaaGreatDoorRd
import Derived.Test.YtieldmakbokekaaGreatDoorPa
namespace Go.Proofs.YtieldmakbokekaaGreatDoor.Oct
open Go.RowKit
open Go.Proofs.YtieldmakbokekaaGreatDoor.Fl

theorem nan_any (w : World) : Calls Tryz.prog 20 #[] w fun e w' => e = .returned (.float .f64 9221120237041090561) ∧ w = w' := by
  have hg := fun n => run_f64from n w
  go_enter Tryz.func20, Tryz.ntmps20
  go_wp2
  go_ret
  exact ⟨rfl, rfl⟩

theorem inf_any (w : World) : Calls Tryz.prog 21 #[.int .i64 1] w fun e w' => e = .returned (.float .f64 9218868437227405312) ∧ w = w' := by
  have hg := fun n => run_f64from n w
  go_enter Tryz.func21, Tryz.ntmps21
  go_wp2
  go_ret
  exact ⟨rfl, rfl⟩

theorem minf_any (w : World) : Calls Tryz.prog 21 #[.int .i64 (-1)] w fun e w' => e = .returned (.float .f64 18442240474082181120) ∧ w = w' := by
  have hg := fun n => run_f64from n w
  go_enter Tryz.func21, Tryz.ntmps21
  go_wp2
  go_ret
  exact ⟨rfl, rfl⟩

theorem read_nan_word (w : World) : Calls Tryz.prog 7 #[.string ⟨#[110, 97, 110]⟩] w fun e w' => e = .returned (.tuple #[.float .f64 9221120237041090561, .bool true]) ∧ w = w' := by
  go_enter Tryz.func7, Tryz.ntmps7
  go_wp2_with (go_at_call 20; refine (nan_any _).mono ?_; rintro e w' ⟨rfl, rfl⟩)
  go_ret2
  exact ⟨rfl, rfl⟩

theorem read_inf_word (w : World) : Calls Tryz.prog 7 #[.string ⟨#[105, 110, 102]⟩] w fun e w' => e = .returned (.tuple #[.float .f64 9218868437227405312, .bool true]) ∧ w = w' := by
  go_enter Tryz.func7, Tryz.ntmps7
  go_wp2_with (go_at_call 21; refine (inf_any _).mono ?_; rintro e w' ⟨rfl, rfl⟩)
  go_ret2
  exact ⟨rfl, rfl⟩

theorem read_minf_word (w : World) : Calls Tryz.prog 7 #[.string ⟨#[45, 105, 110, 102]⟩] w fun e w' => e = .returned (.tuple #[.float .f64 18442240474082181120, .bool true]) ∧ w = w' := by
  go_enter Tryz.func7, Tryz.ntmps7
  go_wp2_with (go_at_call 21; refine (minf_any _).mono ?_; rintro e w' ⟨rfl, rfl⟩)
  go_ret2
  exact ⟨rfl, rfl⟩

set_option maxHeartbeats 2000000 in
theorem read_pos (l : List UInt8) (w : World) (h1 : l ≠ [110, 97, 110]) (h2 : l ≠ [105, 110, 102]) (hp : tk [45] l = false) (hx : tk [48, 120] l = false) (hs : l.length ≤ 2 ^ 61) :
    Calls Tryz.prog 7 #[.string ⟨l.toArray⟩] w fun e w' => (∃ r, e = .returned (.tuple #[.float .f64 r, .bool (dOk l)]) ∧ r < 2 ^ 64 ∧ (dOk l = true → nb r = dV l) ∧ (dOk l = false → r = 0)) ∧ Below w.heap.size w w' := by
  have h3 : l ≠ [45, 105, 110, 102] := fun h => by subst h; cases hp
  have e1 : ((⟨l.toArray⟩ : ByteArray).toList == [110, 97, 110]) = false := by rw [tl_mk]; simpa using h1
  have e2 : ((⟨l.toArray⟩ : ByteArray).toList == [105, 110, 102]) = false := by rw [tl_mk]; simpa using h2
  have e3 : ((⟨l.toArray⟩ : ByteArray).toList == [45, 105, 110, 102]) = false := by rw [tl_mk]; simpa using h3
  have hcp := cutp_no ⟨l.toArray⟩ w hp
  have hhx := hasx_no ⟨l.toArray⟩ w hx
  have hdec := decimal_any l w hs
  generalize (⟨l.toArray⟩ : ByteArray) = s at *
  generalize dOk l = ok at *
  clear h1 h2 h3 hp hx hs
  go_enter Tryz.func7, Tryz.ntmps7
  go_wp2_with fail
  refine hcp.mono ?_
  rintro e w1 ⟨rfl, rfl⟩
  go_wp2_with fail
  refine hhx.mono ?_
  rintro e w1 ⟨rfl, rfl⟩
  go_wp2_with fail
  refine hdec.mono ?_
  rintro e w1 ⟨⟨r, rfl, hr⟩, hb⟩
  have HR : Hid (r < 2 ^ 64 ∧ (ok = true → nb r = dV l) ∧ (ok = false → r = 0)) := hr
  have HB : Hid (Below w.heap.size w w1) := hb
  clear hr hb hcp hhx hdec
  go_wp2_with (go_at_call 25; refine (signed_no _ _).mono ?_; rintro e w2 ⟨rfl, rfl⟩)
  go_ret2
  exact ⟨⟨r, rfl, HR.out⟩, HB.out⟩

end Go.Proofs.YtieldmakbokekaaGreatDoor.Oct
