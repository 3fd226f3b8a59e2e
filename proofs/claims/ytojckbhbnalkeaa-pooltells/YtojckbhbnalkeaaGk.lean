/-
  device.op's deferred function: nothing, or the device dies.
-/
import Derived.Test.YtojckbhbnalkeaaGi
import Derived.Test.YtojckbhbnalkeaaGj
import Derived.Defers
import Derived.Recover
namespace Go.Proofs.Ytojckbhbnalkeaa.Oct
open Go.RowKit

theorem opc_idle (b : Nat) (w : World) :
    CallsD Try.prog 54 #[.pointer (some ⟨b, 0, none⟩), .pointer (some ⟨b + 1, 0, none⟩), .pointer (some ⟨b + 2, 0, none⟩), .pointer (some ⟨b + 3, 0, none⟩)] .returning w fun e u' w' => e = .returned (.tuple #[]) ∧ u' = .returning ∧ w' = w := by
  refine callsD_of_wpS Try.func54 rfl fun c₀ cs hu => ?_
  apply wpS_seq
  apply wpS_region
  simp [wpOpsS, go_sem, recoverD, hu, Try.ntmps54, Exit.thenS]
  refine wpS_cond (t := false) (by simp [Act.eval, Array.replicate]) ?_
  simp only [Bool.false_eq_true, if_false]
  refine wpS_of_wp (wp_skip ?_)
  cases c₀
  simp_all [bodyPostS, results, Try.results54]

set_option maxHeartbeats 1000000 in
theorem opc_w (b p q : Nat) (x y : Bool) (z : Int) (u : TypeId) (pv : Value) (older : List PanicEntry) (w : World) (R : World → Prop) (h0 : w.cell? ⟨b, 0, none⟩ = some (.pointer (some ⟨p, 0, none⟩))) (h1 : w.cell? ⟨b + 1, 0, none⟩ = some (.func (.func 63) #[.pointer (some ⟨q, 0, none⟩)] #[]))
    (h6 : w.cell? ⟨p, 6, none⟩ = some (.bool x)) (z6 : w.frozen? ⟨p, 6, none⟩ = false)
    (hdy : Calls Try.prog 63 #[.pointer (some ⟨q, 0, none⟩)] (w.setCell ⟨p, 6, none⟩ (.bool true)) fun e w' => e = .returned (.tuple #[]) ∧ R w')
    (hR : ∀ w', R w' → w'.cell? ⟨b + 2, 0, none⟩ = some (.bool y) ∧ w'.frozen? ⟨b + 2, 0, none⟩ = false ∧ w'.cell? ⟨b + 3, 0, none⟩ = some (.int .i64 z) ∧ w'.frozen? ⟨b + 3, 0, none⟩ = false) :
    CallsD Try.prog 54 #[.pointer (some ⟨b, 0, none⟩), .pointer (some ⟨b + 1, 0, none⟩), .pointer (some ⟨b + 2, 0, none⟩), .pointer (some ⟨b + 3, 0, none⟩)] (.panicking ({ v := .iface u pv, recovered := false } :: older)) w fun e u' w' =>
      e = .returned (.tuple #[]) ∧ u' = .panicking ({ v := .iface u pv, recovered := true } :: older) ∧ ∃ w2, R w2 ∧ w' = (w2.setCell ⟨b + 2, 0, none⟩ (.bool false)).setCell ⟨b + 3, 0, none⟩ (.int .i64 7) := by
  have k1 : (w.setCell ⟨p, 6, none⟩ (.bool true)).cell? ⟨b + 1, 0, none⟩ = some (.func (.func 63) #[.pointer (some ⟨q, 0, none⟩)] #[]) := (World.cell?_setCell_other _ _ _ _ (by simp)).trans h1
  refine callsD_of_wpS Try.func54 rfl fun c₀ cs hu => ?_
  apply wpS_seq
  apply wpS_region
  simp [wpOpsS, go_sem, recoverD, hu, Try.ntmps54, Exit.thenS]
  refine wpS_cond (t := true) (by simp [Act.eval, Array.replicate]) ?_
  simp only [if_true]
  refine wpS_of_wp ?_
  go_wp2_with fail
  refine hdy.mono ?_
  rintro e w2 ⟨rfl, hr⟩
  obtain ⟨r2, r2z, r3, r3z⟩ := hR w2 hr
  have HR : Hid (R w2) := hr
  have r3' : ∀ v : Value, (w2.setCell ⟨b + 2, 0, none⟩ v).cell? ⟨b + 3, 0, none⟩ = some (.int .i64 z) := fun v => (World.cell?_setCell_other _ _ _ _ (by simp)).trans r3
  clear hr hR hdy
  go_wp2
  simp [bodyPostS, results, Try.results54]
  exact ⟨w2, HR.out, rfl⟩

set_option maxHeartbeats 1000000 in
theorem opc_n (b p : Nat) (x y : Bool) (z : Int) (u : TypeId) (pv : Value) (older : List PanicEntry) (w : World) (R : World → Prop) (h0 : w.cell? ⟨b, 0, none⟩ = some (.pointer (some ⟨p, 0, none⟩))) (h1 : w.cell? ⟨b + 1, 0, none⟩ = some (.func (.func 35) #[] #[]))
    (h6 : w.cell? ⟨p, 6, none⟩ = some (.bool x)) (z6 : w.frozen? ⟨p, 6, none⟩ = false)
    (hdy : Calls Try.prog 35 #[] (w.setCell ⟨p, 6, none⟩ (.bool true)) fun e w' => e = .returned (.tuple #[]) ∧ R w')
    (hR : ∀ w', R w' → w'.cell? ⟨b + 2, 0, none⟩ = some (.bool y) ∧ w'.frozen? ⟨b + 2, 0, none⟩ = false ∧ w'.cell? ⟨b + 3, 0, none⟩ = some (.int .i64 z) ∧ w'.frozen? ⟨b + 3, 0, none⟩ = false) :
    CallsD Try.prog 54 #[.pointer (some ⟨b, 0, none⟩), .pointer (some ⟨b + 1, 0, none⟩), .pointer (some ⟨b + 2, 0, none⟩), .pointer (some ⟨b + 3, 0, none⟩)] (.panicking ({ v := .iface u pv, recovered := false } :: older)) w fun e u' w' =>
      e = .returned (.tuple #[]) ∧ u' = .panicking ({ v := .iface u pv, recovered := true } :: older) ∧ ∃ w2, R w2 ∧ w' = (w2.setCell ⟨b + 2, 0, none⟩ (.bool false)).setCell ⟨b + 3, 0, none⟩ (.int .i64 7) := by
  have k1 : (w.setCell ⟨p, 6, none⟩ (.bool true)).cell? ⟨b + 1, 0, none⟩ = some (.func (.func 35) #[] #[]) := (World.cell?_setCell_other _ _ _ _ (by simp)).trans h1
  refine callsD_of_wpS Try.func54 rfl fun c₀ cs hu => ?_
  apply wpS_seq
  apply wpS_region
  simp [wpOpsS, go_sem, recoverD, hu, Try.ntmps54, Exit.thenS]
  refine wpS_cond (t := true) (by simp [Act.eval, Array.replicate]) ?_
  simp only [if_true]
  refine wpS_of_wp ?_
  go_wp2_with fail
  refine hdy.mono ?_
  rintro e w2 ⟨rfl, hr⟩
  obtain ⟨r2, r2z, r3, r3z⟩ := hR w2 hr
  have HR : Hid (R w2) := hr
  have r3' : ∀ v : Value, (w2.setCell ⟨b + 2, 0, none⟩ v).cell? ⟨b + 3, 0, none⟩ = some (.int .i64 z) := fun v => (World.cell?_setCell_other _ _ _ _ (by simp)).trans r3
  clear hr hR hdy
  go_wp2
  simp [bodyPostS, results, Try.results54]
  exact ⟨w2, HR.out, rfl⟩
end Go.Proofs.Ytojckbhbnalkeaa.Oct
