/-
  calc.Eval of any text.
-/
import Derived.Test.YtalifohnieclhaaGreatDoorCg
import Derived.Defers
import Derived.Recover
namespace Go.Proofs.YtalifohnieclhaaGreatDoor.Oct
open Go.RowKit
open Go.Proofs.YtalifohnieclhaaGreatDoor.Fl

@[go_sem] theorem run_store_flt {P : Program} {w : World} {a : Addr} {m : Mode} (k : FloatKind) (b : Nat) : (store a (.float k b) m).run P w = stored P w a (.float k b) m := run_store P w a _ m rfl

theorem ecatch_panicking (p q : Addr) (x : Nat) (y : Int) (u : TypeId) (pv : Value) (older : List PanicEntry) (w : World) (hp : w.cell? p = some (.float .f64 x)) (hpz : w.frozen? p = false) (hq : w.cell? q = some (.int .i64 y)) (hqz : w.frozen? q = false) (hpq : p.block ≠ q.block) :
    CallsD Tryz.prog 44 #[.pointer (some p), .pointer (some q)] (.panicking ({ v := .iface u pv, recovered := false } :: older)) w fun e u' w' =>
      e = .returned (.tuple #[]) ∧ u' = .panicking ({ v := .iface u pv, recovered := true } :: older) ∧ w' = (w.setCell p (.float .f64 0)).setCell q (.int .i64 11) := by
  have hq' : ∀ v : Value, (w.setCell p v).cell? q = some (.int .i64 y) := fun v => (World.cell?_setCell_other _ _ _ _ (fun e => hpq (by rw [e]))).trans hq
  refine callsD_of_wpS Tryz.func44 rfl fun c₀ cs hu => ?_
  apply wpS_seq
  apply wpS_region
  simp [wpOpsS, go_sem, recoverD, hu, Tryz.ntmps44, Exit.thenS]
  refine wpS_cond (t := true) (by simp [Act.eval, Array.replicate]) ?_
  simp only [if_true]
  apply wpS_region
  simp [wpOpsS, go_sem, hp, hpz, hq', hqz, bodyPostS, results, Tryz.results44]

theorem ecatch_idle (p q : Addr) (w : World) :
    CallsD Tryz.prog 44 #[.pointer (some p), .pointer (some q)] .returning w fun e u' w' => e = .returned (.tuple #[]) ∧ u' = .returning ∧ w' = w := by
  refine callsD_of_wpS Tryz.func44 rfl fun c₀ cs hu => ?_
  apply wpS_seq
  apply wpS_region
  simp [wpOpsS, go_sem, recoverD, hu, Tryz.ntmps44, Exit.thenS]
  refine wpS_cond (t := false) (by simp [Act.eval, Array.replicate]) ?_
  simp only [Bool.false_eq_true, if_false]
  refine wpS_of_wp (wp_skip ?_)
  cases c₀
  simp_all [bodyPostS, results, Tryz.results44]

/-- What Eval answers: an error, a value. -/
def evE (n : Nat) (l : List UInt8) : Nat := if 4096 < l.length then 3 else match pW n l with | none => 11 | some q => if 32 < q.2.2 then 3 else 0
def evV (n : Nat) (l : List UInt8) : Nat := if 4096 < l.length then 0 else match pW n l with | none => 0 | some q => if 32 < q.2.2 then 0 else q.1

theorem eval_long (n : Nat) (l : List UInt8) (w : World) (hl : 4096 < l.length) :
    Calls Tryz.prog 22 #[.string ⟨l.toArray⟩] w fun e w' => ∃ x, e = .returned (.tuple #[.float .f64 x, .int .i64 (evE n l : Nat)]) ∧ x < 2 ^ 64 ∧ nb x = evV n l ∧ Below w.heap.size w w' := by
  rw [show evE n l = 3 from if_pos hl, show evV n l = 0 from if_pos hl]
  have hs := sz_mk l
  have hl' : (4096 : Int) < (l.length : Int) := by omega
  generalize (⟨l.toArray⟩ : ByteArray) = s at *
  have HN : Hid (nb 0 = 0) := by unfold Hid; decide +kernel
  go_enter_defers Tryz.func22, Tryz.ntmps22
  go_wp2
  simp [bodyPostD, Leaves, results, Tryz.results22, go_sem]
  exact ⟨HN.out, ((Below.refl w.heap.size w).alloc (Nat.le_refl _) _).alloc (by simp) _⟩

set_option maxHeartbeats 2000000 in
theorem eval_short (n : Nat) (l : List UInt8) (w : World) (hl : l.length ≤ 4096) (hn : l.length < n) :
    Calls Tryz.prog 22 #[.string ⟨l.toArray⟩] w fun e w' => ∃ x, e = .returned (.tuple #[.float .f64 x, .int .i64 (evE n l : Nat)]) ∧ x < 2 ^ 64 ∧ nb x = evV n l ∧ Below w.heap.size w w' := by
  have hmf : ∀ (fn : Fn) (first cap : Array Value) (w : World), (Instr.makeFunc fn first cap).run Tryz.prog w = .ok (.func fn first cap) w := fun _ _ _ _ => rfl
  have hl' : ¬ (4096 : Int) < (l.length : Int) := by omega
  have hE : evE n l = match pW n l with | none => 11 | some q => if 32 < q.2.2 then 3 else 0 := if_neg (by omega)
  have hV : evV n l = match pW n l with | none => 0 | some q => if 32 < q.2.2 then 0 else q.1 := if_neg (by omega)
  have hw : Hid (∀ W, Rs W (w.heap.size + 2) l 0 0 → Calls Tryz.prog 45 #[.pointer (some ⟨w.heap.size + 2, 0, none⟩)] W (Ends (w.heap.size + 2) (pW n l) 0 0 W)) := fun W hW => whole_any n W _ l hW hn (by omega)
  have HE : Hid (evE n l = match pW n l with | none => 11 | some q => if 32 < q.2.2 then 3 else 0) := hE
  have HV : Hid (evV n l = match pW n l with | none => 0 | some q => if 32 < q.2.2 then 0 else q.1) := hV
  have hs := sz_mk l
  clear hE hV hl hn
  go_enter_defers Tryz.func22, Tryz.ntmps22
  go_wp2_with fail
  refine (hw.out _ ?_).mono ?_
  · exact ⟨by simp [go_sem], by simp [go_sem], by simp [go_sem], by simp [go_sem], by simp [go_sem], by simp [go_sem]⟩
  clear hw
  rintro e w1 ⟨hb, hend⟩
  have hc0 : w1.cell? ⟨w.heap.size, 0, none⟩ = some (.float .f64 0) := (hb.cell (p := ⟨w.heap.size, 0, none⟩) (by simp)).trans (by simp [go_sem])
  have hc1 : w1.cell? ⟨w.heap.size + 1, 0, none⟩ = some (.int .i64 0) := (hb.cell (p := ⟨w.heap.size + 1, 0, none⟩) (by simp)).trans (by simp [go_sem])
  have hz0 : w1.frozen? ⟨w.heap.size, 0, none⟩ = false := (hb.frozen (p := ⟨w.heap.size, 0, none⟩) (by simp)).trans (by simp [go_sem])
  have hz1 : w1.frozen? ⟨w.heap.size + 1, 0, none⟩ = false := (hb.frozen (p := ⟨w.heap.size + 1, 0, none⟩) (by simp)).trans (by simp [go_sem])
  have HB : Hid (Below w.heap.size w w1) := ((((Below.refl w.heap.size w).alloc (Nat.le_refl _) _).alloc (by simp) _).alloc (by simp; omega) _).trans (hb.mono (by omega))
  clear hb
  have q0 : ∀ x : Value, (w1.setCell ⟨w.heap.size, 0, none⟩ x).cell? ⟨w.heap.size, 0, none⟩ = some x := fun x => World.cell?_setCell_same _ _ _ hc0
  have q1 : ∀ x y : Value, ((w1.setCell ⟨w.heap.size, 0, none⟩ x).setCell ⟨w.heap.size + 1, 0, none⟩ y).cell? ⟨w.heap.size + 1, 0, none⟩ = some y := fun x y =>
    World.cell?_setCell_same _ _ _ ((World.cell?_setCell_other _ _ _ _ (by simp)).trans hc1)
  have q2 : ∀ x y : Value, ((w1.setCell ⟨w.heap.size, 0, none⟩ x).setCell ⟨w.heap.size, 0, none⟩ y).cell? ⟨w.heap.size, 0, none⟩ = some y := fun x y => World.cell?_setCell_same _ _ _ (q0 x)
  have q3 : ∀ x y z : Value, (((w1.setCell ⟨w.heap.size, 0, none⟩ x).setCell ⟨w.heap.size, 0, none⟩ y).setCell ⟨w.heap.size + 1, 0, none⟩ z).cell? ⟨w.heap.size + 1, 0, none⟩ = some z := fun x y z =>
    World.cell?_setCell_same _ _ _ ((World.cell?_setCell_other _ _ _ _ (by simp)).trans ((World.cell?_setCell_other _ _ _ _ (by simp)).trans hc1))
  rcases hend with ⟨q, x, hq, rfl, hx, hnx, hr⟩ | ⟨hq, s, rfl⟩
  · have c2 : w1.cell? ⟨w.heap.size + 1 + 1, 2, none⟩ = some (.int .i64 (q.2.2 : Nat)) := by
      have := hr.c2
      rw [show max 0 (0 + q.2.2) = q.2.2 by omega] at this
      exact this
    have HX : Hid (x < 2 ^ 64 ∧ nb x = q.1) := ⟨hx, hnx⟩
    by_cases h32 : 32 < q.2.2
    · have E1 : Hid (evE n l = 3) := by unfold Hid; rw [HE.out, hq]; exact if_pos h32
      have E2 : Hid (evV n l = 0) := by unfold Hid; rw [HV.out, hq]; exact if_pos h32
      have HN : Hid (nb 0 = 0) := by unfold Hid; decide +kernel
      have h32' : (32 : Int) < (q.2.2 : Int) := by omega
      clear hq hx hnx hr h32
      go_wp2
      refine leaves_cons (f := 44) (args := #[.pointer (some ⟨w.heap.size, 0, none⟩), .pointer (some ⟨w.heap.size + 1, 0, none⟩)]) (by simp) (by simp [go_sem]) ?_
      refine (ecatch_idle ⟨w.heap.size, 0, none⟩ ⟨w.heap.size + 1, 0, none⟩ _).mono ?_
      rintro e u' w'' ⟨rfl, rfl, rfl⟩
      simp [Leaves, settle, results, Tryz.results22, go_sem, q2, q3, E1.out, E2.out]
      exact ⟨HN.out, ((HB.out.setCell (by simp) _).setCell (by simp) _).setCell (by simp) _⟩
    · have E1 : Hid (evE n l = 0) := by unfold Hid; rw [HE.out, hq]; exact if_neg h32
      have E2 : Hid (evV n l = q.1) := by unfold Hid; rw [HV.out, hq]; exact if_neg h32
      have h32' : ¬ (32 : Int) < (q.2.2 : Int) := by omega
      clear hq hx hnx hr h32
      go_wp2
      refine leaves_cons (f := 44) (args := #[.pointer (some ⟨w.heap.size, 0, none⟩), .pointer (some ⟨w.heap.size + 1, 0, none⟩)]) (by simp) (by simp [go_sem]) ?_
      refine (ecatch_idle ⟨w.heap.size, 0, none⟩ ⟨w.heap.size + 1, 0, none⟩ _).mono ?_
      rintro e u' w'' ⟨rfl, rfl, rfl⟩
      simp [Leaves, settle, results, Tryz.results22, go_sem, q2, q3, E1.out, E2.out]
      exact ⟨HX.out.1, HX.out.2, ((HB.out.setCell (by simp) _).setCell (by simp) _).setCell (by simp) _⟩
  · have E1 : Hid (evE n l = 11) := by unfold Hid; rw [HE.out, hq]
    have E2 : Hid (evV n l = 0) := by unfold Hid; rw [HV.out, hq]
    have HN : Hid (nb 0 = 0) := by unfold Hid; decide +kernel
    clear hq
    go_wp2
    refine leaves_cons (f := 44) (args := #[.pointer (some ⟨w.heap.size, 0, none⟩), .pointer (some ⟨w.heap.size + 1, 0, none⟩)]) (by simp) (by simp [go_sem]) ?_
    refine (ecatch_panicking ⟨w.heap.size, 0, none⟩ ⟨w.heap.size + 1, 0, none⟩ 0 0 _ _ [] _ hc0 hz0 hc1 hz1 (by simp)).mono ?_
    rintro e u' w'' ⟨rfl, rfl, rfl⟩
    simp [Leaves, settle, results, Tryz.results22, go_sem, q0, q1, E1.out, E2.out]
    exact ⟨HN.out, (HB.out.setCell (by simp) _).setCell (by simp) _⟩

theorem eval_any (n : Nat) (l : List UInt8) (w : World) (hn : l.length < n) :
    Calls Tryz.prog 22 #[.string ⟨l.toArray⟩] w fun e w' => ∃ x, e = .returned (.tuple #[.float .f64 x, .int .i64 (evE n l : Nat)]) ∧ x < 2 ^ 64 ∧ nb x = evV n l ∧ Below w.heap.size w w' := by
  by_cases h : 4096 < l.length
  · exact eval_long n l w h
  · exact eval_short n l w (by omega) hn

end Go.Proofs.YtalifohnieclhaaGreatDoor.Oct
