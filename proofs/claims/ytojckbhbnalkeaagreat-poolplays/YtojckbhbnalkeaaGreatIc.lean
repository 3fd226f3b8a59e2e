/-
  pool: frames in their ring, walked: pinned, link, unlink; check, caught.
-/
import Derived.Test.YtojckbhbnalkeaaGreatIa
import Derived.RegionTactic
import Derived.BigRegion
import Derived.ChangeAlike
import Derived.Defers
import Derived.Recover
namespace Go.Proofs.YtojckbhbnalkeaaGreat.Oct
open Go.RowKit

theorem pinned_any (w : World) (g n : Nat) (h : w.cell? ⟨g, 258, none⟩ = some (.int .i64 n)) :
    Calls Tryz.prog 53 #[.pointer (some ⟨g, 0, none⟩)] w fun e w' => e = .returned (.bool (decide (0 < n))) ∧ w = w' := by
  go_enter Tryz.func53, Tryz.ntmps53
  go_wp2
  go_ret
  refine ⟨?_, rfl⟩
  congr 2

/-- Two worlds with one memory. -/
def Mem (w w' : World) : Prop := w'.heap = w.heap ∧ w'.os = w.os ∧ w'.tape = w.tape ∧ w'.output = w.output

set_option maxHeartbeats 4000000 in
theorem unlink_any (w : World) (g a c : Nat) (va vc : Value) (h1 : w.cell? ⟨g, 259, none⟩ = some (.pointer (some ⟨a, 0, none⟩))) (h2 : w.cell? ⟨g, 260, none⟩ = some (.pointer (some ⟨c, 0, none⟩)))
    (h3 : w.cell? ⟨a, 260, none⟩ = some va) (h4 : w.cell? ⟨c, 259, none⟩ = some vc) (z1 : w.frozen? ⟨a, 260, none⟩ = false) (z2 : w.frozen? ⟨c, 259, none⟩ = false) :
    Calls Tryz.prog 77 #[.pointer (some ⟨g, 0, none⟩)] w fun e w' => e = .returned (.tuple #[]) ∧ Mem ((w.setCell ⟨a, 260, none⟩ (.pointer (some ⟨c, 0, none⟩))).setCell ⟨c, 259, none⟩ (.pointer (some ⟨a, 0, none⟩))) w' := by
  go_enter Tryz.func77, Tryz.ntmps77
  go_wp2
  go_region
  all_goals (go_end0; exact ⟨rfl, rfl, rfl, rfl, rfl⟩)

set_option maxHeartbeats 4000000 in
theorem link_any (w : World) (g e a : Nat) (v1 v2 va : Value) (h0 : w.cell? ⟨e, 259, none⟩ = some (.pointer (some ⟨a, 0, none⟩))) (h1 : w.cell? ⟨g, 259, none⟩ = some v1) (h2 : w.cell? ⟨g, 260, none⟩ = some v2)
    (h3 : w.cell? ⟨a, 260, none⟩ = some va) (z1 : w.frozen? ⟨a, 260, none⟩ = false) (z2 : w.frozen? ⟨e, 259, none⟩ = false) (z3 : w.frozen? ⟨g, 259, none⟩ = false) (z4 : w.frozen? ⟨g, 260, none⟩ = false) (hag : ¬ a = g) (heg : ¬ e = g) :
    Calls Tryz.prog 78 #[.pointer (some ⟨g, 0, none⟩), .pointer (some ⟨e, 0, none⟩)] w fun x w' => x = .returned (.tuple #[]) ∧ Mem ((((w.setCell ⟨g, 259, none⟩ (.pointer (some ⟨a, 0, none⟩))).setCell ⟨g, 260, none⟩ (.pointer (some ⟨e, 0, none⟩))).setCell ⟨a, 260, none⟩ (.pointer (some ⟨g, 0, none⟩))).setCell ⟨e, 259, none⟩ (.pointer (some ⟨g, 0, none⟩))) w' := by
  go_enter Tryz.func78, Tryz.ntmps78
  go_wp2
  obtain ⟨w1, hw1, a1, a2, a3, a4, y1, y2⟩ : ∃ w1, (w.setCell ⟨g, 259, none⟩ (.pointer (some ⟨a, 0, none⟩))).setCell ⟨g, 260, none⟩ (.pointer (some ⟨e, 0, none⟩)) = w1 ∧ w1.cell? ⟨g, 259, none⟩ = some (.pointer (some ⟨a, 0, none⟩)) ∧ w1.cell? ⟨g, 260, none⟩ = some (.pointer (some ⟨e, 0, none⟩)) ∧ w1.cell? ⟨a, 260, none⟩ = some va ∧ w1.cell? ⟨e, 259, none⟩ = some (.pointer (some ⟨a, 0, none⟩)) ∧ w1.frozen? ⟨a, 260, none⟩ = false ∧ w1.frozen? ⟨e, 259, none⟩ = false :=
    ⟨_, rfl, by go_simp, by go_simp, by go_simp, by go_simp, by go_simp, by go_simp⟩
  simp only [hw1]
  have HW : Hid ((w.setCell ⟨g, 259, none⟩ (.pointer (some ⟨a, 0, none⟩))).setCell ⟨g, 260, none⟩ (.pointer (some ⟨e, 0, none⟩)) = w1) := hw1
  clear hw1 h0 h1 h2 h3 z1 z2 z3 z4
  go_region
  all_goals (go_end0; exact ⟨rfl, by rw [HW.out]; exact ⟨rfl, rfl, rfl, rfl⟩⟩)

/-- A panic that bears an error. -/
def thrown (k : Int) : Ending := .panicked [{ v := .iface 26 (.int .i64 k), recovered := false }]

theorem check_ok (w : World) : Calls Tryz.prog 79 #[.int .i64 0] w fun e w' => e = .returned (.tuple #[]) ∧ w = w' := by
  go_enter Tryz.func79, Tryz.ntmps79
  go_wp2
  go_end0
  exact ⟨rfl, rfl⟩

theorem check_no (k : Int) (hk : ¬ k = 0) (w : World) : Calls Tryz.prog 79 #[.int .i64 k] w fun e w' => e = thrown k ∧ w = w' := by
  have hk' : (k != 0) = true := by simpa using hk
  go_enter Tryz.func79, Tryz.ntmps79
  go_wp2
  exact ⟨rfl, rfl, rfl⟩

theorem as_err (v : Value) (w : World) : (Instr.typeAssert (.iface 26 v) 20 26 false).run Tryz.prog w = .ok v w := by kernel_rfl

theorem catch_pan (q : Addr) (x k : Int) (older : List PanicEntry) (w : World) (hq : w.cell? q = some (.int .i64 x)) (hqz : w.frozen? q = false) :
    CallsD Tryz.prog 75 #[.pointer (some q)] (.panicking ({ v := .iface 26 (.int .i64 k), recovered := false } :: older)) w fun e u' w' =>
      e = .returned (.tuple #[]) ∧ u' = .panicking ({ v := .iface 26 (.int .i64 k), recovered := true } :: older) ∧ w' = w.setCell q (.int .i64 k) := by
  refine callsD_of_wpS Tryz.func75 rfl fun c₀ cs hu => ?_
  apply wpS_seq
  apply wpS_region
  simp [wpOpsS, go_sem, recoverD, hu, Tryz.ntmps75, Exit.thenS]
  apply wpS_seq
  apply wpS_region
  simp [wpOpsS, go_sem, Exit.thenS]
  refine wpS_cond (t := true) (by simp [Act.eval, Array.replicate]) ?_
  simp only [if_true]
  apply wpS_region
  simp [wpOpsS, go_sem, hq, hqz, as_err, bodyPostS, results, Tryz.results75]

theorem catch_no (q : Addr) (w : World) :
    CallsD Tryz.prog 75 #[.pointer (some q)] .returning w fun e u' w' => e = .returned (.tuple #[]) ∧ u' = .returning ∧ w' = w := by
  refine callsD_of_wpS Tryz.func75 rfl fun c₀ cs hu => ?_
  apply wpS_seq
  apply wpS_region
  simp [wpOpsS, go_sem, recoverD, hu, Tryz.ntmps75, Exit.thenS]
  apply wpS_seq
  apply wpS_region
  simp [wpOpsS, go_sem, Exit.thenS]
  refine wpS_cond (t := false) (by simp [Act.eval, Array.replicate]) ?_
  simp only [Bool.false_eq_true, if_false]
  refine wpS_of_wp (wp_skip ?_)
  cases c₀
  simp_all [bodyPostS, results, Tryz.results75]

/-- What a function that may end by an error ends in. -/
def CEnd (k : Int) (e : Ending) : Prop := (k = 0 ∧ e = .returned (.tuple #[])) ∨ (¬ k = 0 ∧ e = thrown k)

/-- A cell of an error. -/
def ErrAt (w : World) (q : Nat) : Prop := w.heap[q]? = some (.cells #[.int .i64 0] 26 (0, 0))

theorem ErrAt.at {w : World} {q : Nat} (h : ErrAt w q) : w.cell? ⟨q, 0, none⟩ = some (.int .i64 0) ∧ w.frozen? ⟨q, 0, none⟩ = false := by
  unfold ErrAt at h
  refine ⟨?_, ?_⟩
  · rw [cell_of_row w q _ _ _ (0, 0) h]; rfl
  · unfold World.frozen?
    rw [h]
    simp

theorem err_new (w : World) : ErrAt (w.alloc (.cells #[.int .i64 0] 26)) w.heap.size := heap_alloc_new w _

set_option maxHeartbeats 1000000 in
theorem caught_Pin (w : World) (cap : Array Value) (R : Int → World → Prop)
    (hc : Calls Tryz.prog 43 cap (w.alloc (.cells #[.int .i64 0] 26)) fun e w1 => ∃ k, CEnd k e ∧ R k w1 ∧ ErrAt w1 w.heap.size) :
    Calls Tryz.prog 42 #[.func (.func 43) #[] cap] w fun e w' => ∃ k w1, e = .returned (.int .i64 k) ∧ R k w1 ∧ ErrAt w1 w.heap.size ∧ w' = w1.setCell ⟨w.heap.size, 0, none⟩ (.int .i64 k) := by
  have hmf : ∀ (fn : Fn) (first cap : Array Value) (w : World), (Instr.makeFunc fn first cap).run Tryz.prog w = .ok (.func fn first cap) w := fun _ _ _ _ => rfl
  go_enter_defers Tryz.func42, Tryz.ntmps42
  go_wp2_with fail
  refine hc.mono ?_
  clear hc
  rintro e w1 ⟨k, hend, hr, he⟩
  obtain ⟨c0, z0⟩ := he.at
  have q0 : ∀ x : Value, (w1.setCell ⟨w.heap.size, 0, none⟩ x).cell? ⟨w.heap.size, 0, none⟩ = some x := fun x => World.cell?_setCell_same _ _ _ c0
  have HR : Hid (R k w1) := hr
  have HE : Hid (ErrAt w1 w.heap.size) := he
  clear hr he
  rcases hend with ⟨rfl, rfl⟩ | ⟨hk, rfl⟩
  · go_wp2
    refine leaves_cons (f := 75) (args := #[.pointer (some ⟨w.heap.size, 0, none⟩)]) (by simp) (by simp [go_sem]) ?_
    refine (catch_no ⟨w.heap.size, 0, none⟩ _).mono ?_
    rintro e u' w'' ⟨rfl, rfl, rfl⟩
    simp [Leaves, settle, results, Tryz.results42, go_sem, q0]
    exact ⟨w1, HR.out, HE.out, rfl⟩
  · clear hk
    unfold thrown
    go_wp2
    refine leaves_cons (f := 75) (args := #[.pointer (some ⟨w.heap.size, 0, none⟩)]) (by simp) (by simp [go_sem]) ?_
    refine (catch_pan ⟨w.heap.size, 0, none⟩ 0 k [] _ c0 z0).mono ?_
    rintro e u' w'' ⟨rfl, rfl, rfl⟩
    simp [Leaves, settle, results, Tryz.results42, go_sem, q0]
    exact ⟨w1, HR.out, HE.out, rfl⟩

set_option maxHeartbeats 1000000 in
theorem caught_Put (w : World) (cap : Array Value) (R : Int → World → Prop)
    (hc : Calls Tryz.prog 54 cap (w.alloc (.cells #[.int .i64 0] 26)) fun e w1 => ∃ k, CEnd k e ∧ R k w1 ∧ ErrAt w1 w.heap.size) :
    Calls Tryz.prog 42 #[.func (.func 54) #[] cap] w fun e w' => ∃ k w1, e = .returned (.int .i64 k) ∧ R k w1 ∧ ErrAt w1 w.heap.size ∧ w' = w1.setCell ⟨w.heap.size, 0, none⟩ (.int .i64 k) := by
  have hmf : ∀ (fn : Fn) (first cap : Array Value) (w : World), (Instr.makeFunc fn first cap).run Tryz.prog w = .ok (.func fn first cap) w := fun _ _ _ _ => rfl
  go_enter_defers Tryz.func42, Tryz.ntmps42
  go_wp2_with fail
  refine hc.mono ?_
  clear hc
  rintro e w1 ⟨k, hend, hr, he⟩
  obtain ⟨c0, z0⟩ := he.at
  have q0 : ∀ x : Value, (w1.setCell ⟨w.heap.size, 0, none⟩ x).cell? ⟨w.heap.size, 0, none⟩ = some x := fun x => World.cell?_setCell_same _ _ _ c0
  have HR : Hid (R k w1) := hr
  have HE : Hid (ErrAt w1 w.heap.size) := he
  clear hr he
  rcases hend with ⟨rfl, rfl⟩ | ⟨hk, rfl⟩
  · go_wp2
    refine leaves_cons (f := 75) (args := #[.pointer (some ⟨w.heap.size, 0, none⟩)]) (by simp) (by simp [go_sem]) ?_
    refine (catch_no ⟨w.heap.size, 0, none⟩ _).mono ?_
    rintro e u' w'' ⟨rfl, rfl, rfl⟩
    simp [Leaves, settle, results, Tryz.results42, go_sem, q0]
    exact ⟨w1, HR.out, HE.out, rfl⟩
  · clear hk
    unfold thrown
    go_wp2
    refine leaves_cons (f := 75) (args := #[.pointer (some ⟨w.heap.size, 0, none⟩)]) (by simp) (by simp [go_sem]) ?_
    refine (catch_pan ⟨w.heap.size, 0, none⟩ 0 k [] _ c0 z0).mono ?_
    rintro e u' w'' ⟨rfl, rfl, rfl⟩
    simp [Leaves, settle, results, Tryz.results42, go_sem, q0]
    exact ⟨w1, HR.out, HE.out, rfl⟩

set_option maxHeartbeats 1000000 in
theorem caught_Flush (w : World) (cap : Array Value) (R : Int → World → Prop)
    (hc : Calls Tryz.prog 58 cap (w.alloc (.cells #[.int .i64 0] 26)) fun e w1 => ∃ k, CEnd k e ∧ R k w1 ∧ ErrAt w1 w.heap.size) :
    Calls Tryz.prog 42 #[.func (.func 58) #[] cap] w fun e w' => ∃ k w1, e = .returned (.int .i64 k) ∧ R k w1 ∧ ErrAt w1 w.heap.size ∧ w' = w1.setCell ⟨w.heap.size, 0, none⟩ (.int .i64 k) := by
  have hmf : ∀ (fn : Fn) (first cap : Array Value) (w : World), (Instr.makeFunc fn first cap).run Tryz.prog w = .ok (.func fn first cap) w := fun _ _ _ _ => rfl
  go_enter_defers Tryz.func42, Tryz.ntmps42
  go_wp2_with fail
  refine hc.mono ?_
  clear hc
  rintro e w1 ⟨k, hend, hr, he⟩
  obtain ⟨c0, z0⟩ := he.at
  have q0 : ∀ x : Value, (w1.setCell ⟨w.heap.size, 0, none⟩ x).cell? ⟨w.heap.size, 0, none⟩ = some x := fun x => World.cell?_setCell_same _ _ _ c0
  have HR : Hid (R k w1) := hr
  have HE : Hid (ErrAt w1 w.heap.size) := he
  clear hr he
  rcases hend with ⟨rfl, rfl⟩ | ⟨hk, rfl⟩
  · go_wp2
    refine leaves_cons (f := 75) (args := #[.pointer (some ⟨w.heap.size, 0, none⟩)]) (by simp) (by simp [go_sem]) ?_
    refine (catch_no ⟨w.heap.size, 0, none⟩ _).mono ?_
    rintro e u' w'' ⟨rfl, rfl, rfl⟩
    simp [Leaves, settle, results, Tryz.results42, go_sem, q0]
    exact ⟨w1, HR.out, HE.out, rfl⟩
  · clear hk
    unfold thrown
    go_wp2
    refine leaves_cons (f := 75) (args := #[.pointer (some ⟨w.heap.size, 0, none⟩)]) (by simp) (by simp [go_sem]) ?_
    refine (catch_pan ⟨w.heap.size, 0, none⟩ 0 k [] _ c0 z0).mono ?_
    rintro e u' w'' ⟨rfl, rfl, rfl⟩
    simp [Leaves, settle, results, Tryz.results42, go_sem, q0]
    exact ⟨w1, HR.out, HE.out, rfl⟩

set_option maxHeartbeats 1000000 in
theorem caught_Evict (w : World) (cap : Array Value) (R : Int → World → Prop)
    (hc : Calls Tryz.prog 61 cap (w.alloc (.cells #[.int .i64 0] 26)) fun e w1 => ∃ k, CEnd k e ∧ R k w1 ∧ ErrAt w1 w.heap.size) :
    Calls Tryz.prog 42 #[.func (.func 61) #[] cap] w fun e w' => ∃ k w1, e = .returned (.int .i64 k) ∧ R k w1 ∧ ErrAt w1 w.heap.size ∧ w' = w1.setCell ⟨w.heap.size, 0, none⟩ (.int .i64 k) := by
  have hmf : ∀ (fn : Fn) (first cap : Array Value) (w : World), (Instr.makeFunc fn first cap).run Tryz.prog w = .ok (.func fn first cap) w := fun _ _ _ _ => rfl
  go_enter_defers Tryz.func42, Tryz.ntmps42
  go_wp2_with fail
  refine hc.mono ?_
  clear hc
  rintro e w1 ⟨k, hend, hr, he⟩
  obtain ⟨c0, z0⟩ := he.at
  have q0 : ∀ x : Value, (w1.setCell ⟨w.heap.size, 0, none⟩ x).cell? ⟨w.heap.size, 0, none⟩ = some x := fun x => World.cell?_setCell_same _ _ _ c0
  have HR : Hid (R k w1) := hr
  have HE : Hid (ErrAt w1 w.heap.size) := he
  clear hr he
  rcases hend with ⟨rfl, rfl⟩ | ⟨hk, rfl⟩
  · go_wp2
    refine leaves_cons (f := 75) (args := #[.pointer (some ⟨w.heap.size, 0, none⟩)]) (by simp) (by simp [go_sem]) ?_
    refine (catch_no ⟨w.heap.size, 0, none⟩ _).mono ?_
    rintro e u' w'' ⟨rfl, rfl, rfl⟩
    simp [Leaves, settle, results, Tryz.results42, go_sem, q0]
    exact ⟨w1, HR.out, HE.out, rfl⟩
  · clear hk
    unfold thrown
    go_wp2
    refine leaves_cons (f := 75) (args := #[.pointer (some ⟨w.heap.size, 0, none⟩)]) (by simp) (by simp [go_sem]) ?_
    refine (catch_pan ⟨w.heap.size, 0, none⟩ 0 k [] _ c0 z0).mono ?_
    rintro e u' w'' ⟨rfl, rfl, rfl⟩
    simp [Leaves, settle, results, Tryz.results42, go_sem, q0]
    exact ⟨w1, HR.out, HE.out, rfl⟩
end Go.Proofs.YtojckbhbnalkeaaGreat.Oct
