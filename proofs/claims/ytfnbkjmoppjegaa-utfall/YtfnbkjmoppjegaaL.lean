/-
  utf.letter: the reader's panic is caught.
-/
import Derived.Test.YtfnbkjmoppjegaaT
import Derived.Defers
import Derived.Recover
namespace Go.Proofs.Ytfnbkjmoppjegaa.Oct
open Go.RowKit

theorem catch_panicking (p q : Addr) (x y : Int) (u : TypeId) (pv : Value) (older : List PanicEntry) (w : World) (hp : w.cell? p = some (.int .i64 x)) (hpz : w.frozen? p = false) (hq : w.cell? q = some (.int .i64 y)) (hqz : w.frozen? q = false) (hpq : p.block ≠ q.block) :
    CallsD Try.prog 33 #[.pointer (some p), .pointer (some q)] (.panicking ({ v := .iface u pv, recovered := false } :: older)) w fun e u' w' =>
      e = .returned (.tuple #[]) ∧ u' = .panicking ({ v := .iface u pv, recovered := true } :: older) ∧ w' = (w.setCell p (.int .i64 (-1))).setCell q (.int .i64 1) := by
  have hq' : ∀ v : Value, (w.setCell p v).cell? q = some (.int .i64 y) := fun v => (World.cell?_setCell_other _ _ _ _ (fun e => hpq (by rw [e]))).trans hq
  refine callsD_of_wpS Try.func33 rfl fun c₀ cs hu => ?_
  apply wpS_seq
  apply wpS_region
  simp [wpOpsS, go_sem, recoverD, hu, Try.ntmps33, Exit.thenS]
  refine wpS_cond (t := true) (by simp [Act.eval, Array.replicate]) ?_
  simp only [if_true]
  apply wpS_region
  simp [wpOpsS, go_sem, hp, hpz, hq', hqz, bodyPostS, results, Try.results33]

theorem catch_idle (p q : Addr) (w : World) :
    CallsD Try.prog 33 #[.pointer (some p), .pointer (some q)] .returning w fun e u' w' => e = .returned (.tuple #[]) ∧ u' = .returning ∧ w' = w := by
  refine callsD_of_wpS Try.func33 rfl fun c₀ cs hu => ?_
  apply wpS_seq
  apply wpS_region
  simp [wpOpsS, go_sem, recoverD, hu, Try.ntmps33, Exit.thenS]
  refine wpS_cond (t := false) (by simp [Act.eval, Array.replicate]) ?_
  simp only [Bool.false_eq_true, if_false]
  refine wpS_of_wp (wp_skip ?_)
  cases c₀
  simp_all [bodyPostS, results, Try.results33]

def leI (rs : List Int) : Int := if sn rs 0 ≠ 0 then sx rs 0 else -1
def leN (rs : List Int) : Int := if sn rs 0 ≠ 0 then (sn rs 0 : Int) else 1

set_option maxHeartbeats 1000000 in
theorem several_any (b off cap : Nat) (rs : List Int) (w : World) (h : Row w (some ⟨b, off, none⟩) cap rs) (hl : 0 < rs.length) :
    Calls Try.prog 26 #[.slice (some ⟨b, off, none⟩) rs.length cap] w fun e w' => e = .returned (.tuple #[.int .i64 (leI rs), .int .i64 (leN rs)]) ∧ Below w.heap.size w w' := by
  have hmf : ∀ (fn : Fn) (first cap : Array Value) (w : World), (Instr.makeFunc fn first cap).run Try.prog w = .ok (.func fn first cap) w := fun _ _ _ _ => rfl
  have hr := h.below ((((Below.refl w.heap.size w).alloc (Nat.le_refl _) (.cells #[.int .i64 0] 3))).alloc (by simp) (.cells #[.int .i64 0] 3))
  have hread := read_any _ _ _ _ _ hr hl
  clear h hr
  go_enter_defers Try.func26, Try.ntmps26
  go_wp2_with fail
  refine hread.mono ?_
  clear hread
  rintro e w1 ⟨hend, hb⟩
  have hc0 : w1.cell? ⟨w.heap.size, 0, none⟩ = some (.int .i64 0) := (hb.cell (p := ⟨w.heap.size, 0, none⟩) (by simp; omega)).trans (by simp [go_sem])
  have hc1 : w1.cell? ⟨w.heap.size + 1, 0, none⟩ = some (.int .i64 0) := (hb.cell (p := ⟨w.heap.size + 1, 0, none⟩) (by simp)).trans (by simp [go_sem])
  have hz0 : w1.frozen? ⟨w.heap.size, 0, none⟩ = false := (hb.frozen (p := ⟨w.heap.size, 0, none⟩) (by simp; omega)).trans (by simp [go_sem])
  have hz1 : w1.frozen? ⟨w.heap.size + 1, 0, none⟩ = false := (hb.frozen (p := ⟨w.heap.size + 1, 0, none⟩) (by simp)).trans (by simp [go_sem])
  have HB : Hid (Below w.heap.size w w1) := (((Below.refl w.heap.size w).alloc (Nat.le_refl _) _).alloc (by simp) _).trans (hb.mono (by simp; omega))
  clear hb
  have q0 : ∀ x : Value, (w1.setCell ⟨w.heap.size, 0, none⟩ x).cell? ⟨w.heap.size, 0, none⟩ = some x := fun x => World.cell?_setCell_same _ _ _ hc0
  have q1 : ∀ x y : Value, ((w1.setCell ⟨w.heap.size, 0, none⟩ x).setCell ⟨w.heap.size + 1, 0, none⟩ y).cell? ⟨w.heap.size + 1, 0, none⟩ = some y := fun x y =>
    World.cell?_setCell_same _ _ _ ((World.cell?_setCell_other _ _ _ _ (by simp)).trans hc1)
  rcases hend with ⟨hs, rfl⟩ | ⟨hs, s, rfl⟩
  · have E1 : Hid (leI rs = sx rs 0) := if_pos hs
    have E2 : Hid (leN rs = (sn rs 0 : Int)) := if_pos hs
    clear hs
    go_wp2
    refine leaves_cons (f := 33) (args := #[.pointer (some ⟨w.heap.size, 0, none⟩), .pointer (some ⟨w.heap.size + 1, 0, none⟩)]) (by simp) (by simp [go_sem]) ?_
    refine (catch_idle ⟨w.heap.size, 0, none⟩ ⟨w.heap.size + 1, 0, none⟩ _).mono ?_
    rintro e u' w'' ⟨rfl, rfl, rfl⟩
    simp [Leaves, settle, results, Try.results26, go_sem, q0, q1, E1.out, E2.out]
    exact (HB.out.setCell (by simp) _).setCell (by simp) _
  · have E1 : Hid (leI rs = -1) := if_neg (by simpa using hs)
    have E2 : Hid (leN rs = 1) := if_neg (by simpa using hs)
    clear hs
    go_wp2
    refine leaves_cons (f := 33) (args := #[.pointer (some ⟨w.heap.size, 0, none⟩), .pointer (some ⟨w.heap.size + 1, 0, none⟩)]) (by simp) (by simp [go_sem]) ?_
    refine (catch_panicking ⟨w.heap.size, 0, none⟩ ⟨w.heap.size + 1, 0, none⟩ 0 0 _ _ [] _ hc0 hz0 hc1 hz1 (by simp)).mono ?_
    rintro e u' w'' ⟨rfl, rfl, rfl⟩
    simp [Leaves, settle, results, Try.results26, go_sem, q0, q1, E1.out, E2.out]
    exact (HB.out.setCell (by simp) _).setCell (by simp) _
end Go.Proofs.Ytfnbkjmoppjegaa.Oct
