/-
  The statements' own first question: a leaf is made and read.
-/
import Derived.Test.YtaeooehilncokaaYq
namespace Go.Proofs.Ytaeooehilncokaa.Oct
open Go.RowKit

theorem rowC_one (w : World) (q : C4) (t : TypeId) (hq : wfC q) : RowC (w.alloc (.cells #[.int .i64 q.a, .int .i64 q.b, .int .i64 q.c, .int .i64 q.d] t)) (some ⟨w.heap.size, 0, none⟩) 1 [q] := by
  refine ⟨fun x hx => ?_, Nat.le_refl _, by simp [maxLen], .inr ⟨_, _, rfl, fun i hi => ?_⟩⟩
  · rw [List.mem_singleton] at hx
    rw [hx]
    exact hq
  · have h0 : i = 0 := by simpa using hi
    subst h0
    exact at4_new w q t

set_option maxHeartbeats 2000000 in
set_option maxRecDepth 20000 in
theorem awake_any (w : World) :
    Calls Try.prog 8 #[] w fun e w' => e = .returned (.bool true) ∧ Below w.heap.size w w' := by
  have hB : layB false 0 [⟨5, 1, 3, 1⟩] = true := by decide
  obtain ⟨r1, r2, _⟩ := re_lay hB
  obtain ⟨y1, _, _, _⟩ := layZ_yes hB
  have hlen := layZ_len hB
  have hbys := layZ_bys false 0 [⟨5, 1, 3, 1⟩]
  have HC : Hid (∀ w1, RowC w1 (some ⟨w.heap.size, 0, none⟩) 1 [⟨5, 1, 3, 1⟩] → Calls Try.prog 9 #[.slice (some ⟨w.heap.size, 0, none⟩) 1 1] w1 fun e w' => ∃ g c, e = .returned (.tuple #[.slice g 256 c, .int .i64 0]) ∧ Hid (Row w' g c (layZ false 0 [⟨5, 1, 3, 1⟩])) ∧ Hid (Below w1.heap.size w1 w')) := fun w1 hr => by
    refine (leafMk_v [⟨5, 1, 3, 1⟩] _ 1 1 w1 hr rfl 0 y1 _ rfl 256 hlen).mono ?_
    rintro e w' ⟨g, c, rfl, ho, hb⟩
    exact ⟨g, c, rfl, (ho.row' hbys).2, hb⟩
  have HP : Hid (∀ w1 g c, Row w1 g c (layZ false 0 [⟨5, 1, 3, 1⟩]) → Calls Try.prog 14 #[.slice g 256 c] w1 fun e w' => ∃ b c', e = .returned (.tuple #[.slice (some ⟨b, 0, none⟩) 1 c', .int .i64 0]) ∧ w'.cell? ⟨b, 0, none⟩ = some (.int .i64 5) ∧ w'.cell? ⟨b, 2, none⟩ = some (.int .i64 3) ∧ 1 ≤ c' ∧ Hid (Below w1.heap.size w1 w')) := fun w1 g c hr => by
    refine (pieces_v g c 256 _ w1 hr hlen 0 r1 _ r2 1 rfl).mono ?_
    rintro e w' ⟨g', c', rfl, ho, hb⟩
    obtain ⟨_, hrow, _⟩ := ho.row' (fun q hq => by rw [List.mem_singleton] at hq; rw [hq]; refine ⟨?_, ?_, ?_, ?_⟩ <;> (unfold wf1; decide))
    have hgo : ∃ b, g' = some ⟨b, 0, none⟩ := by
      rcases ho.2 with ⟨_, h0⟩ | ⟨b, cp, cur, e, _⟩
      · simp at h0
      · simp only [Value.slice.injEq] at e
        exact ⟨b, e.1⟩
    obtain ⟨b, rfl⟩ := hgo
    obtain ⟨c0, _, c2, _⟩ := hrow.cells 0 (by simp)
    refine ⟨b, c', rfl, ?_, ?_, hrow.2.1, hb⟩
    · simpa using c0
    · simpa using c2
  clear r1 r2 y1 hlen hbys hB
  go_enter Try.func8, Try.ntmps8
  go_wp2_with fail
  refine (HC.out _ (rowC_one w ⟨5, 1, 3, 1⟩ _ (by refine ⟨?_, ?_, ?_, ?_⟩ <;> (unfold wf1; decide)))).mono ?_
  rintro e w1 ⟨g, c, rfl, HR, HB1⟩
  have HBW : Hid (Below w.heap.size w w1) := ((Below.refl _ w).alloc (Nat.le_refl _) _).trans (HB1.out.mono (by rw [heap_alloc_size]; omega))
  go_wp2_with fail
  refine (HP.out _ _ _ HR.out).mono ?_
  rintro e w2 ⟨b, c', rfl, q0, q2, hc', HB2⟩
  have HBZ : Hid (Below w.heap.size w w2) := HBW.out.trans (HB2.out.mono HBW.out.size)
  go_wp2
  go_ret
  exact ⟨rfl, HBZ.out⟩
end Go.Proofs.Ytaeooehilncokaa.Oct
