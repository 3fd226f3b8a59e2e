/-
  The document's DecodeSuper.
-/
import Derived.Test.YtoadkdjmbhflnaaUk
namespace Go.Proofs.Ytoadkdjmbhflnaa.Oct
open Go.RowKit

set_option maxHeartbeats 2000000 in
theorem rdec_err (a : Option Addr) (cap n : Nat) (w : World) (P : Pg) (E : Int)
    (C : ∀ o : Obj, Calls Try.prog 24 #[.slice a n cap] (w.alloc o) fun e w' => ∃ g c, e = .returned (.tuple #[pgV P g c, .int .i64 E]) ∧ Own (w.alloc o).heap.size w' (.slice g P.body.length c) P.body ∧ Below (w.alloc o).heap.size (w.alloc o) w') (hE : (E != 0) = true) :
    Calls Try.prog 12 #[.slice a n cap] w fun e w' => e = .returned (.tuple #[spV sp0, .int .i64 E]) ∧ Below w.heap.size w w' := by
  dsimp only [spV, sp0]
  dsimp only [pgV] at C
  go_enter Try.func12, Try.ntmps12
  go_wp2_with fail
  refine (C _).mono ?_
  clear C
  rintro e w1 ⟨g, c, rfl, ho, hb⟩
  have q : Sw8 w1 w.heap.size sp0 := (sw8_new w sp0 28).same (hb.block _ (by simp))
  have HB : Hid (Below w.heap.size w w1) := ((Below.refl _ w).alloc (Nat.le_refl _) _).trans (hb.mono (by simp))
  have HQ : Hid (Sl8 (w1.alloc (.cells #[.int .i64 P.kind, .int .i64 P.level, .int .i64 P.count, .slice g P.body.length c] 46)) w.heap.size sp0) := (q.alloc _).1
  have q' := q.alloc (.cells #[.int .i64 P.kind, .int .i64 P.level, .int .i64 P.count, .slice g P.body.length c] 46)
  clear hb ho q
  obtain ⟨⟨q0, q1, q2, q3, q4, q5, q6, q7⟩, qf⟩ := q'
  have f0 := qf 0 (by omega)
  have f1 := qf 1 (by omega)
  have f2 := qf 2 (by omega)
  have f3 := qf 3 (by omega)
  have f4 := qf 4 (by omega)
  have f5 := qf 5 (by omega)
  have f6 := qf 6 (by omega)
  have f7 := qf 7 (by omega)
  clear qf
  dsimp only [sp0] at q0 q1 q2 q3 q4 q5 q6 q7
  go_wp2
  clear q0 q1 q2 q3 q4 q5 q6 q7 f0 f1 f2 f3 f4 f5 f6 f7
  obtain ⟨q0, q1, q2, q3, q4, q5, q6, q7⟩ := wr8_sl HQ.out sp0
  unfold wr8 at q0 q1 q2 q3 q4 q5 q6 q7
  try dsimp only [sp0] at q0 q1 q2 q3 q4 q5 q6 q7
  refine bodyPost_ret (v := .tuple #[spV sp0, .int .i64 E]) ?_ rfl ⟨rfl, wr8_below (HB.out.alloc HB.out.size _) (Nat.le_refl _) sp0⟩
  simp [results, Try.results12, go_sem, spV, sp0, q0, q1, q2, q3, q4, q5, q6, q7]

set_option maxHeartbeats 2000000 in
theorem rdec_kind (a : Option Addr) (cap n : Nat) (w : World) (P : Pg) (E : Int)
    (C : ∀ o : Obj, Calls Try.prog 24 #[.slice a n cap] (w.alloc o) fun e w' => ∃ g c, e = .returned (.tuple #[pgV P g c, .int .i64 E]) ∧ Own (w.alloc o).heap.size w' (.slice g P.body.length c) P.body ∧ Below (w.alloc o).heap.size (w.alloc o) w') (hE : E = 0) (hlen : P.body.length = 248) (hbys : Bys P.body) (T : Sp) (hT : sdL P.body = T) (hk : (P.kind != 1) = true) :
    Calls Try.prog 12 #[.slice a n cap] w fun e w' => e = .returned (.tuple #[spV sp0, .int .i64 4]) ∧ Below w.heap.size w w' := by
  subst hE
  dsimp only [spV, sp0]
  dsimp only [pgV] at C
  go_enter Try.func12, Try.ntmps12
  go_wp2_with fail
  refine (C _).mono ?_
  clear C
  rintro e w1 ⟨g, c, rfl, ho, hb⟩
  have q : Sw8 w1 w.heap.size sp0 := (sw8_new w sp0 28).same (hb.block _ (by simp))
  have HB : Hid (Below w.heap.size w w1) := ((Below.refl _ w).alloc (Nat.le_refl _) _).trans (hb.mono (by simp))
  have HQ : Hid (Sw8 ((w1.alloc (.cells #[.int .i64 P.kind, .int .i64 P.level, .int .i64 P.count, .slice g P.body.length c] 46)).alloc (.cells #[.int .i64 T.g, .int .i64 T.p, .int .i64 T.r, .int .i64 T.h, .int .i64 T.b, .int .i64 T.l, .int .i64 T.s, .int .i64 T.f] 28)) w.heap.size sp0) := (q.alloc _).alloc _
  have HW : Hid (Below w.heap.size w ((w1.alloc (.cells #[.int .i64 P.kind, .int .i64 P.level, .int .i64 P.count, .slice g P.body.length c] 46)).alloc (.cells #[.int .i64 T.g, .int .i64 T.p, .int .i64 T.r, .int .i64 T.h, .int .i64 T.b, .int .i64 T.l, .int .i64 T.s, .int .i64 T.f] 28))) := (HB.out.alloc HB.out.size _).alloc (Nat.le_trans HB.out.size (by simp)) _
  obtain ⟨g0, c0, eg, hx1, hx2, hx3, hx4⟩ := own_at ho 0 (by rw [hlen]; decide)
  clear hx1 hx2 hx3 hx4
  simp only [Value.slice.injEq, true_and] at eg
  obtain ⟨rfl, rfl⟩ := eg
  have hr : Row (w1.alloc (.cells #[.int .i64 P.kind, .int .i64 P.level, .int .i64 P.count, .slice (some ⟨g0, 0, none⟩) P.body.length c] 46)) (some ⟨g0, 0, none⟩) c P.body := (ho.row' hbys).2.below ((Below.refl _ w1).alloc (Nat.le_refl _) _)
  have CG := fun p n => rnumber_any _ _ _ p n _ hr
  have HR2 : Hid (Row ((w1.alloc (.cells #[.int .i64 P.kind, .int .i64 P.level, .int .i64 P.count, .slice (some ⟨g0, 0, none⟩) P.body.length c] 46)).alloc (.cells #[.int .i64 T.g, .int .i64 T.p, .int .i64 T.r, .int .i64 T.h, .int .i64 T.b, .int .i64 T.l, .int .i64 T.s, .int .i64 T.f] 28)) (some ⟨g0, 0, none⟩) c P.body) := hr.below ((Below.refl _ _).alloc (Nat.le_refl _) _)
  rw [hlen] at CG
  rw [hlen] at HR2
  rw [hlen] at HQ HW ⊢
  have C0 : Hid (Calls Try.prog 25 #[.slice (some ⟨g0, 0, none⟩) 248 c, .int .i64 0, .int .i64 8] (w1.alloc (.cells #[.int .i64 P.kind, .int .i64 P.level, .int .i64 P.count, .slice (some ⟨g0, 0, none⟩) 248 c] 46)) fun e w' => e = .returned (.int .i64 T.g) ∧ (w1.alloc (.cells #[.int .i64 P.kind, .int .i64 P.level, .int .i64 P.count, .slice (some ⟨g0, 0, none⟩) 248 c] 46)) = w') := by rw [← hT]; exact CG 0 8
  have C1 : Hid (Calls Try.prog 25 #[.slice (some ⟨g0, 0, none⟩) 248 c, .int .i64 8, .int .i64 4] (w1.alloc (.cells #[.int .i64 P.kind, .int .i64 P.level, .int .i64 P.count, .slice (some ⟨g0, 0, none⟩) 248 c] 46)) fun e w' => e = .returned (.int .i64 T.p) ∧ (w1.alloc (.cells #[.int .i64 P.kind, .int .i64 P.level, .int .i64 P.count, .slice (some ⟨g0, 0, none⟩) 248 c] 46)) = w') := by rw [← hT]; exact CG 8 4
  have C2 : Hid (Calls Try.prog 25 #[.slice (some ⟨g0, 0, none⟩) 248 c, .int .i64 12, .int .i64 4] (w1.alloc (.cells #[.int .i64 P.kind, .int .i64 P.level, .int .i64 P.count, .slice (some ⟨g0, 0, none⟩) 248 c] 46)) fun e w' => e = .returned (.int .i64 T.r) ∧ (w1.alloc (.cells #[.int .i64 P.kind, .int .i64 P.level, .int .i64 P.count, .slice (some ⟨g0, 0, none⟩) 248 c] 46)) = w') := by rw [← hT]; exact CG 12 4
  have C3 : Hid (Calls Try.prog 25 #[.slice (some ⟨g0, 0, none⟩) 248 c, .int .i64 16, .int .i64 2] (w1.alloc (.cells #[.int .i64 P.kind, .int .i64 P.level, .int .i64 P.count, .slice (some ⟨g0, 0, none⟩) 248 c] 46)) fun e w' => e = .returned (.int .i64 T.h) ∧ (w1.alloc (.cells #[.int .i64 P.kind, .int .i64 P.level, .int .i64 P.count, .slice (some ⟨g0, 0, none⟩) 248 c] 46)) = w') := by rw [← hT]; exact CG 16 2
  have C4 : Hid (Calls Try.prog 25 #[.slice (some ⟨g0, 0, none⟩) 248 c, .int .i64 18, .int .i64 4] (w1.alloc (.cells #[.int .i64 P.kind, .int .i64 P.level, .int .i64 P.count, .slice (some ⟨g0, 0, none⟩) 248 c] 46)) fun e w' => e = .returned (.int .i64 T.b) ∧ (w1.alloc (.cells #[.int .i64 P.kind, .int .i64 P.level, .int .i64 P.count, .slice (some ⟨g0, 0, none⟩) 248 c] 46)) = w') := by rw [← hT]; exact CG 18 4
  have C5 : Hid (Calls Try.prog 25 #[.slice (some ⟨g0, 0, none⟩) 248 c, .int .i64 22, .int .i64 4] (w1.alloc (.cells #[.int .i64 P.kind, .int .i64 P.level, .int .i64 P.count, .slice (some ⟨g0, 0, none⟩) 248 c] 46)) fun e w' => e = .returned (.int .i64 T.l) ∧ (w1.alloc (.cells #[.int .i64 P.kind, .int .i64 P.level, .int .i64 P.count, .slice (some ⟨g0, 0, none⟩) 248 c] 46)) = w') := by rw [← hT]; exact CG 22 4
  have C6 : Hid (Calls Try.prog 25 #[.slice (some ⟨g0, 0, none⟩) 248 c, .int .i64 26, .int .i64 4] (w1.alloc (.cells #[.int .i64 P.kind, .int .i64 P.level, .int .i64 P.count, .slice (some ⟨g0, 0, none⟩) 248 c] 46)) fun e w' => e = .returned (.int .i64 T.s) ∧ (w1.alloc (.cells #[.int .i64 P.kind, .int .i64 P.level, .int .i64 P.count, .slice (some ⟨g0, 0, none⟩) 248 c] 46)) = w') := by rw [← hT]; exact CG 26 4
  have C7 : Hid (Calls Try.prog 25 #[.slice (some ⟨g0, 0, none⟩) 248 c, .int .i64 30, .int .i64 4] (w1.alloc (.cells #[.int .i64 P.kind, .int .i64 P.level, .int .i64 P.count, .slice (some ⟨g0, 0, none⟩) 248 c] 46)) fun e w' => e = .returned (.int .i64 T.f) ∧ (w1.alloc (.cells #[.int .i64 P.kind, .int .i64 P.level, .int .i64 P.count, .slice (some ⟨g0, 0, none⟩) 248 c] 46)) = w') := by rw [← hT]; exact CG 30 4
  clear CG ho hb q hr
  have q' := HQ.out
  obtain ⟨⟨q0, q1, q2, q3, q4, q5, q6, q7⟩, qf⟩ := q'
  have f0 := qf 0 (by omega)
  have f1 := qf 1 (by omega)
  have f2 := qf 2 (by omega)
  have f3 := qf 3 (by omega)
  have f4 := qf 4 (by omega)
  have f5 := qf 5 (by omega)
  have f6 := qf 6 (by omega)
  have f7 := qf 7 (by omega)
  clear qf
  dsimp only [sp0] at q0 q1 q2 q3 q4 q5 q6 q7
  clear HR2 hT
  go_wp2_with fail
  refine C0.out.mono ?_
  clear C0
  rintro e wx ⟨rfl, rfl⟩
  go_wp2_with fail
  refine C1.out.mono ?_
  clear C1
  rintro e wx ⟨rfl, rfl⟩
  go_wp2_with fail
  refine C2.out.mono ?_
  clear C2
  rintro e wx ⟨rfl, rfl⟩
  go_wp2_with fail
  refine C3.out.mono ?_
  clear C3
  rintro e wx ⟨rfl, rfl⟩
  go_wp2_with fail
  refine C4.out.mono ?_
  clear C4
  rintro e wx ⟨rfl, rfl⟩
  go_wp2_with fail
  refine C5.out.mono ?_
  clear C5
  rintro e wx ⟨rfl, rfl⟩
  go_wp2_with fail
  refine C6.out.mono ?_
  clear C6
  rintro e wx ⟨rfl, rfl⟩
  go_wp2_with fail
  refine C7.out.mono ?_
  clear C7
  rintro e wx ⟨rfl, rfl⟩
  go_wp2
  clear q0 q1 q2 q3 q4 q5 q6 q7 f0 f1 f2 f3 f4 f5 f6 f7
  obtain ⟨q0, q1, q2, q3, q4, q5, q6, q7⟩ := wr8_sl HQ.out.1 sp0
  unfold wr8 at q0 q1 q2 q3 q4 q5 q6 q7
  try dsimp only [sp0] at q0 q1 q2 q3 q4 q5 q6 q7
  refine bodyPost_ret (v := .tuple #[spV sp0, .int .i64 4]) ?_ rfl ⟨rfl, wr8_below HW.out (Nat.le_refl _) sp0⟩
  simp [results, Try.results12, go_sem, spV, sp0, q0, q1, q2, q3, q4, q5, q6, q7]

set_option maxHeartbeats 2000000 in
theorem rdec_level (a : Option Addr) (cap n : Nat) (w : World) (P : Pg) (E : Int)
    (C : ∀ o : Obj, Calls Try.prog 24 #[.slice a n cap] (w.alloc o) fun e w' => ∃ g c, e = .returned (.tuple #[pgV P g c, .int .i64 E]) ∧ Own (w.alloc o).heap.size w' (.slice g P.body.length c) P.body ∧ Below (w.alloc o).heap.size (w.alloc o) w') (hE : E = 0) (hlen : P.body.length = 248) (hbys : Bys P.body) (T : Sp) (hT : sdL P.body = T) (hk : (P.kind != 1) = false) (hl : (P.level != 0) = true) :
    Calls Try.prog 12 #[.slice a n cap] w fun e w' => e = .returned (.tuple #[spV sp0, .int .i64 4]) ∧ Below w.heap.size w w' := by
  subst hE
  dsimp only [spV, sp0]
  dsimp only [pgV] at C
  go_enter Try.func12, Try.ntmps12
  go_wp2_with fail
  refine (C _).mono ?_
  clear C
  rintro e w1 ⟨g, c, rfl, ho, hb⟩
  have q : Sw8 w1 w.heap.size sp0 := (sw8_new w sp0 28).same (hb.block _ (by simp))
  have HB : Hid (Below w.heap.size w w1) := ((Below.refl _ w).alloc (Nat.le_refl _) _).trans (hb.mono (by simp))
  have HQ : Hid (Sw8 ((w1.alloc (.cells #[.int .i64 P.kind, .int .i64 P.level, .int .i64 P.count, .slice g P.body.length c] 46)).alloc (.cells #[.int .i64 T.g, .int .i64 T.p, .int .i64 T.r, .int .i64 T.h, .int .i64 T.b, .int .i64 T.l, .int .i64 T.s, .int .i64 T.f] 28)) w.heap.size sp0) := (q.alloc _).alloc _
  have HW : Hid (Below w.heap.size w ((w1.alloc (.cells #[.int .i64 P.kind, .int .i64 P.level, .int .i64 P.count, .slice g P.body.length c] 46)).alloc (.cells #[.int .i64 T.g, .int .i64 T.p, .int .i64 T.r, .int .i64 T.h, .int .i64 T.b, .int .i64 T.l, .int .i64 T.s, .int .i64 T.f] 28))) := (HB.out.alloc HB.out.size _).alloc (Nat.le_trans HB.out.size (by simp)) _
  obtain ⟨g0, c0, eg, hx1, hx2, hx3, hx4⟩ := own_at ho 0 (by rw [hlen]; decide)
  clear hx1 hx2 hx3 hx4
  simp only [Value.slice.injEq, true_and] at eg
  obtain ⟨rfl, rfl⟩ := eg
  have hr : Row (w1.alloc (.cells #[.int .i64 P.kind, .int .i64 P.level, .int .i64 P.count, .slice (some ⟨g0, 0, none⟩) P.body.length c] 46)) (some ⟨g0, 0, none⟩) c P.body := (ho.row' hbys).2.below ((Below.refl _ w1).alloc (Nat.le_refl _) _)
  have CG := fun p n => rnumber_any _ _ _ p n _ hr
  have HR2 : Hid (Row ((w1.alloc (.cells #[.int .i64 P.kind, .int .i64 P.level, .int .i64 P.count, .slice (some ⟨g0, 0, none⟩) P.body.length c] 46)).alloc (.cells #[.int .i64 T.g, .int .i64 T.p, .int .i64 T.r, .int .i64 T.h, .int .i64 T.b, .int .i64 T.l, .int .i64 T.s, .int .i64 T.f] 28)) (some ⟨g0, 0, none⟩) c P.body) := hr.below ((Below.refl _ _).alloc (Nat.le_refl _) _)
  rw [hlen] at CG
  rw [hlen] at HR2
  rw [hlen] at HQ HW ⊢
  have C0 : Hid (Calls Try.prog 25 #[.slice (some ⟨g0, 0, none⟩) 248 c, .int .i64 0, .int .i64 8] (w1.alloc (.cells #[.int .i64 P.kind, .int .i64 P.level, .int .i64 P.count, .slice (some ⟨g0, 0, none⟩) 248 c] 46)) fun e w' => e = .returned (.int .i64 T.g) ∧ (w1.alloc (.cells #[.int .i64 P.kind, .int .i64 P.level, .int .i64 P.count, .slice (some ⟨g0, 0, none⟩) 248 c] 46)) = w') := by rw [← hT]; exact CG 0 8
  have C1 : Hid (Calls Try.prog 25 #[.slice (some ⟨g0, 0, none⟩) 248 c, .int .i64 8, .int .i64 4] (w1.alloc (.cells #[.int .i64 P.kind, .int .i64 P.level, .int .i64 P.count, .slice (some ⟨g0, 0, none⟩) 248 c] 46)) fun e w' => e = .returned (.int .i64 T.p) ∧ (w1.alloc (.cells #[.int .i64 P.kind, .int .i64 P.level, .int .i64 P.count, .slice (some ⟨g0, 0, none⟩) 248 c] 46)) = w') := by rw [← hT]; exact CG 8 4
  have C2 : Hid (Calls Try.prog 25 #[.slice (some ⟨g0, 0, none⟩) 248 c, .int .i64 12, .int .i64 4] (w1.alloc (.cells #[.int .i64 P.kind, .int .i64 P.level, .int .i64 P.count, .slice (some ⟨g0, 0, none⟩) 248 c] 46)) fun e w' => e = .returned (.int .i64 T.r) ∧ (w1.alloc (.cells #[.int .i64 P.kind, .int .i64 P.level, .int .i64 P.count, .slice (some ⟨g0, 0, none⟩) 248 c] 46)) = w') := by rw [← hT]; exact CG 12 4
  have C3 : Hid (Calls Try.prog 25 #[.slice (some ⟨g0, 0, none⟩) 248 c, .int .i64 16, .int .i64 2] (w1.alloc (.cells #[.int .i64 P.kind, .int .i64 P.level, .int .i64 P.count, .slice (some ⟨g0, 0, none⟩) 248 c] 46)) fun e w' => e = .returned (.int .i64 T.h) ∧ (w1.alloc (.cells #[.int .i64 P.kind, .int .i64 P.level, .int .i64 P.count, .slice (some ⟨g0, 0, none⟩) 248 c] 46)) = w') := by rw [← hT]; exact CG 16 2
  have C4 : Hid (Calls Try.prog 25 #[.slice (some ⟨g0, 0, none⟩) 248 c, .int .i64 18, .int .i64 4] (w1.alloc (.cells #[.int .i64 P.kind, .int .i64 P.level, .int .i64 P.count, .slice (some ⟨g0, 0, none⟩) 248 c] 46)) fun e w' => e = .returned (.int .i64 T.b) ∧ (w1.alloc (.cells #[.int .i64 P.kind, .int .i64 P.level, .int .i64 P.count, .slice (some ⟨g0, 0, none⟩) 248 c] 46)) = w') := by rw [← hT]; exact CG 18 4
  have C5 : Hid (Calls Try.prog 25 #[.slice (some ⟨g0, 0, none⟩) 248 c, .int .i64 22, .int .i64 4] (w1.alloc (.cells #[.int .i64 P.kind, .int .i64 P.level, .int .i64 P.count, .slice (some ⟨g0, 0, none⟩) 248 c] 46)) fun e w' => e = .returned (.int .i64 T.l) ∧ (w1.alloc (.cells #[.int .i64 P.kind, .int .i64 P.level, .int .i64 P.count, .slice (some ⟨g0, 0, none⟩) 248 c] 46)) = w') := by rw [← hT]; exact CG 22 4
  have C6 : Hid (Calls Try.prog 25 #[.slice (some ⟨g0, 0, none⟩) 248 c, .int .i64 26, .int .i64 4] (w1.alloc (.cells #[.int .i64 P.kind, .int .i64 P.level, .int .i64 P.count, .slice (some ⟨g0, 0, none⟩) 248 c] 46)) fun e w' => e = .returned (.int .i64 T.s) ∧ (w1.alloc (.cells #[.int .i64 P.kind, .int .i64 P.level, .int .i64 P.count, .slice (some ⟨g0, 0, none⟩) 248 c] 46)) = w') := by rw [← hT]; exact CG 26 4
  have C7 : Hid (Calls Try.prog 25 #[.slice (some ⟨g0, 0, none⟩) 248 c, .int .i64 30, .int .i64 4] (w1.alloc (.cells #[.int .i64 P.kind, .int .i64 P.level, .int .i64 P.count, .slice (some ⟨g0, 0, none⟩) 248 c] 46)) fun e w' => e = .returned (.int .i64 T.f) ∧ (w1.alloc (.cells #[.int .i64 P.kind, .int .i64 P.level, .int .i64 P.count, .slice (some ⟨g0, 0, none⟩) 248 c] 46)) = w') := by rw [← hT]; exact CG 30 4
  clear CG ho hb q hr
  have q' := HQ.out
  obtain ⟨⟨q0, q1, q2, q3, q4, q5, q6, q7⟩, qf⟩ := q'
  have f0 := qf 0 (by omega)
  have f1 := qf 1 (by omega)
  have f2 := qf 2 (by omega)
  have f3 := qf 3 (by omega)
  have f4 := qf 4 (by omega)
  have f5 := qf 5 (by omega)
  have f6 := qf 6 (by omega)
  have f7 := qf 7 (by omega)
  clear qf
  dsimp only [sp0] at q0 q1 q2 q3 q4 q5 q6 q7
  clear HR2 hT
  go_wp2_with fail
  refine C0.out.mono ?_
  clear C0
  rintro e wx ⟨rfl, rfl⟩
  go_wp2_with fail
  refine C1.out.mono ?_
  clear C1
  rintro e wx ⟨rfl, rfl⟩
  go_wp2_with fail
  refine C2.out.mono ?_
  clear C2
  rintro e wx ⟨rfl, rfl⟩
  go_wp2_with fail
  refine C3.out.mono ?_
  clear C3
  rintro e wx ⟨rfl, rfl⟩
  go_wp2_with fail
  refine C4.out.mono ?_
  clear C4
  rintro e wx ⟨rfl, rfl⟩
  go_wp2_with fail
  refine C5.out.mono ?_
  clear C5
  rintro e wx ⟨rfl, rfl⟩
  go_wp2_with fail
  refine C6.out.mono ?_
  clear C6
  rintro e wx ⟨rfl, rfl⟩
  go_wp2_with fail
  refine C7.out.mono ?_
  clear C7
  rintro e wx ⟨rfl, rfl⟩
  go_wp2
  clear q0 q1 q2 q3 q4 q5 q6 q7 f0 f1 f2 f3 f4 f5 f6 f7
  obtain ⟨q0, q1, q2, q3, q4, q5, q6, q7⟩ := wr8_sl HQ.out.1 sp0
  unfold wr8 at q0 q1 q2 q3 q4 q5 q6 q7
  try dsimp only [sp0] at q0 q1 q2 q3 q4 q5 q6 q7
  refine bodyPost_ret (v := .tuple #[spV sp0, .int .i64 4]) ?_ rfl ⟨rfl, wr8_below HW.out (Nat.le_refl _) sp0⟩
  simp [results, Try.results12, go_sem, spV, sp0, q0, q1, q2, q3, q4, q5, q6, q7]

set_option maxHeartbeats 2000000 in
theorem rdec_count (a : Option Addr) (cap n : Nat) (w : World) (P : Pg) (E : Int)
    (C : ∀ o : Obj, Calls Try.prog 24 #[.slice a n cap] (w.alloc o) fun e w' => ∃ g c, e = .returned (.tuple #[pgV P g c, .int .i64 E]) ∧ Own (w.alloc o).heap.size w' (.slice g P.body.length c) P.body ∧ Below (w.alloc o).heap.size (w.alloc o) w') (hE : E = 0) (hlen : P.body.length = 248) (hbys : Bys P.body) (T : Sp) (hT : sdL P.body = T) (hk : (P.kind != 1) = false) (hl : (P.level != 0) = false) (hc : (P.count != 0) = true) :
    Calls Try.prog 12 #[.slice a n cap] w fun e w' => e = .returned (.tuple #[spV sp0, .int .i64 4]) ∧ Below w.heap.size w w' := by
  subst hE
  dsimp only [spV, sp0]
  dsimp only [pgV] at C
  go_enter Try.func12, Try.ntmps12
  go_wp2_with fail
  refine (C _).mono ?_
  clear C
  rintro e w1 ⟨g, c, rfl, ho, hb⟩
  have q : Sw8 w1 w.heap.size sp0 := (sw8_new w sp0 28).same (hb.block _ (by simp))
  have HB : Hid (Below w.heap.size w w1) := ((Below.refl _ w).alloc (Nat.le_refl _) _).trans (hb.mono (by simp))
  have HQ : Hid (Sw8 ((w1.alloc (.cells #[.int .i64 P.kind, .int .i64 P.level, .int .i64 P.count, .slice g P.body.length c] 46)).alloc (.cells #[.int .i64 T.g, .int .i64 T.p, .int .i64 T.r, .int .i64 T.h, .int .i64 T.b, .int .i64 T.l, .int .i64 T.s, .int .i64 T.f] 28)) w.heap.size sp0) := (q.alloc _).alloc _
  have HW : Hid (Below w.heap.size w ((w1.alloc (.cells #[.int .i64 P.kind, .int .i64 P.level, .int .i64 P.count, .slice g P.body.length c] 46)).alloc (.cells #[.int .i64 T.g, .int .i64 T.p, .int .i64 T.r, .int .i64 T.h, .int .i64 T.b, .int .i64 T.l, .int .i64 T.s, .int .i64 T.f] 28))) := (HB.out.alloc HB.out.size _).alloc (Nat.le_trans HB.out.size (by simp)) _
  obtain ⟨g0, c0, eg, hx1, hx2, hx3, hx4⟩ := own_at ho 0 (by rw [hlen]; decide)
  clear hx1 hx2 hx3 hx4
  simp only [Value.slice.injEq, true_and] at eg
  obtain ⟨rfl, rfl⟩ := eg
  have hr : Row (w1.alloc (.cells #[.int .i64 P.kind, .int .i64 P.level, .int .i64 P.count, .slice (some ⟨g0, 0, none⟩) P.body.length c] 46)) (some ⟨g0, 0, none⟩) c P.body := (ho.row' hbys).2.below ((Below.refl _ w1).alloc (Nat.le_refl _) _)
  have CG := fun p n => rnumber_any _ _ _ p n _ hr
  have HR2 : Hid (Row ((w1.alloc (.cells #[.int .i64 P.kind, .int .i64 P.level, .int .i64 P.count, .slice (some ⟨g0, 0, none⟩) P.body.length c] 46)).alloc (.cells #[.int .i64 T.g, .int .i64 T.p, .int .i64 T.r, .int .i64 T.h, .int .i64 T.b, .int .i64 T.l, .int .i64 T.s, .int .i64 T.f] 28)) (some ⟨g0, 0, none⟩) c P.body) := hr.below ((Below.refl _ _).alloc (Nat.le_refl _) _)
  rw [hlen] at CG
  rw [hlen] at HR2
  rw [hlen] at HQ HW ⊢
  have C0 : Hid (Calls Try.prog 25 #[.slice (some ⟨g0, 0, none⟩) 248 c, .int .i64 0, .int .i64 8] (w1.alloc (.cells #[.int .i64 P.kind, .int .i64 P.level, .int .i64 P.count, .slice (some ⟨g0, 0, none⟩) 248 c] 46)) fun e w' => e = .returned (.int .i64 T.g) ∧ (w1.alloc (.cells #[.int .i64 P.kind, .int .i64 P.level, .int .i64 P.count, .slice (some ⟨g0, 0, none⟩) 248 c] 46)) = w') := by rw [← hT]; exact CG 0 8
  have C1 : Hid (Calls Try.prog 25 #[.slice (some ⟨g0, 0, none⟩) 248 c, .int .i64 8, .int .i64 4] (w1.alloc (.cells #[.int .i64 P.kind, .int .i64 P.level, .int .i64 P.count, .slice (some ⟨g0, 0, none⟩) 248 c] 46)) fun e w' => e = .returned (.int .i64 T.p) ∧ (w1.alloc (.cells #[.int .i64 P.kind, .int .i64 P.level, .int .i64 P.count, .slice (some ⟨g0, 0, none⟩) 248 c] 46)) = w') := by rw [← hT]; exact CG 8 4
  have C2 : Hid (Calls Try.prog 25 #[.slice (some ⟨g0, 0, none⟩) 248 c, .int .i64 12, .int .i64 4] (w1.alloc (.cells #[.int .i64 P.kind, .int .i64 P.level, .int .i64 P.count, .slice (some ⟨g0, 0, none⟩) 248 c] 46)) fun e w' => e = .returned (.int .i64 T.r) ∧ (w1.alloc (.cells #[.int .i64 P.kind, .int .i64 P.level, .int .i64 P.count, .slice (some ⟨g0, 0, none⟩) 248 c] 46)) = w') := by rw [← hT]; exact CG 12 4
  have C3 : Hid (Calls Try.prog 25 #[.slice (some ⟨g0, 0, none⟩) 248 c, .int .i64 16, .int .i64 2] (w1.alloc (.cells #[.int .i64 P.kind, .int .i64 P.level, .int .i64 P.count, .slice (some ⟨g0, 0, none⟩) 248 c] 46)) fun e w' => e = .returned (.int .i64 T.h) ∧ (w1.alloc (.cells #[.int .i64 P.kind, .int .i64 P.level, .int .i64 P.count, .slice (some ⟨g0, 0, none⟩) 248 c] 46)) = w') := by rw [← hT]; exact CG 16 2
  have C4 : Hid (Calls Try.prog 25 #[.slice (some ⟨g0, 0, none⟩) 248 c, .int .i64 18, .int .i64 4] (w1.alloc (.cells #[.int .i64 P.kind, .int .i64 P.level, .int .i64 P.count, .slice (some ⟨g0, 0, none⟩) 248 c] 46)) fun e w' => e = .returned (.int .i64 T.b) ∧ (w1.alloc (.cells #[.int .i64 P.kind, .int .i64 P.level, .int .i64 P.count, .slice (some ⟨g0, 0, none⟩) 248 c] 46)) = w') := by rw [← hT]; exact CG 18 4
  have C5 : Hid (Calls Try.prog 25 #[.slice (some ⟨g0, 0, none⟩) 248 c, .int .i64 22, .int .i64 4] (w1.alloc (.cells #[.int .i64 P.kind, .int .i64 P.level, .int .i64 P.count, .slice (some ⟨g0, 0, none⟩) 248 c] 46)) fun e w' => e = .returned (.int .i64 T.l) ∧ (w1.alloc (.cells #[.int .i64 P.kind, .int .i64 P.level, .int .i64 P.count, .slice (some ⟨g0, 0, none⟩) 248 c] 46)) = w') := by rw [← hT]; exact CG 22 4
  have C6 : Hid (Calls Try.prog 25 #[.slice (some ⟨g0, 0, none⟩) 248 c, .int .i64 26, .int .i64 4] (w1.alloc (.cells #[.int .i64 P.kind, .int .i64 P.level, .int .i64 P.count, .slice (some ⟨g0, 0, none⟩) 248 c] 46)) fun e w' => e = .returned (.int .i64 T.s) ∧ (w1.alloc (.cells #[.int .i64 P.kind, .int .i64 P.level, .int .i64 P.count, .slice (some ⟨g0, 0, none⟩) 248 c] 46)) = w') := by rw [← hT]; exact CG 26 4
  have C7 : Hid (Calls Try.prog 25 #[.slice (some ⟨g0, 0, none⟩) 248 c, .int .i64 30, .int .i64 4] (w1.alloc (.cells #[.int .i64 P.kind, .int .i64 P.level, .int .i64 P.count, .slice (some ⟨g0, 0, none⟩) 248 c] 46)) fun e w' => e = .returned (.int .i64 T.f) ∧ (w1.alloc (.cells #[.int .i64 P.kind, .int .i64 P.level, .int .i64 P.count, .slice (some ⟨g0, 0, none⟩) 248 c] 46)) = w') := by rw [← hT]; exact CG 30 4
  clear CG ho hb q hr
  have q' := HQ.out
  obtain ⟨⟨q0, q1, q2, q3, q4, q5, q6, q7⟩, qf⟩ := q'
  have f0 := qf 0 (by omega)
  have f1 := qf 1 (by omega)
  have f2 := qf 2 (by omega)
  have f3 := qf 3 (by omega)
  have f4 := qf 4 (by omega)
  have f5 := qf 5 (by omega)
  have f6 := qf 6 (by omega)
  have f7 := qf 7 (by omega)
  clear qf
  dsimp only [sp0] at q0 q1 q2 q3 q4 q5 q6 q7
  clear HR2 hT
  go_wp2_with fail
  refine C0.out.mono ?_
  clear C0
  rintro e wx ⟨rfl, rfl⟩
  go_wp2_with fail
  refine C1.out.mono ?_
  clear C1
  rintro e wx ⟨rfl, rfl⟩
  go_wp2_with fail
  refine C2.out.mono ?_
  clear C2
  rintro e wx ⟨rfl, rfl⟩
  go_wp2_with fail
  refine C3.out.mono ?_
  clear C3
  rintro e wx ⟨rfl, rfl⟩
  go_wp2_with fail
  refine C4.out.mono ?_
  clear C4
  rintro e wx ⟨rfl, rfl⟩
  go_wp2_with fail
  refine C5.out.mono ?_
  clear C5
  rintro e wx ⟨rfl, rfl⟩
  go_wp2_with fail
  refine C6.out.mono ?_
  clear C6
  rintro e wx ⟨rfl, rfl⟩
  go_wp2_with fail
  refine C7.out.mono ?_
  clear C7
  rintro e wx ⟨rfl, rfl⟩
  go_wp2
  clear q0 q1 q2 q3 q4 q5 q6 q7 f0 f1 f2 f3 f4 f5 f6 f7
  obtain ⟨q0, q1, q2, q3, q4, q5, q6, q7⟩ := wr8_sl HQ.out.1 sp0
  unfold wr8 at q0 q1 q2 q3 q4 q5 q6 q7
  try dsimp only [sp0] at q0 q1 q2 q3 q4 q5 q6 q7
  refine bodyPost_ret (v := .tuple #[spV sp0, .int .i64 4]) ?_ rfl ⟨rfl, wr8_below HW.out (Nat.le_refl _) sp0⟩
  simp [results, Try.results12, go_sem, spV, sp0, q0, q1, q2, q3, q4, q5, q6, q7]

set_option maxHeartbeats 2000000 in
theorem rdec_nou (a : Option Addr) (cap n : Nat) (w : World) (P : Pg) (E : Int)
    (C : ∀ o : Obj, Calls Try.prog 24 #[.slice a n cap] (w.alloc o) fun e w' => ∃ g c, e = .returned (.tuple #[pgV P g c, .int .i64 E]) ∧ Own (w.alloc o).heap.size w' (.slice g P.body.length c) P.body ∧ Below (w.alloc o).heap.size (w.alloc o) w') (hE : E = 0) (hlen : P.body.length = 248) (hbys : Bys P.body) (T : Sp) (hT : sdL P.body = T) (hk : (P.kind != 1) = false) (hl : (P.level != 0) = false) (hc : (P.count != 0) = false) (hnu : nouB (P.body.drop 34) = false) :
    Calls Try.prog 12 #[.slice a n cap] w fun e w' => e = .returned (.tuple #[spV sp0, .int .i64 4]) ∧ Below w.heap.size w w' := by
  subst hE
  dsimp only [spV, sp0]
  dsimp only [pgV] at C
  go_enter Try.func12, Try.ntmps12
  go_wp2_with fail
  refine (C _).mono ?_
  clear C
  rintro e w1 ⟨g, c, rfl, ho, hb⟩
  have q : Sw8 w1 w.heap.size sp0 := (sw8_new w sp0 28).same (hb.block _ (by simp))
  have HB : Hid (Below w.heap.size w w1) := ((Below.refl _ w).alloc (Nat.le_refl _) _).trans (hb.mono (by simp))
  have HQ : Hid (Sw8 ((w1.alloc (.cells #[.int .i64 P.kind, .int .i64 P.level, .int .i64 P.count, .slice g P.body.length c] 46)).alloc (.cells #[.int .i64 T.g, .int .i64 T.p, .int .i64 T.r, .int .i64 T.h, .int .i64 T.b, .int .i64 T.l, .int .i64 T.s, .int .i64 T.f] 28)) w.heap.size sp0) := (q.alloc _).alloc _
  have HW : Hid (Below w.heap.size w ((w1.alloc (.cells #[.int .i64 P.kind, .int .i64 P.level, .int .i64 P.count, .slice g P.body.length c] 46)).alloc (.cells #[.int .i64 T.g, .int .i64 T.p, .int .i64 T.r, .int .i64 T.h, .int .i64 T.b, .int .i64 T.l, .int .i64 T.s, .int .i64 T.f] 28))) := (HB.out.alloc HB.out.size _).alloc (Nat.le_trans HB.out.size (by simp)) _
  obtain ⟨g0, c0, eg, hx1, hx2, hx3, hx4⟩ := own_at ho 0 (by rw [hlen]; decide)
  clear hx1 hx2 hx3 hx4
  simp only [Value.slice.injEq, true_and] at eg
  obtain ⟨rfl, rfl⟩ := eg
  have hr : Row (w1.alloc (.cells #[.int .i64 P.kind, .int .i64 P.level, .int .i64 P.count, .slice (some ⟨g0, 0, none⟩) P.body.length c] 46)) (some ⟨g0, 0, none⟩) c P.body := (ho.row' hbys).2.below ((Below.refl _ w1).alloc (Nat.le_refl _) _)
  have CG := fun p n => rnumber_any _ _ _ p n _ hr
  have HR2 : Hid (Row ((w1.alloc (.cells #[.int .i64 P.kind, .int .i64 P.level, .int .i64 P.count, .slice (some ⟨g0, 0, none⟩) P.body.length c] 46)).alloc (.cells #[.int .i64 T.g, .int .i64 T.p, .int .i64 T.r, .int .i64 T.h, .int .i64 T.b, .int .i64 T.l, .int .i64 T.s, .int .i64 T.f] 28)) (some ⟨g0, 0, none⟩) c P.body) := hr.below ((Below.refl _ _).alloc (Nat.le_refl _) _)
  rw [hlen] at CG
  rw [hlen] at HR2
  rw [hlen] at HQ HW ⊢
  have C0 : Hid (Calls Try.prog 25 #[.slice (some ⟨g0, 0, none⟩) 248 c, .int .i64 0, .int .i64 8] (w1.alloc (.cells #[.int .i64 P.kind, .int .i64 P.level, .int .i64 P.count, .slice (some ⟨g0, 0, none⟩) 248 c] 46)) fun e w' => e = .returned (.int .i64 T.g) ∧ (w1.alloc (.cells #[.int .i64 P.kind, .int .i64 P.level, .int .i64 P.count, .slice (some ⟨g0, 0, none⟩) 248 c] 46)) = w') := by rw [← hT]; exact CG 0 8
  have C1 : Hid (Calls Try.prog 25 #[.slice (some ⟨g0, 0, none⟩) 248 c, .int .i64 8, .int .i64 4] (w1.alloc (.cells #[.int .i64 P.kind, .int .i64 P.level, .int .i64 P.count, .slice (some ⟨g0, 0, none⟩) 248 c] 46)) fun e w' => e = .returned (.int .i64 T.p) ∧ (w1.alloc (.cells #[.int .i64 P.kind, .int .i64 P.level, .int .i64 P.count, .slice (some ⟨g0, 0, none⟩) 248 c] 46)) = w') := by rw [← hT]; exact CG 8 4
  have C2 : Hid (Calls Try.prog 25 #[.slice (some ⟨g0, 0, none⟩) 248 c, .int .i64 12, .int .i64 4] (w1.alloc (.cells #[.int .i64 P.kind, .int .i64 P.level, .int .i64 P.count, .slice (some ⟨g0, 0, none⟩) 248 c] 46)) fun e w' => e = .returned (.int .i64 T.r) ∧ (w1.alloc (.cells #[.int .i64 P.kind, .int .i64 P.level, .int .i64 P.count, .slice (some ⟨g0, 0, none⟩) 248 c] 46)) = w') := by rw [← hT]; exact CG 12 4
  have C3 : Hid (Calls Try.prog 25 #[.slice (some ⟨g0, 0, none⟩) 248 c, .int .i64 16, .int .i64 2] (w1.alloc (.cells #[.int .i64 P.kind, .int .i64 P.level, .int .i64 P.count, .slice (some ⟨g0, 0, none⟩) 248 c] 46)) fun e w' => e = .returned (.int .i64 T.h) ∧ (w1.alloc (.cells #[.int .i64 P.kind, .int .i64 P.level, .int .i64 P.count, .slice (some ⟨g0, 0, none⟩) 248 c] 46)) = w') := by rw [← hT]; exact CG 16 2
  have C4 : Hid (Calls Try.prog 25 #[.slice (some ⟨g0, 0, none⟩) 248 c, .int .i64 18, .int .i64 4] (w1.alloc (.cells #[.int .i64 P.kind, .int .i64 P.level, .int .i64 P.count, .slice (some ⟨g0, 0, none⟩) 248 c] 46)) fun e w' => e = .returned (.int .i64 T.b) ∧ (w1.alloc (.cells #[.int .i64 P.kind, .int .i64 P.level, .int .i64 P.count, .slice (some ⟨g0, 0, none⟩) 248 c] 46)) = w') := by rw [← hT]; exact CG 18 4
  have C5 : Hid (Calls Try.prog 25 #[.slice (some ⟨g0, 0, none⟩) 248 c, .int .i64 22, .int .i64 4] (w1.alloc (.cells #[.int .i64 P.kind, .int .i64 P.level, .int .i64 P.count, .slice (some ⟨g0, 0, none⟩) 248 c] 46)) fun e w' => e = .returned (.int .i64 T.l) ∧ (w1.alloc (.cells #[.int .i64 P.kind, .int .i64 P.level, .int .i64 P.count, .slice (some ⟨g0, 0, none⟩) 248 c] 46)) = w') := by rw [← hT]; exact CG 22 4
  have C6 : Hid (Calls Try.prog 25 #[.slice (some ⟨g0, 0, none⟩) 248 c, .int .i64 26, .int .i64 4] (w1.alloc (.cells #[.int .i64 P.kind, .int .i64 P.level, .int .i64 P.count, .slice (some ⟨g0, 0, none⟩) 248 c] 46)) fun e w' => e = .returned (.int .i64 T.s) ∧ (w1.alloc (.cells #[.int .i64 P.kind, .int .i64 P.level, .int .i64 P.count, .slice (some ⟨g0, 0, none⟩) 248 c] 46)) = w') := by rw [← hT]; exact CG 26 4
  have C7 : Hid (Calls Try.prog 25 #[.slice (some ⟨g0, 0, none⟩) 248 c, .int .i64 30, .int .i64 4] (w1.alloc (.cells #[.int .i64 P.kind, .int .i64 P.level, .int .i64 P.count, .slice (some ⟨g0, 0, none⟩) 248 c] 46)) fun e w' => e = .returned (.int .i64 T.f) ∧ (w1.alloc (.cells #[.int .i64 P.kind, .int .i64 P.level, .int .i64 P.count, .slice (some ⟨g0, 0, none⟩) 248 c] 46)) = w') := by rw [← hT]; exact CG 30 4
  clear CG ho hb q hr
  have CN := rnoughts_v g0 0 c 248 34 P.body _ HR2.out hlen (by decide) false hnu
  have q' := HQ.out
  obtain ⟨⟨q0, q1, q2, q3, q4, q5, q6, q7⟩, qf⟩ := q'
  have f0 := qf 0 (by omega)
  have f1 := qf 1 (by omega)
  have f2 := qf 2 (by omega)
  have f3 := qf 3 (by omega)
  have f4 := qf 4 (by omega)
  have f5 := qf 5 (by omega)
  have f6 := qf 6 (by omega)
  have f7 := qf 7 (by omega)
  clear qf
  dsimp only [sp0] at q0 q1 q2 q3 q4 q5 q6 q7
  clear HR2 hT hnu
  go_wp2_with fail
  refine C0.out.mono ?_
  clear C0
  rintro e wx ⟨rfl, rfl⟩
  go_wp2_with fail
  refine C1.out.mono ?_
  clear C1
  rintro e wx ⟨rfl, rfl⟩
  go_wp2_with fail
  refine C2.out.mono ?_
  clear C2
  rintro e wx ⟨rfl, rfl⟩
  go_wp2_with fail
  refine C3.out.mono ?_
  clear C3
  rintro e wx ⟨rfl, rfl⟩
  go_wp2_with fail
  refine C4.out.mono ?_
  clear C4
  rintro e wx ⟨rfl, rfl⟩
  go_wp2_with fail
  refine C5.out.mono ?_
  clear C5
  rintro e wx ⟨rfl, rfl⟩
  go_wp2_with fail
  refine C6.out.mono ?_
  clear C6
  rintro e wx ⟨rfl, rfl⟩
  go_wp2_with fail
  refine C7.out.mono ?_
  clear C7
  rintro e wx ⟨rfl, rfl⟩
  go_wp2_with fail
  refine CN.mono ?_
  clear CN
  rintro e wx ⟨rfl, rfl⟩
  go_wp2
  clear q0 q1 q2 q3 q4 q5 q6 q7 f0 f1 f2 f3 f4 f5 f6 f7
  obtain ⟨q0, q1, q2, q3, q4, q5, q6, q7⟩ := wr8_sl HQ.out.1 sp0
  unfold wr8 at q0 q1 q2 q3 q4 q5 q6 q7
  try dsimp only [sp0] at q0 q1 q2 q3 q4 q5 q6 q7
  refine bodyPost_ret (v := .tuple #[spV sp0, .int .i64 4]) ?_ rfl ⟨rfl, wr8_below HW.out (Nat.le_refl _) sp0⟩
  simp [results, Try.results12, go_sem, spV, sp0, q0, q1, q2, q3, q4, q5, q6, q7]

set_option maxHeartbeats 2000000 in
theorem rdec_check (a : Option Addr) (cap n : Nat) (w : World) (P : Pg) (E : Int)
    (C : ∀ o : Obj, Calls Try.prog 24 #[.slice a n cap] (w.alloc o) fun e w' => ∃ g c, e = .returned (.tuple #[pgV P g c, .int .i64 E]) ∧ Own (w.alloc o).heap.size w' (.slice g P.body.length c) P.body ∧ Below (w.alloc o).heap.size (w.alloc o) w') (hE : E = 0) (hlen : P.body.length = 248) (hbys : Bys P.body) (T : Sp) (hT : sdL P.body = T) (hk : (P.kind != 1) = false) (hl : (P.level != 0) = false) (hc : (P.count != 0) = false) (hnu : nouB (P.body.drop 34) = true) (hEN : enE T = 1) :
    Calls Try.prog 12 #[.slice a n cap] w fun e w' => e = .returned (.tuple #[spV sp0, .int .i64 4]) ∧ Below w.heap.size w w' := by
  subst hE
  dsimp only [spV, sp0]
  dsimp only [pgV] at C
  go_enter Try.func12, Try.ntmps12
  go_wp2_with fail
  refine (C _).mono ?_
  clear C
  rintro e w1 ⟨g, c, rfl, ho, hb⟩
  have q : Sw8 w1 w.heap.size sp0 := (sw8_new w sp0 28).same (hb.block _ (by simp))
  have HB : Hid (Below w.heap.size w w1) := ((Below.refl _ w).alloc (Nat.le_refl _) _).trans (hb.mono (by simp))
  have HQ : Hid (Sw8 ((w1.alloc (.cells #[.int .i64 P.kind, .int .i64 P.level, .int .i64 P.count, .slice g P.body.length c] 46)).alloc (.cells #[.int .i64 T.g, .int .i64 T.p, .int .i64 T.r, .int .i64 T.h, .int .i64 T.b, .int .i64 T.l, .int .i64 T.s, .int .i64 T.f] 28)) w.heap.size sp0) := (q.alloc _).alloc _
  have HW : Hid (Below w.heap.size w ((w1.alloc (.cells #[.int .i64 P.kind, .int .i64 P.level, .int .i64 P.count, .slice g P.body.length c] 46)).alloc (.cells #[.int .i64 T.g, .int .i64 T.p, .int .i64 T.r, .int .i64 T.h, .int .i64 T.b, .int .i64 T.l, .int .i64 T.s, .int .i64 T.f] 28))) := (HB.out.alloc HB.out.size _).alloc (Nat.le_trans HB.out.size (by simp)) _
  obtain ⟨g0, c0, eg, hx1, hx2, hx3, hx4⟩ := own_at ho 0 (by rw [hlen]; decide)
  clear hx1 hx2 hx3 hx4
  simp only [Value.slice.injEq, true_and] at eg
  obtain ⟨rfl, rfl⟩ := eg
  have hr : Row (w1.alloc (.cells #[.int .i64 P.kind, .int .i64 P.level, .int .i64 P.count, .slice (some ⟨g0, 0, none⟩) P.body.length c] 46)) (some ⟨g0, 0, none⟩) c P.body := (ho.row' hbys).2.below ((Below.refl _ w1).alloc (Nat.le_refl _) _)
  have CG := fun p n => rnumber_any _ _ _ p n _ hr
  have HR2 : Hid (Row ((w1.alloc (.cells #[.int .i64 P.kind, .int .i64 P.level, .int .i64 P.count, .slice (some ⟨g0, 0, none⟩) P.body.length c] 46)).alloc (.cells #[.int .i64 T.g, .int .i64 T.p, .int .i64 T.r, .int .i64 T.h, .int .i64 T.b, .int .i64 T.l, .int .i64 T.s, .int .i64 T.f] 28)) (some ⟨g0, 0, none⟩) c P.body) := hr.below ((Below.refl _ _).alloc (Nat.le_refl _) _)
  rw [hlen] at CG
  rw [hlen] at HR2
  rw [hlen] at HQ HW ⊢
  have C0 : Hid (Calls Try.prog 25 #[.slice (some ⟨g0, 0, none⟩) 248 c, .int .i64 0, .int .i64 8] (w1.alloc (.cells #[.int .i64 P.kind, .int .i64 P.level, .int .i64 P.count, .slice (some ⟨g0, 0, none⟩) 248 c] 46)) fun e w' => e = .returned (.int .i64 T.g) ∧ (w1.alloc (.cells #[.int .i64 P.kind, .int .i64 P.level, .int .i64 P.count, .slice (some ⟨g0, 0, none⟩) 248 c] 46)) = w') := by rw [← hT]; exact CG 0 8
  have C1 : Hid (Calls Try.prog 25 #[.slice (some ⟨g0, 0, none⟩) 248 c, .int .i64 8, .int .i64 4] (w1.alloc (.cells #[.int .i64 P.kind, .int .i64 P.level, .int .i64 P.count, .slice (some ⟨g0, 0, none⟩) 248 c] 46)) fun e w' => e = .returned (.int .i64 T.p) ∧ (w1.alloc (.cells #[.int .i64 P.kind, .int .i64 P.level, .int .i64 P.count, .slice (some ⟨g0, 0, none⟩) 248 c] 46)) = w') := by rw [← hT]; exact CG 8 4
  have C2 : Hid (Calls Try.prog 25 #[.slice (some ⟨g0, 0, none⟩) 248 c, .int .i64 12, .int .i64 4] (w1.alloc (.cells #[.int .i64 P.kind, .int .i64 P.level, .int .i64 P.count, .slice (some ⟨g0, 0, none⟩) 248 c] 46)) fun e w' => e = .returned (.int .i64 T.r) ∧ (w1.alloc (.cells #[.int .i64 P.kind, .int .i64 P.level, .int .i64 P.count, .slice (some ⟨g0, 0, none⟩) 248 c] 46)) = w') := by rw [← hT]; exact CG 12 4
  have C3 : Hid (Calls Try.prog 25 #[.slice (some ⟨g0, 0, none⟩) 248 c, .int .i64 16, .int .i64 2] (w1.alloc (.cells #[.int .i64 P.kind, .int .i64 P.level, .int .i64 P.count, .slice (some ⟨g0, 0, none⟩) 248 c] 46)) fun e w' => e = .returned (.int .i64 T.h) ∧ (w1.alloc (.cells #[.int .i64 P.kind, .int .i64 P.level, .int .i64 P.count, .slice (some ⟨g0, 0, none⟩) 248 c] 46)) = w') := by rw [← hT]; exact CG 16 2
  have C4 : Hid (Calls Try.prog 25 #[.slice (some ⟨g0, 0, none⟩) 248 c, .int .i64 18, .int .i64 4] (w1.alloc (.cells #[.int .i64 P.kind, .int .i64 P.level, .int .i64 P.count, .slice (some ⟨g0, 0, none⟩) 248 c] 46)) fun e w' => e = .returned (.int .i64 T.b) ∧ (w1.alloc (.cells #[.int .i64 P.kind, .int .i64 P.level, .int .i64 P.count, .slice (some ⟨g0, 0, none⟩) 248 c] 46)) = w') := by rw [← hT]; exact CG 18 4
  have C5 : Hid (Calls Try.prog 25 #[.slice (some ⟨g0, 0, none⟩) 248 c, .int .i64 22, .int .i64 4] (w1.alloc (.cells #[.int .i64 P.kind, .int .i64 P.level, .int .i64 P.count, .slice (some ⟨g0, 0, none⟩) 248 c] 46)) fun e w' => e = .returned (.int .i64 T.l) ∧ (w1.alloc (.cells #[.int .i64 P.kind, .int .i64 P.level, .int .i64 P.count, .slice (some ⟨g0, 0, none⟩) 248 c] 46)) = w') := by rw [← hT]; exact CG 22 4
  have C6 : Hid (Calls Try.prog 25 #[.slice (some ⟨g0, 0, none⟩) 248 c, .int .i64 26, .int .i64 4] (w1.alloc (.cells #[.int .i64 P.kind, .int .i64 P.level, .int .i64 P.count, .slice (some ⟨g0, 0, none⟩) 248 c] 46)) fun e w' => e = .returned (.int .i64 T.s) ∧ (w1.alloc (.cells #[.int .i64 P.kind, .int .i64 P.level, .int .i64 P.count, .slice (some ⟨g0, 0, none⟩) 248 c] 46)) = w') := by rw [← hT]; exact CG 26 4
  have C7 : Hid (Calls Try.prog 25 #[.slice (some ⟨g0, 0, none⟩) 248 c, .int .i64 30, .int .i64 4] (w1.alloc (.cells #[.int .i64 P.kind, .int .i64 P.level, .int .i64 P.count, .slice (some ⟨g0, 0, none⟩) 248 c] 46)) fun e w' => e = .returned (.int .i64 T.f) ∧ (w1.alloc (.cells #[.int .i64 P.kind, .int .i64 P.level, .int .i64 P.count, .slice (some ⟨g0, 0, none⟩) 248 c] 46)) = w') := by rw [← hT]; exact CG 30 4
  clear CG ho hb q hr
  have CN := rnoughts_v g0 0 c 248 34 P.body _ HR2.out hlen (by decide) true hnu
  have CK := rcheck_any T ((w1.alloc (.cells #[.int .i64 P.kind, .int .i64 P.level, .int .i64 P.count, .slice (some ⟨g0, 0, none⟩) 248 c] 46)).alloc (.cells #[.int .i64 T.g, .int .i64 T.p, .int .i64 T.r, .int .i64 T.h, .int .i64 T.b, .int .i64 T.l, .int .i64 T.s, .int .i64 T.f] 28))
  rw [hEN] at CK
  dsimp only [spV] at CK
  have HS : Hid (Sl8 ((w1.alloc (.cells #[.int .i64 P.kind, .int .i64 P.level, .int .i64 P.count, .slice (some ⟨g0, 0, none⟩) 248 c] 46)).alloc (.cells #[.int .i64 T.g, .int .i64 T.p, .int .i64 T.r, .int .i64 T.h, .int .i64 T.b, .int .i64 T.l, .int .i64 T.s, .int .i64 T.f] 28)) (w1.heap.size + 1) T) := by
    show Sl8 _ _ _
    have := sl8_new (w1.alloc (.cells #[.int .i64 P.kind, .int .i64 P.level, .int .i64 P.count, .slice (some ⟨g0, 0, none⟩) 248 c] 46)) T 28
    simpa using this
  clear HR2 hT hnu hEN
  go_wp2_with fail
  refine C0.out.mono ?_
  clear C0
  rintro e wx ⟨rfl, rfl⟩
  go_wp2_with fail
  refine C1.out.mono ?_
  clear C1
  rintro e wx ⟨rfl, rfl⟩
  go_wp2_with fail
  refine C2.out.mono ?_
  clear C2
  rintro e wx ⟨rfl, rfl⟩
  go_wp2_with fail
  refine C3.out.mono ?_
  clear C3
  rintro e wx ⟨rfl, rfl⟩
  go_wp2_with fail
  refine C4.out.mono ?_
  clear C4
  rintro e wx ⟨rfl, rfl⟩
  go_wp2_with fail
  refine C5.out.mono ?_
  clear C5
  rintro e wx ⟨rfl, rfl⟩
  go_wp2_with fail
  refine C6.out.mono ?_
  clear C6
  rintro e wx ⟨rfl, rfl⟩
  go_wp2_with fail
  refine C7.out.mono ?_
  clear C7
  rintro e wx ⟨rfl, rfl⟩
  go_wp2_with fail
  refine CN.mono ?_
  clear CN
  rintro e wx ⟨rfl, rfl⟩
  go_wp2_with fail
  refine CK.mono ?_
  clear CK
  rintro e w4 ⟨rfl, hb4⟩
  have q' := HQ.out.below hb4
  have hs4 := HS.out.below hb4
  have HB4 : Hid (Below w.heap.size w w4) := HW.out.trans (hb4.mono HW.out.size)
  have HQ4 : Hid (Sl8 w4 w.heap.size sp0) := q'.1
  obtain ⟨k0, k1, k2, k3, k4, k5, k6, k7⟩ := hs4
  clear hb4
  obtain ⟨⟨q0, q1, q2, q3, q4, q5, q6, q7⟩, qf⟩ := q'
  have f0 := qf 0 (by omega)
  have f1 := qf 1 (by omega)
  have f2 := qf 2 (by omega)
  have f3 := qf 3 (by omega)
  have f4 := qf 4 (by omega)
  have f5 := qf 5 (by omega)
  have f6 := qf 6 (by omega)
  have f7 := qf 7 (by omega)
  clear qf
  dsimp only [sp0] at q0 q1 q2 q3 q4 q5 q6 q7
  go_wp2
  clear k0 k1 k2 k3 k4 k5 k6 k7
  clear q0 q1 q2 q3 q4 q5 q6 q7 f0 f1 f2 f3 f4 f5 f6 f7
  obtain ⟨q0, q1, q2, q3, q4, q5, q6, q7⟩ := wr8_sl HQ4.out sp0
  unfold wr8 at q0 q1 q2 q3 q4 q5 q6 q7
  try dsimp only [sp0] at q0 q1 q2 q3 q4 q5 q6 q7
  refine bodyPost_ret (v := .tuple #[spV sp0, .int .i64 4]) ?_ rfl ⟨rfl, wr8_below HB4.out (Nat.le_refl _) sp0⟩
  simp [results, Try.results12, go_sem, spV, sp0, q0, q1, q2, q3, q4, q5, q6, q7]

set_option maxHeartbeats 2000000 in
theorem rdec_good (a : Option Addr) (cap n : Nat) (w : World) (P : Pg) (E : Int)
    (C : ∀ o : Obj, Calls Try.prog 24 #[.slice a n cap] (w.alloc o) fun e w' => ∃ g c, e = .returned (.tuple #[pgV P g c, .int .i64 E]) ∧ Own (w.alloc o).heap.size w' (.slice g P.body.length c) P.body ∧ Below (w.alloc o).heap.size (w.alloc o) w') (hE : E = 0) (hlen : P.body.length = 248) (hbys : Bys P.body) (T : Sp) (hT : sdL P.body = T) (hk : (P.kind != 1) = false) (hl : (P.level != 0) = false) (hc : (P.count != 0) = false) (hnu : nouB (P.body.drop 34) = true) (hEN : enE T = 0) :
    Calls Try.prog 12 #[.slice a n cap] w fun e w' => e = .returned (.tuple #[spV T, .int .i64 0]) ∧ Below w.heap.size w w' := by
  subst hE
  dsimp only [spV, sp0]
  dsimp only [pgV] at C
  go_enter Try.func12, Try.ntmps12
  go_wp2_with fail
  refine (C _).mono ?_
  clear C
  rintro e w1 ⟨g, c, rfl, ho, hb⟩
  have q : Sw8 w1 w.heap.size sp0 := (sw8_new w sp0 28).same (hb.block _ (by simp))
  have HB : Hid (Below w.heap.size w w1) := ((Below.refl _ w).alloc (Nat.le_refl _) _).trans (hb.mono (by simp))
  have HQ : Hid (Sw8 ((w1.alloc (.cells #[.int .i64 P.kind, .int .i64 P.level, .int .i64 P.count, .slice g P.body.length c] 46)).alloc (.cells #[.int .i64 T.g, .int .i64 T.p, .int .i64 T.r, .int .i64 T.h, .int .i64 T.b, .int .i64 T.l, .int .i64 T.s, .int .i64 T.f] 28)) w.heap.size sp0) := (q.alloc _).alloc _
  have HW : Hid (Below w.heap.size w ((w1.alloc (.cells #[.int .i64 P.kind, .int .i64 P.level, .int .i64 P.count, .slice g P.body.length c] 46)).alloc (.cells #[.int .i64 T.g, .int .i64 T.p, .int .i64 T.r, .int .i64 T.h, .int .i64 T.b, .int .i64 T.l, .int .i64 T.s, .int .i64 T.f] 28))) := (HB.out.alloc HB.out.size _).alloc (Nat.le_trans HB.out.size (by simp)) _
  obtain ⟨g0, c0, eg, hx1, hx2, hx3, hx4⟩ := own_at ho 0 (by rw [hlen]; decide)
  clear hx1 hx2 hx3 hx4
  simp only [Value.slice.injEq, true_and] at eg
  obtain ⟨rfl, rfl⟩ := eg
  have hr : Row (w1.alloc (.cells #[.int .i64 P.kind, .int .i64 P.level, .int .i64 P.count, .slice (some ⟨g0, 0, none⟩) P.body.length c] 46)) (some ⟨g0, 0, none⟩) c P.body := (ho.row' hbys).2.below ((Below.refl _ w1).alloc (Nat.le_refl _) _)
  have CG := fun p n => rnumber_any _ _ _ p n _ hr
  have HR2 : Hid (Row ((w1.alloc (.cells #[.int .i64 P.kind, .int .i64 P.level, .int .i64 P.count, .slice (some ⟨g0, 0, none⟩) P.body.length c] 46)).alloc (.cells #[.int .i64 T.g, .int .i64 T.p, .int .i64 T.r, .int .i64 T.h, .int .i64 T.b, .int .i64 T.l, .int .i64 T.s, .int .i64 T.f] 28)) (some ⟨g0, 0, none⟩) c P.body) := hr.below ((Below.refl _ _).alloc (Nat.le_refl _) _)
  rw [hlen] at CG
  rw [hlen] at HR2
  rw [hlen] at HQ HW ⊢
  have C0 : Hid (Calls Try.prog 25 #[.slice (some ⟨g0, 0, none⟩) 248 c, .int .i64 0, .int .i64 8] (w1.alloc (.cells #[.int .i64 P.kind, .int .i64 P.level, .int .i64 P.count, .slice (some ⟨g0, 0, none⟩) 248 c] 46)) fun e w' => e = .returned (.int .i64 T.g) ∧ (w1.alloc (.cells #[.int .i64 P.kind, .int .i64 P.level, .int .i64 P.count, .slice (some ⟨g0, 0, none⟩) 248 c] 46)) = w') := by rw [← hT]; exact CG 0 8
  have C1 : Hid (Calls Try.prog 25 #[.slice (some ⟨g0, 0, none⟩) 248 c, .int .i64 8, .int .i64 4] (w1.alloc (.cells #[.int .i64 P.kind, .int .i64 P.level, .int .i64 P.count, .slice (some ⟨g0, 0, none⟩) 248 c] 46)) fun e w' => e = .returned (.int .i64 T.p) ∧ (w1.alloc (.cells #[.int .i64 P.kind, .int .i64 P.level, .int .i64 P.count, .slice (some ⟨g0, 0, none⟩) 248 c] 46)) = w') := by rw [← hT]; exact CG 8 4
  have C2 : Hid (Calls Try.prog 25 #[.slice (some ⟨g0, 0, none⟩) 248 c, .int .i64 12, .int .i64 4] (w1.alloc (.cells #[.int .i64 P.kind, .int .i64 P.level, .int .i64 P.count, .slice (some ⟨g0, 0, none⟩) 248 c] 46)) fun e w' => e = .returned (.int .i64 T.r) ∧ (w1.alloc (.cells #[.int .i64 P.kind, .int .i64 P.level, .int .i64 P.count, .slice (some ⟨g0, 0, none⟩) 248 c] 46)) = w') := by rw [← hT]; exact CG 12 4
  have C3 : Hid (Calls Try.prog 25 #[.slice (some ⟨g0, 0, none⟩) 248 c, .int .i64 16, .int .i64 2] (w1.alloc (.cells #[.int .i64 P.kind, .int .i64 P.level, .int .i64 P.count, .slice (some ⟨g0, 0, none⟩) 248 c] 46)) fun e w' => e = .returned (.int .i64 T.h) ∧ (w1.alloc (.cells #[.int .i64 P.kind, .int .i64 P.level, .int .i64 P.count, .slice (some ⟨g0, 0, none⟩) 248 c] 46)) = w') := by rw [← hT]; exact CG 16 2
  have C4 : Hid (Calls Try.prog 25 #[.slice (some ⟨g0, 0, none⟩) 248 c, .int .i64 18, .int .i64 4] (w1.alloc (.cells #[.int .i64 P.kind, .int .i64 P.level, .int .i64 P.count, .slice (some ⟨g0, 0, none⟩) 248 c] 46)) fun e w' => e = .returned (.int .i64 T.b) ∧ (w1.alloc (.cells #[.int .i64 P.kind, .int .i64 P.level, .int .i64 P.count, .slice (some ⟨g0, 0, none⟩) 248 c] 46)) = w') := by rw [← hT]; exact CG 18 4
  have C5 : Hid (Calls Try.prog 25 #[.slice (some ⟨g0, 0, none⟩) 248 c, .int .i64 22, .int .i64 4] (w1.alloc (.cells #[.int .i64 P.kind, .int .i64 P.level, .int .i64 P.count, .slice (some ⟨g0, 0, none⟩) 248 c] 46)) fun e w' => e = .returned (.int .i64 T.l) ∧ (w1.alloc (.cells #[.int .i64 P.kind, .int .i64 P.level, .int .i64 P.count, .slice (some ⟨g0, 0, none⟩) 248 c] 46)) = w') := by rw [← hT]; exact CG 22 4
  have C6 : Hid (Calls Try.prog 25 #[.slice (some ⟨g0, 0, none⟩) 248 c, .int .i64 26, .int .i64 4] (w1.alloc (.cells #[.int .i64 P.kind, .int .i64 P.level, .int .i64 P.count, .slice (some ⟨g0, 0, none⟩) 248 c] 46)) fun e w' => e = .returned (.int .i64 T.s) ∧ (w1.alloc (.cells #[.int .i64 P.kind, .int .i64 P.level, .int .i64 P.count, .slice (some ⟨g0, 0, none⟩) 248 c] 46)) = w') := by rw [← hT]; exact CG 26 4
  have C7 : Hid (Calls Try.prog 25 #[.slice (some ⟨g0, 0, none⟩) 248 c, .int .i64 30, .int .i64 4] (w1.alloc (.cells #[.int .i64 P.kind, .int .i64 P.level, .int .i64 P.count, .slice (some ⟨g0, 0, none⟩) 248 c] 46)) fun e w' => e = .returned (.int .i64 T.f) ∧ (w1.alloc (.cells #[.int .i64 P.kind, .int .i64 P.level, .int .i64 P.count, .slice (some ⟨g0, 0, none⟩) 248 c] 46)) = w') := by rw [← hT]; exact CG 30 4
  clear CG ho hb q hr
  have CN := rnoughts_v g0 0 c 248 34 P.body _ HR2.out hlen (by decide) true hnu
  have CK := rcheck_any T ((w1.alloc (.cells #[.int .i64 P.kind, .int .i64 P.level, .int .i64 P.count, .slice (some ⟨g0, 0, none⟩) 248 c] 46)).alloc (.cells #[.int .i64 T.g, .int .i64 T.p, .int .i64 T.r, .int .i64 T.h, .int .i64 T.b, .int .i64 T.l, .int .i64 T.s, .int .i64 T.f] 28))
  rw [hEN] at CK
  dsimp only [spV] at CK
  have HS : Hid (Sl8 ((w1.alloc (.cells #[.int .i64 P.kind, .int .i64 P.level, .int .i64 P.count, .slice (some ⟨g0, 0, none⟩) 248 c] 46)).alloc (.cells #[.int .i64 T.g, .int .i64 T.p, .int .i64 T.r, .int .i64 T.h, .int .i64 T.b, .int .i64 T.l, .int .i64 T.s, .int .i64 T.f] 28)) (w1.heap.size + 1) T) := by
    show Sl8 _ _ _
    have := sl8_new (w1.alloc (.cells #[.int .i64 P.kind, .int .i64 P.level, .int .i64 P.count, .slice (some ⟨g0, 0, none⟩) 248 c] 46)) T 28
    simpa using this
  clear HR2 hT hnu hEN
  go_wp2_with fail
  refine C0.out.mono ?_
  clear C0
  rintro e wx ⟨rfl, rfl⟩
  go_wp2_with fail
  refine C1.out.mono ?_
  clear C1
  rintro e wx ⟨rfl, rfl⟩
  go_wp2_with fail
  refine C2.out.mono ?_
  clear C2
  rintro e wx ⟨rfl, rfl⟩
  go_wp2_with fail
  refine C3.out.mono ?_
  clear C3
  rintro e wx ⟨rfl, rfl⟩
  go_wp2_with fail
  refine C4.out.mono ?_
  clear C4
  rintro e wx ⟨rfl, rfl⟩
  go_wp2_with fail
  refine C5.out.mono ?_
  clear C5
  rintro e wx ⟨rfl, rfl⟩
  go_wp2_with fail
  refine C6.out.mono ?_
  clear C6
  rintro e wx ⟨rfl, rfl⟩
  go_wp2_with fail
  refine C7.out.mono ?_
  clear C7
  rintro e wx ⟨rfl, rfl⟩
  go_wp2_with fail
  refine CN.mono ?_
  clear CN
  rintro e wx ⟨rfl, rfl⟩
  go_wp2_with fail
  refine CK.mono ?_
  clear CK
  rintro e w4 ⟨rfl, hb4⟩
  have q' := HQ.out.below hb4
  have hs4 := HS.out.below hb4
  have HB4 : Hid (Below w.heap.size w w4) := HW.out.trans (hb4.mono HW.out.size)
  have HQ4 : Hid (Sl8 w4 w.heap.size sp0) := q'.1
  obtain ⟨k0, k1, k2, k3, k4, k5, k6, k7⟩ := hs4
  clear hb4
  obtain ⟨⟨q0, q1, q2, q3, q4, q5, q6, q7⟩, qf⟩ := q'
  have f0 := qf 0 (by omega)
  have f1 := qf 1 (by omega)
  have f2 := qf 2 (by omega)
  have f3 := qf 3 (by omega)
  have f4 := qf 4 (by omega)
  have f5 := qf 5 (by omega)
  have f6 := qf 6 (by omega)
  have f7 := qf 7 (by omega)
  clear qf
  dsimp only [sp0] at q0 q1 q2 q3 q4 q5 q6 q7
  go_wp2
  clear k0 k1 k2 k3 k4 k5 k6 k7
  clear q0 q1 q2 q3 q4 q5 q6 q7 f0 f1 f2 f3 f4 f5 f6 f7
  obtain ⟨q0, q1, q2, q3, q4, q5, q6, q7⟩ := wr8_sl HQ4.out T
  unfold wr8 at q0 q1 q2 q3 q4 q5 q6 q7
  try dsimp only [sp0] at q0 q1 q2 q3 q4 q5 q6 q7
  refine bodyPost_ret (v := .tuple #[spV T, .int .i64 0]) ?_ rfl ⟨rfl, wr8_below HB4.out (Nat.le_refl _) T⟩
  simp [results, Try.results12, go_sem, spV, q0, q1, q2, q3, q4, q5, q6, q7]

theorem rdecode_v (a : Option Addr) (cap n : Nat) (zs : List Int) (w : World) (h : Row w a cap zs) (hn : zs.length = n) (T : Sp) (hT : deS zs = T) (E : Int) (hE : deE zs = E) :
    Calls Try.prog 12 #[.slice a n cap] w fun e w' => e = .returned (.tuple #[spV T, .int .i64 E]) ∧ Below w.heap.size w w' := by
  subst hT hE
  have C : ∀ o : Obj, Calls Try.prog 24 #[.slice a n cap] (w.alloc o) fun e w' => ∃ g c, e = .returned (.tuple #[pgV (opP zs) g c, .int .i64 (opE zs)]) ∧ Own (w.alloc o).heap.size w' (.slice g (opP zs).body.length c) (opP zs).body ∧ Below (w.alloc o).heap.size (w.alloc o) w' := fun o => ropen_v a cap n zs _ (h.below ((Below.refl _ w).alloc (Nat.le_refl _) o)) hn _ rfl _ rfl
  by_cases ho : opE zs = 0
  · have hlen : (opP zs).body.length = 248 := (seal_open h.1 ho).2.2.2
    have hbys : Bys (opP zs).body := opP_bys h.1
    have bad : deB (opP zs) = false → (deS zs = sp0 ∧ deE zs = 4) := fun hB => ⟨(de_bad ho hB).2, (de_bad ho hB).1⟩
    by_cases hk : (opP zs).kind = 1
    rotate_left
    · obtain ⟨e1, e2⟩ := bad (by unfold deB; simp [hk])
      rw [e1, e2]
      exact rdec_kind a cap n w _ _ C ho hlen hbys _ rfl (by simpa using hk)
    by_cases hl : (opP zs).level = 0
    rotate_left
    · obtain ⟨e1, e2⟩ := bad (by unfold deB; simp [hl])
      rw [e1, e2]
      exact rdec_level a cap n w _ _ C ho hlen hbys _ rfl (by simpa using hk) (by simpa using hl)
    by_cases hc : (opP zs).count = 0
    rotate_left
    · obtain ⟨e1, e2⟩ := bad (by unfold deB; simp [hc])
      rw [e1, e2]
      exact rdec_count a cap n w _ _ C ho hlen hbys _ rfl (by simpa using hk) (by simpa using hl) (by simpa using hc)
    cases hr : nouB ((opP zs).body.drop 34)
    · obtain ⟨e1, e2⟩ := bad (by unfold deB; rw [hr]; simp)
      rw [e1, e2]
      exact rdec_nou a cap n w _ _ C ho hlen hbys _ rfl (by simpa using hk) (by simpa using hl) (by simpa using hc) hr
    cases hok : okS (sdL (opP zs).body)
    · obtain ⟨e1, e2⟩ := bad (by unfold deB; rw [hok]; simp)
      rw [e1, e2]
      exact rdec_check a cap n w _ _ C ho hlen hbys _ rfl (by simpa using hk) (by simpa using hl) (by simpa using hc) hr (by unfold enE; rw [hok]; rfl)
    · obtain ⟨e1, e2⟩ := de_good ho (by unfold deB; rw [hok, hr]; simp [hk, hl, hc])
      rw [e1, e2]
      exact rdec_good a cap n w _ _ C ho hlen hbys _ rfl (by simpa using hk) (by simpa using hl) (by simpa using hc) hr (by unfold enE; rw [hok]; rfl)
  · obtain ⟨e1, e2⟩ := de_no ho
    rw [e1, e2]
    exact rdec_err a cap n w _ _ C (by simpa using ho)
end Go.Proofs.Ytoadkdjmbhflnaa.Oct
