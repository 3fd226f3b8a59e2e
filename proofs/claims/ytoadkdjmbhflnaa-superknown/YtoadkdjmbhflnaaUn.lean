/-
  The document's Choose.
-/
import Derived.Test.YtoadkdjmbhflnaaUm
namespace Go.Proofs.Ytoadkdjmbhflnaa.Oct
open Go.RowKit

set_option maxHeartbeats 2000000 in
theorem rch_none (a a' : Option Addr) (cap cap' n n' : Nat) (w : World) (T U : Sp) (e f : Int)
    (C1 : ∀ w1, Below w.heap.size w w1 → Calls Try.prog 12 #[.slice a n cap] w1 fun r w' => r = .returned (.tuple #[spV T, .int .i64 e]) ∧ Below w1.heap.size w1 w')
    (C2 : ∀ w1, Below w.heap.size w w1 → Calls Try.prog 12 #[.slice a' n' cap'] w1 fun r w' => r = .returned (.tuple #[spV U, .int .i64 f]) ∧ Below w1.heap.size w1 w') (he : (e != 0) = true) (hf : (f != 0) = true) :
    Calls Try.prog 16 #[.slice a n cap, .slice a' n' cap'] w fun r w' => r = .returned (.tuple #[spV sp0, .int .i64 (-1), .int .i64 8]) ∧ Below w.heap.size w w' := by
  have H1 : Hid _ := C1
  have H2 : Hid _ := C2
  clear C1 C2
  dsimp only [spV, sp0] at H1 H2 ⊢
  go_enter Try.func16, Try.ntmps16
  go_wp2_with fail
  refine (H1.out _ ((Below.refl _ w).alloc (Nat.le_refl _) _)).mono ?_
  clear H1
  rintro r w1 ⟨rfl, hb⟩
  have R1 : Hid (Sw8 w1 w.heap.size sp0) := (sw8_new w sp0 28).same (hb.block _ (by simp))
  have HB1 : Hid (Below w.heap.size w w1) := ((Below.refl _ w).alloc (Nat.le_refl _) _).trans (hb.mono (by simp))
  clear hb
  go_wp2_with fail
  refine (H2.out _ (HB1.out.alloc HB1.out.size _)).mono ?_
  clear H2
  rintro r w2 ⟨rfl, hb⟩
  have R2 : Hid (Sw8 (w2.alloc (.cells #[.int .i64 U.g, .int .i64 U.p, .int .i64 U.r, .int .i64 U.h, .int .i64 U.b, .int .i64 U.l, .int .i64 U.s, .int .i64 U.f] 28)) w.heap.size sp0) := ((R1.out.alloc _).below hb).alloc _
  have X2 : Hid (Sl8 (w2.alloc (.cells #[.int .i64 U.g, .int .i64 U.p, .int .i64 U.r, .int .i64 U.h, .int .i64 U.b, .int .i64 U.l, .int .i64 U.s, .int .i64 U.f] 28)) w1.heap.size T) := ((sw8_new w1 T 28).below hb).alloc _ |>.1
  have HB2 : Hid (Below w.heap.size w (w2.alloc (.cells #[.int .i64 U.g, .int .i64 U.p, .int .i64 U.r, .int .i64 U.h, .int .i64 U.b, .int .i64 U.l, .int .i64 U.s, .int .i64 U.f] 28))) := by
    have h1 : Below w.heap.size w w2 := (HB1.out.alloc HB1.out.size _).trans (hb.mono (Nat.le_trans HB1.out.size (by simp)))
    exact h1.alloc h1.size _
  clear hb
  have q' := R2.out
  obtain ⟨k0, k1, k2, k3, k4, k5, k6, k7⟩ := X2.out
  obtain ⟨⟨q0, q1, q2, q3, q4, q5, q6, q7⟩, qf⟩ := q'
  have f0 := qf 0 (by omega)
  have f1 := qf 1 (by omega)
  have f2 := qf 2 (by omega)
  have f3 := qf 3 (by omega)
  have f4 := qf 4 (by omega)
  have f5 := qf 5 (by omega)
  have f6 := qf 6 (by omega)
  have f7 := qf 7 (by omega)
  clear qf
  dsimp only [sp0] at q0 q1 q2 q3 q4 q5 q6 q7
  go_wp2
  clear k0 k1 k2 k3 k4 k5 k6 k7
  clear q0 q1 q2 q3 q4 q5 q6 q7 f0 f1 f2 f3 f4 f5 f6 f7
  obtain ⟨q0, q1, q2, q3, q4, q5, q6, q7⟩ := wr8_sl R2.out.1 sp0
  unfold wr8 at q0 q1 q2 q3 q4 q5 q6 q7
  dsimp only [sp0] at q0 q1 q2 q3 q4 q5 q6 q7
  refine bodyPost_ret (v := .tuple #[spV sp0, .int .i64 (-1), .int .i64 8]) ?_ rfl ⟨rfl, wr8_below HB2.out (Nat.le_refl _) sp0⟩
  simp [results, Try.results16, go_sem, spV, sp0, q0, q1, q2, q3, q4, q5, q6, q7]

set_option maxHeartbeats 2000000 in
theorem rch_a (a a' : Option Addr) (cap cap' n n' : Nat) (w : World) (T U : Sp) (e f : Int)
    (C1 : ∀ w1, Below w.heap.size w w1 → Calls Try.prog 12 #[.slice a n cap] w1 fun r w' => r = .returned (.tuple #[spV T, .int .i64 e]) ∧ Below w1.heap.size w1 w')
    (C2 : ∀ w1, Below w.heap.size w w1 → Calls Try.prog 12 #[.slice a' n' cap'] w1 fun r w' => r = .returned (.tuple #[spV U, .int .i64 f]) ∧ Below w1.heap.size w1 w') (he : e = 0) (hf : (f != 0) = true) :
    Calls Try.prog 16 #[.slice a n cap, .slice a' n' cap'] w fun r w' => r = .returned (.tuple #[spV T, .int .i64 0, .int .i64 0]) ∧ Below w.heap.size w w' := by
  subst he
  have H1 : Hid _ := C1
  have H2 : Hid _ := C2
  clear C1 C2
  dsimp only [spV, sp0] at H1 H2 ⊢
  go_enter Try.func16, Try.ntmps16
  go_wp2_with fail
  refine (H1.out _ ((Below.refl _ w).alloc (Nat.le_refl _) _)).mono ?_
  clear H1
  rintro r w1 ⟨rfl, hb⟩
  have R1 : Hid (Sw8 w1 w.heap.size sp0) := (sw8_new w sp0 28).same (hb.block _ (by simp))
  have HB1 : Hid (Below w.heap.size w w1) := ((Below.refl _ w).alloc (Nat.le_refl _) _).trans (hb.mono (by simp))
  clear hb
  go_wp2_with fail
  refine (H2.out _ (HB1.out.alloc HB1.out.size _)).mono ?_
  clear H2
  rintro r w2 ⟨rfl, hb⟩
  have R2 : Hid (Sw8 (w2.alloc (.cells #[.int .i64 U.g, .int .i64 U.p, .int .i64 U.r, .int .i64 U.h, .int .i64 U.b, .int .i64 U.l, .int .i64 U.s, .int .i64 U.f] 28)) w.heap.size sp0) := ((R1.out.alloc _).below hb).alloc _
  have X2 : Hid (Sl8 (w2.alloc (.cells #[.int .i64 U.g, .int .i64 U.p, .int .i64 U.r, .int .i64 U.h, .int .i64 U.b, .int .i64 U.l, .int .i64 U.s, .int .i64 U.f] 28)) w1.heap.size T) := ((sw8_new w1 T 28).below hb).alloc _ |>.1
  have HB2 : Hid (Below w.heap.size w (w2.alloc (.cells #[.int .i64 U.g, .int .i64 U.p, .int .i64 U.r, .int .i64 U.h, .int .i64 U.b, .int .i64 U.l, .int .i64 U.s, .int .i64 U.f] 28))) := by
    have h1 : Below w.heap.size w w2 := (HB1.out.alloc HB1.out.size _).trans (hb.mono (Nat.le_trans HB1.out.size (by simp)))
    exact h1.alloc h1.size _
  clear hb
  have q' := R2.out
  obtain ⟨k0, k1, k2, k3, k4, k5, k6, k7⟩ := X2.out
  obtain ⟨⟨q0, q1, q2, q3, q4, q5, q6, q7⟩, qf⟩ := q'
  have f0 := qf 0 (by omega)
  have f1 := qf 1 (by omega)
  have f2 := qf 2 (by omega)
  have f3 := qf 3 (by omega)
  have f4 := qf 4 (by omega)
  have f5 := qf 5 (by omega)
  have f6 := qf 6 (by omega)
  have f7 := qf 7 (by omega)
  clear qf
  dsimp only [sp0] at q0 q1 q2 q3 q4 q5 q6 q7
  go_wp2
  clear k0 k1 k2 k3 k4 k5 k6 k7
  clear q0 q1 q2 q3 q4 q5 q6 q7 f0 f1 f2 f3 f4 f5 f6 f7
  obtain ⟨q0, q1, q2, q3, q4, q5, q6, q7⟩ := wr8_sl R2.out.1 T
  unfold wr8 at q0 q1 q2 q3 q4 q5 q6 q7
  refine bodyPost_ret (v := .tuple #[spV T, .int .i64 0, .int .i64 0]) ?_ rfl ⟨rfl, wr8_below HB2.out (Nat.le_refl _) T⟩
  simp [results, Try.results16, go_sem, spV, q0, q1, q2, q3, q4, q5, q6, q7]

set_option maxHeartbeats 2000000 in
theorem rch_b (a a' : Option Addr) (cap cap' n n' : Nat) (w : World) (T U : Sp) (e f : Int)
    (C1 : ∀ w1, Below w.heap.size w w1 → Calls Try.prog 12 #[.slice a n cap] w1 fun r w' => r = .returned (.tuple #[spV T, .int .i64 e]) ∧ Below w1.heap.size w1 w')
    (C2 : ∀ w1, Below w.heap.size w w1 → Calls Try.prog 12 #[.slice a' n' cap'] w1 fun r w' => r = .returned (.tuple #[spV U, .int .i64 f]) ∧ Below w1.heap.size w1 w') (he : e = 0) (hf : f = 0) (hg : U.g ≤ T.g) :
    Calls Try.prog 16 #[.slice a n cap, .slice a' n' cap'] w fun r w' => r = .returned (.tuple #[spV T, .int .i64 0, .int .i64 0]) ∧ Below w.heap.size w w' := by
  subst he
  subst hf
  have H1 : Hid _ := C1
  have H2 : Hid _ := C2
  clear C1 C2
  dsimp only [spV, sp0] at H1 H2 ⊢
  go_enter Try.func16, Try.ntmps16
  go_wp2_with fail
  refine (H1.out _ ((Below.refl _ w).alloc (Nat.le_refl _) _)).mono ?_
  clear H1
  rintro r w1 ⟨rfl, hb⟩
  have R1 : Hid (Sw8 w1 w.heap.size sp0) := (sw8_new w sp0 28).same (hb.block _ (by simp))
  have HB1 : Hid (Below w.heap.size w w1) := ((Below.refl _ w).alloc (Nat.le_refl _) _).trans (hb.mono (by simp))
  clear hb
  go_wp2_with fail
  refine (H2.out _ (HB1.out.alloc HB1.out.size _)).mono ?_
  clear H2
  rintro r w2 ⟨rfl, hb⟩
  have R2 : Hid (Sw8 (w2.alloc (.cells #[.int .i64 U.g, .int .i64 U.p, .int .i64 U.r, .int .i64 U.h, .int .i64 U.b, .int .i64 U.l, .int .i64 U.s, .int .i64 U.f] 28)) w.heap.size sp0) := ((R1.out.alloc _).below hb).alloc _
  have X2 : Hid (Sl8 (w2.alloc (.cells #[.int .i64 U.g, .int .i64 U.p, .int .i64 U.r, .int .i64 U.h, .int .i64 U.b, .int .i64 U.l, .int .i64 U.s, .int .i64 U.f] 28)) w1.heap.size T) := ((sw8_new w1 T 28).below hb).alloc _ |>.1
  have HB2 : Hid (Below w.heap.size w (w2.alloc (.cells #[.int .i64 U.g, .int .i64 U.p, .int .i64 U.r, .int .i64 U.h, .int .i64 U.b, .int .i64 U.l, .int .i64 U.s, .int .i64 U.f] 28))) := by
    have h1 : Below w.heap.size w w2 := (HB1.out.alloc HB1.out.size _).trans (hb.mono (Nat.le_trans HB1.out.size (by simp)))
    exact h1.alloc h1.size _
  clear hb
  have q' := R2.out
  obtain ⟨k0, k1, k2, k3, k4, k5, k6, k7⟩ := X2.out
  obtain ⟨⟨q0, q1, q2, q3, q4, q5, q6, q7⟩, qf⟩ := q'
  have f0 := qf 0 (by omega)
  have f1 := qf 1 (by omega)
  have f2 := qf 2 (by omega)
  have f3 := qf 3 (by omega)
  have f4 := qf 4 (by omega)
  have f5 := qf 5 (by omega)
  have f6 := qf 6 (by omega)
  have f7 := qf 7 (by omega)
  clear qf
  dsimp only [sp0] at q0 q1 q2 q3 q4 q5 q6 q7
  go_wp2
  clear k0 k1 k2 k3 k4 k5 k6 k7
  clear q0 q1 q2 q3 q4 q5 q6 q7 f0 f1 f2 f3 f4 f5 f6 f7
  obtain ⟨q0, q1, q2, q3, q4, q5, q6, q7⟩ := wr8_sl R2.out.1 T
  unfold wr8 at q0 q1 q2 q3 q4 q5 q6 q7
  refine bodyPost_ret (v := .tuple #[spV T, .int .i64 0, .int .i64 0]) ?_ rfl ⟨rfl, wr8_below HB2.out (Nat.le_refl _) T⟩
  simp [results, Try.results16, go_sem, spV, q0, q1, q2, q3, q4, q5, q6, q7]

set_option maxHeartbeats 2000000 in
theorem rch_c (a a' : Option Addr) (cap cap' n n' : Nat) (w : World) (T U : Sp) (e f : Int)
    (C1 : ∀ w1, Below w.heap.size w w1 → Calls Try.prog 12 #[.slice a n cap] w1 fun r w' => r = .returned (.tuple #[spV T, .int .i64 e]) ∧ Below w1.heap.size w1 w')
    (C2 : ∀ w1, Below w.heap.size w w1 → Calls Try.prog 12 #[.slice a' n' cap'] w1 fun r w' => r = .returned (.tuple #[spV U, .int .i64 f]) ∧ Below w1.heap.size w1 w') (he : e = 0) (hf : f = 0) (hg : ¬ U.g ≤ T.g) :
    Calls Try.prog 16 #[.slice a n cap, .slice a' n' cap'] w fun r w' => r = .returned (.tuple #[spV U, .int .i64 1, .int .i64 0]) ∧ Below w.heap.size w w' := by
  subst he
  subst hf
  have H1 : Hid _ := C1
  have H2 : Hid _ := C2
  clear C1 C2
  dsimp only [spV, sp0] at H1 H2 ⊢
  go_enter Try.func16, Try.ntmps16
  go_wp2_with fail
  refine (H1.out _ ((Below.refl _ w).alloc (Nat.le_refl _) _)).mono ?_
  clear H1
  rintro r w1 ⟨rfl, hb⟩
  have R1 : Hid (Sw8 w1 w.heap.size sp0) := (sw8_new w sp0 28).same (hb.block _ (by simp))
  have HB1 : Hid (Below w.heap.size w w1) := ((Below.refl _ w).alloc (Nat.le_refl _) _).trans (hb.mono (by simp))
  clear hb
  go_wp2_with fail
  refine (H2.out _ (HB1.out.alloc HB1.out.size _)).mono ?_
  clear H2
  rintro r w2 ⟨rfl, hb⟩
  have R2 : Hid (Sw8 (w2.alloc (.cells #[.int .i64 U.g, .int .i64 U.p, .int .i64 U.r, .int .i64 U.h, .int .i64 U.b, .int .i64 U.l, .int .i64 U.s, .int .i64 U.f] 28)) w.heap.size sp0) := ((R1.out.alloc _).below hb).alloc _
  have X2 : Hid (Sl8 (w2.alloc (.cells #[.int .i64 U.g, .int .i64 U.p, .int .i64 U.r, .int .i64 U.h, .int .i64 U.b, .int .i64 U.l, .int .i64 U.s, .int .i64 U.f] 28)) w1.heap.size T) := ((sw8_new w1 T 28).below hb).alloc _ |>.1
  have HB2 : Hid (Below w.heap.size w (w2.alloc (.cells #[.int .i64 U.g, .int .i64 U.p, .int .i64 U.r, .int .i64 U.h, .int .i64 U.b, .int .i64 U.l, .int .i64 U.s, .int .i64 U.f] 28))) := by
    have h1 : Below w.heap.size w w2 := (HB1.out.alloc HB1.out.size _).trans (hb.mono (Nat.le_trans HB1.out.size (by simp)))
    exact h1.alloc h1.size _
  clear hb
  have q' := R2.out
  obtain ⟨k0, k1, k2, k3, k4, k5, k6, k7⟩ := X2.out
  obtain ⟨⟨q0, q1, q2, q3, q4, q5, q6, q7⟩, qf⟩ := q'
  have f0 := qf 0 (by omega)
  have f1 := qf 1 (by omega)
  have f2 := qf 2 (by omega)
  have f3 := qf 3 (by omega)
  have f4 := qf 4 (by omega)
  have f5 := qf 5 (by omega)
  have f6 := qf 6 (by omega)
  have f7 := qf 7 (by omega)
  clear qf
  dsimp only [sp0] at q0 q1 q2 q3 q4 q5 q6 q7
  go_wp2
  clear k0 k1 k2 k3 k4 k5 k6 k7
  clear q0 q1 q2 q3 q4 q5 q6 q7 f0 f1 f2 f3 f4 f5 f6 f7
  obtain ⟨q0, q1, q2, q3, q4, q5, q6, q7⟩ := wr8_sl R2.out.1 U
  unfold wr8 at q0 q1 q2 q3 q4 q5 q6 q7
  refine bodyPost_ret (v := .tuple #[spV U, .int .i64 1, .int .i64 0]) ?_ rfl ⟨rfl, wr8_below HB2.out (Nat.le_refl _) U⟩
  simp [results, Try.results16, go_sem, spV, q0, q1, q2, q3, q4, q5, q6, q7]

set_option maxHeartbeats 2000000 in
theorem rch_d (a a' : Option Addr) (cap cap' n n' : Nat) (w : World) (T U : Sp) (e f : Int)
    (C1 : ∀ w1, Below w.heap.size w w1 → Calls Try.prog 12 #[.slice a n cap] w1 fun r w' => r = .returned (.tuple #[spV T, .int .i64 e]) ∧ Below w1.heap.size w1 w')
    (C2 : ∀ w1, Below w.heap.size w w1 → Calls Try.prog 12 #[.slice a' n' cap'] w1 fun r w' => r = .returned (.tuple #[spV U, .int .i64 f]) ∧ Below w1.heap.size w1 w') (he : (e != 0) = true) (he2 : (e == 0) = false) (hf : f = 0) :
    Calls Try.prog 16 #[.slice a n cap, .slice a' n' cap'] w fun r w' => r = .returned (.tuple #[spV U, .int .i64 1, .int .i64 0]) ∧ Below w.heap.size w w' := by
  subst hf
  have H1 : Hid _ := C1
  have H2 : Hid _ := C2
  clear C1 C2
  dsimp only [spV, sp0] at H1 H2 ⊢
  go_enter Try.func16, Try.ntmps16
  go_wp2_with fail
  refine (H1.out _ ((Below.refl _ w).alloc (Nat.le_refl _) _)).mono ?_
  clear H1
  rintro r w1 ⟨rfl, hb⟩
  have R1 : Hid (Sw8 w1 w.heap.size sp0) := (sw8_new w sp0 28).same (hb.block _ (by simp))
  have HB1 : Hid (Below w.heap.size w w1) := ((Below.refl _ w).alloc (Nat.le_refl _) _).trans (hb.mono (by simp))
  clear hb
  go_wp2_with fail
  refine (H2.out _ (HB1.out.alloc HB1.out.size _)).mono ?_
  clear H2
  rintro r w2 ⟨rfl, hb⟩
  have R2 : Hid (Sw8 (w2.alloc (.cells #[.int .i64 U.g, .int .i64 U.p, .int .i64 U.r, .int .i64 U.h, .int .i64 U.b, .int .i64 U.l, .int .i64 U.s, .int .i64 U.f] 28)) w.heap.size sp0) := ((R1.out.alloc _).below hb).alloc _
  have X2 : Hid (Sl8 (w2.alloc (.cells #[.int .i64 U.g, .int .i64 U.p, .int .i64 U.r, .int .i64 U.h, .int .i64 U.b, .int .i64 U.l, .int .i64 U.s, .int .i64 U.f] 28)) w1.heap.size T) := ((sw8_new w1 T 28).below hb).alloc _ |>.1
  have HB2 : Hid (Below w.heap.size w (w2.alloc (.cells #[.int .i64 U.g, .int .i64 U.p, .int .i64 U.r, .int .i64 U.h, .int .i64 U.b, .int .i64 U.l, .int .i64 U.s, .int .i64 U.f] 28))) := by
    have h1 : Below w.heap.size w w2 := (HB1.out.alloc HB1.out.size _).trans (hb.mono (Nat.le_trans HB1.out.size (by simp)))
    exact h1.alloc h1.size _
  clear hb
  have q' := R2.out
  obtain ⟨k0, k1, k2, k3, k4, k5, k6, k7⟩ := X2.out
  obtain ⟨⟨q0, q1, q2, q3, q4, q5, q6, q7⟩, qf⟩ := q'
  have f0 := qf 0 (by omega)
  have f1 := qf 1 (by omega)
  have f2 := qf 2 (by omega)
  have f3 := qf 3 (by omega)
  have f4 := qf 4 (by omega)
  have f5 := qf 5 (by omega)
  have f6 := qf 6 (by omega)
  have f7 := qf 7 (by omega)
  clear qf
  dsimp only [sp0] at q0 q1 q2 q3 q4 q5 q6 q7
  go_wp2
  clear k0 k1 k2 k3 k4 k5 k6 k7
  clear q0 q1 q2 q3 q4 q5 q6 q7 f0 f1 f2 f3 f4 f5 f6 f7
  obtain ⟨q0, q1, q2, q3, q4, q5, q6, q7⟩ := wr8_sl R2.out.1 U
  unfold wr8 at q0 q1 q2 q3 q4 q5 q6 q7
  refine bodyPost_ret (v := .tuple #[spV U, .int .i64 1, .int .i64 0]) ?_ rfl ⟨rfl, wr8_below HB2.out (Nat.le_refl _) U⟩
  simp [results, Try.results16, go_sem, spV, q0, q1, q2, q3, q4, q5, q6, q7]

theorem rchoose_v (a a' : Option Addr) (cap cap' n n' : Nat) (x y : List Int) (w : World) (hx : Row w a cap x) (hnx : x.length = n) (hy : Row w a' cap' y) (hny : y.length = n')
    (S : Sp) (hS : chS x y = S) (P : Int) (hP : chP x y = P) (E : Int) (hE : chE x y = E) :
    Calls Try.prog 16 #[.slice a n cap, .slice a' n' cap'] w fun e w' => e = .returned (.tuple #[spV S, .int .i64 P, .int .i64 E]) ∧ Below w.heap.size w w' := by
  subst hS hP hE
  have C1 : ∀ w1, Below w.heap.size w w1 → Calls Try.prog 12 #[.slice a n cap] w1 fun r w' => r = .returned (.tuple #[spV (deS x), .int .i64 (deE x)]) ∧ Below w1.heap.size w1 w' := fun w1 hb => rdecode_v a cap n x w1 (hx.below hb) hnx _ rfl _ rfl
  have C2 : ∀ w1, Below w.heap.size w w1 → Calls Try.prog 12 #[.slice a' n' cap'] w1 fun r w' => r = .returned (.tuple #[spV (deS y), .int .i64 (deE y)]) ∧ Below w1.heap.size w1 w' := fun w1 hb => rdecode_v a' cap' n' y w1 (hy.below hb) hny _ rfl _ rfl
  by_cases h1 : deE x = 0
  · by_cases h2 : deE y = 0
    · by_cases hg : (deS y).g ≤ (deS x).g
      · have e1 : chS x y = deS x := by unfold chS; rw [if_pos ⟨h1, .inr hg⟩]
        have e2 : chP x y = 0 := by unfold chP; rw [if_pos ⟨h1, .inr hg⟩]
        have e3 : chE x y = 0 := by unfold chE; rw [if_neg (fun hh => hh.1 h1)]
        rw [e1, e2, e3]
        exact rch_b a a' cap cap' n n' w _ _ _ _ C1 C2 h1 h2 hg
      · have hn : ¬ (deE x = 0 ∧ (deE y ≠ 0 ∨ (deS y).g ≤ (deS x).g)) := fun hh => hh.2.elim (fun h => h h2) hg
        have e1 : chS x y = deS y := by unfold chS; rw [if_neg hn]
        have e2 : chP x y = 1 := by unfold chP; rw [if_neg hn, if_pos h2]
        have e3 : chE x y = 0 := by unfold chE; rw [if_neg (fun hh => hh.1 h1)]
        rw [e1, e2, e3]
        exact rch_c a a' cap cap' n n' w _ _ _ _ C1 C2 h1 h2 hg
    · have e1 : chS x y = deS x := by unfold chS; rw [if_pos ⟨h1, .inl h2⟩]
      have e2 : chP x y = 0 := by unfold chP; rw [if_pos ⟨h1, .inl h2⟩]
      have e3 : chE x y = 0 := by unfold chE; rw [if_neg (fun hh => hh.1 h1)]
      rw [e1, e2, e3]
      exact rch_a a a' cap cap' n n' w _ _ _ _ C1 C2 h1 (by simpa using h2)
  · have hn : ¬ (deE x = 0 ∧ (deE y ≠ 0 ∨ (deS y).g ≤ (deS x).g)) := fun hh => h1 hh.1
    have e1 : chS x y = deS y := by unfold chS; rw [if_neg hn]
    by_cases h2 : deE y = 0
    · have e2 : chP x y = 1 := by unfold chP; rw [if_neg hn, if_pos h2]
      have e3 : chE x y = 0 := by unfold chE; rw [if_neg (fun hh => hh.2 h2)]
      rw [e1, e2, e3]
      exact rch_d a a' cap cap' n n' w _ _ _ _ C1 C2 (by simpa using h1) (by simpa using h1) h2
    · have e2 : chP x y = -1 := by unfold chP; rw [if_neg hn, if_neg h2]
      have e3 : chE x y = 8 := by unfold chE; rw [if_pos ⟨h1, h2⟩]
      rw [e1, e2, e3, de_0 h2]
      exact rch_none a a' cap cap' n n' w _ _ _ _ C1 C2 (by simpa using h1) (by simpa using h2)
end Go.Proofs.Ytoadkdjmbhflnaa.Oct
