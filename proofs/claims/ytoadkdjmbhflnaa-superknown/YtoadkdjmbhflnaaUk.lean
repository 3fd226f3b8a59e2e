/-
  super.Decode.
-/
import Derived.Test.YtoadkdjmbhflnaaUj
import Derived.Test.YtoadkdjmbhflnaaUh
namespace Go.Proofs.Ytoadkdjmbhflnaa.Oct
open Go.RowKit

theorem de_no {zs : List Int} (h : opE zs ≠ 0) : deE zs = opE zs ∧ deS zs = sp0 := by
  have e : deE zs = opE zs := by unfold deE; rw [if_neg h]
  refine ⟨e, ?_⟩
  unfold deS
  rw [if_neg (by rw [e]; exact h)]

theorem de_bad {zs : List Int} (h : opE zs = 0) (hB : deB (opP zs) = false) : deE zs = 4 ∧ deS zs = sp0 := by
  have e : deE zs = 4 := by unfold deE; rw [if_pos h, hB]; rfl
  refine ⟨e, ?_⟩
  unfold deS
  rw [if_neg (by rw [e]; decide)]

theorem de_good {zs : List Int} (h : opE zs = 0) (hB : deB (opP zs) = true) : deE zs = 0 ∧ deS zs = sdL (opP zs).body := by
  have e : deE zs = 0 := by unfold deE; rw [if_pos h, hB]; rfl
  refine ⟨e, ?_⟩
  unfold deS
  rw [if_pos e]

/-- A superblock may be just if all its numbers can be read. -/
theorem ok_read {zs : List Int} (h : okS (sdL zs) = true) : getB zs 0 8 = true := by
  have hg := (okS_bd h).1
  cases hb : getB zs 0 8
  · exfalso
    have e : getI zs 0 8 = 0 := by
      unfold getB at hb
      unfold getI
      split at hb
      · rename_i hi
        rw [if_pos hi]
        unfold capB at hb
        have := of_decide_eq_false hb
        exact (cap_no (by omega)).1
      · rename_i hi
        rw [if_neg hi]
    have : (sdL zs).g = 0 := e
    omega
  · rfl

theorem deB_split (P : Pg) : deB P = (decide (P.kind = 1) && decide (P.level = 0) && decide (P.count = 0) && rdB P.body && okS (sdL P.body)) := by
  unfold deB rdB
  by_cases h1 : P.kind = 1 <;> by_cases h2 : P.level = 0 <;> by_cases h3 : P.count = 0 <;> simp [h1, h2, h3]
  cases h4 : okS (sdL P.body)
  · simp
  · rw [ok_read h4]; simp

/-- Eight cells written. -/
def wr8 (w : World) (B : Nat) (T : Sp) : World := (((((((w.setCell ⟨B, 0, none⟩ (.int .i64 T.g)).setCell ⟨B, 1, none⟩ (.int .i64 T.p)).setCell ⟨B, 2, none⟩ (.int .i64 T.r)).setCell ⟨B, 3, none⟩ (.int .i64 T.h)).setCell ⟨B, 4, none⟩ (.int .i64 T.b)).setCell ⟨B, 5, none⟩ (.int .i64 T.l)).setCell ⟨B, 6, none⟩ (.int .i64 T.s)).setCell ⟨B, 7, none⟩ (.int .i64 T.f)

theorem wr8_sl {w : World} {B : Nat} {S : Sp} (h : Sl8 w B S) (T : Sp) : Sl8 (wr8 w B T) B T := by
  obtain ⟨h0, h1, h2, h3, h4, h5, h6, h7⟩ := h
  have ne : ∀ {i j : Nat}, i ≠ j → (⟨B, j, none⟩ : Addr) ≠ ⟨B, i, none⟩ := fun h e => h (by simp only [Addr.mk.injEq] at e; omega)
  unfold wr8
  have k0 : w.cell? ⟨B, 0, none⟩ = some (.int .i64 S.g) := by rw [h0]
  have k1 : (w.setCell ⟨B, 0, none⟩ (.int .i64 T.g)).cell? ⟨B, 1, none⟩ = some (.int .i64 S.p) := by rw [World.cell?_setCell_other _ _ _ _ (ne (by decide)), h1]
  have k2 : ((w.setCell ⟨B, 0, none⟩ (.int .i64 T.g)).setCell ⟨B, 1, none⟩ (.int .i64 T.p)).cell? ⟨B, 2, none⟩ = some (.int .i64 S.r) := by rw [World.cell?_setCell_other _ _ _ _ (ne (by decide)), World.cell?_setCell_other _ _ _ _ (ne (by decide)), h2]
  have k3 : (((w.setCell ⟨B, 0, none⟩ (.int .i64 T.g)).setCell ⟨B, 1, none⟩ (.int .i64 T.p)).setCell ⟨B, 2, none⟩ (.int .i64 T.r)).cell? ⟨B, 3, none⟩ = some (.int .i64 S.h) := by rw [World.cell?_setCell_other _ _ _ _ (ne (by decide)), World.cell?_setCell_other _ _ _ _ (ne (by decide)), World.cell?_setCell_other _ _ _ _ (ne (by decide)), h3]
  have k4 : ((((w.setCell ⟨B, 0, none⟩ (.int .i64 T.g)).setCell ⟨B, 1, none⟩ (.int .i64 T.p)).setCell ⟨B, 2, none⟩ (.int .i64 T.r)).setCell ⟨B, 3, none⟩ (.int .i64 T.h)).cell? ⟨B, 4, none⟩ = some (.int .i64 S.b) := by rw [World.cell?_setCell_other _ _ _ _ (ne (by decide)), World.cell?_setCell_other _ _ _ _ (ne (by decide)), World.cell?_setCell_other _ _ _ _ (ne (by decide)), World.cell?_setCell_other _ _ _ _ (ne (by decide)), h4]
  have k5 : (((((w.setCell ⟨B, 0, none⟩ (.int .i64 T.g)).setCell ⟨B, 1, none⟩ (.int .i64 T.p)).setCell ⟨B, 2, none⟩ (.int .i64 T.r)).setCell ⟨B, 3, none⟩ (.int .i64 T.h)).setCell ⟨B, 4, none⟩ (.int .i64 T.b)).cell? ⟨B, 5, none⟩ = some (.int .i64 S.l) := by rw [World.cell?_setCell_other _ _ _ _ (ne (by decide)), World.cell?_setCell_other _ _ _ _ (ne (by decide)), World.cell?_setCell_other _ _ _ _ (ne (by decide)), World.cell?_setCell_other _ _ _ _ (ne (by decide)), World.cell?_setCell_other _ _ _ _ (ne (by decide)), h5]
  have k6 : ((((((w.setCell ⟨B, 0, none⟩ (.int .i64 T.g)).setCell ⟨B, 1, none⟩ (.int .i64 T.p)).setCell ⟨B, 2, none⟩ (.int .i64 T.r)).setCell ⟨B, 3, none⟩ (.int .i64 T.h)).setCell ⟨B, 4, none⟩ (.int .i64 T.b)).setCell ⟨B, 5, none⟩ (.int .i64 T.l)).cell? ⟨B, 6, none⟩ = some (.int .i64 S.s) := by rw [World.cell?_setCell_other _ _ _ _ (ne (by decide)), World.cell?_setCell_other _ _ _ _ (ne (by decide)), World.cell?_setCell_other _ _ _ _ (ne (by decide)), World.cell?_setCell_other _ _ _ _ (ne (by decide)), World.cell?_setCell_other _ _ _ _ (ne (by decide)), World.cell?_setCell_other _ _ _ _ (ne (by decide)), h6]
  have k7 : (((((((w.setCell ⟨B, 0, none⟩ (.int .i64 T.g)).setCell ⟨B, 1, none⟩ (.int .i64 T.p)).setCell ⟨B, 2, none⟩ (.int .i64 T.r)).setCell ⟨B, 3, none⟩ (.int .i64 T.h)).setCell ⟨B, 4, none⟩ (.int .i64 T.b)).setCell ⟨B, 5, none⟩ (.int .i64 T.l)).setCell ⟨B, 6, none⟩ (.int .i64 T.s)).cell? ⟨B, 7, none⟩ = some (.int .i64 S.f) := by rw [World.cell?_setCell_other _ _ _ _ (ne (by decide)), World.cell?_setCell_other _ _ _ _ (ne (by decide)), World.cell?_setCell_other _ _ _ _ (ne (by decide)), World.cell?_setCell_other _ _ _ _ (ne (by decide)), World.cell?_setCell_other _ _ _ _ (ne (by decide)), World.cell?_setCell_other _ _ _ _ (ne (by decide)), World.cell?_setCell_other _ _ _ _ (ne (by decide)), h7]
  refine ⟨?_, ?_, ?_, ?_, ?_, ?_, ?_, ?_⟩
  · rw [World.cell?_setCell_other _ _ _ _ (ne (by decide)), World.cell?_setCell_other _ _ _ _ (ne (by decide)), World.cell?_setCell_other _ _ _ _ (ne (by decide)), World.cell?_setCell_other _ _ _ _ (ne (by decide)), World.cell?_setCell_other _ _ _ _ (ne (by decide)), World.cell?_setCell_other _ _ _ _ (ne (by decide)), World.cell?_setCell_other _ _ _ _ (ne (by decide)), World.cell?_setCell_same _ _ _ k0]
  · rw [World.cell?_setCell_other _ _ _ _ (ne (by decide)), World.cell?_setCell_other _ _ _ _ (ne (by decide)), World.cell?_setCell_other _ _ _ _ (ne (by decide)), World.cell?_setCell_other _ _ _ _ (ne (by decide)), World.cell?_setCell_other _ _ _ _ (ne (by decide)), World.cell?_setCell_other _ _ _ _ (ne (by decide)), World.cell?_setCell_same _ _ _ k1]
  · rw [World.cell?_setCell_other _ _ _ _ (ne (by decide)), World.cell?_setCell_other _ _ _ _ (ne (by decide)), World.cell?_setCell_other _ _ _ _ (ne (by decide)), World.cell?_setCell_other _ _ _ _ (ne (by decide)), World.cell?_setCell_other _ _ _ _ (ne (by decide)), World.cell?_setCell_same _ _ _ k2]
  · rw [World.cell?_setCell_other _ _ _ _ (ne (by decide)), World.cell?_setCell_other _ _ _ _ (ne (by decide)), World.cell?_setCell_other _ _ _ _ (ne (by decide)), World.cell?_setCell_other _ _ _ _ (ne (by decide)), World.cell?_setCell_same _ _ _ k3]
  · rw [World.cell?_setCell_other _ _ _ _ (ne (by decide)), World.cell?_setCell_other _ _ _ _ (ne (by decide)), World.cell?_setCell_other _ _ _ _ (ne (by decide)), World.cell?_setCell_same _ _ _ k4]
  · rw [World.cell?_setCell_other _ _ _ _ (ne (by decide)), World.cell?_setCell_other _ _ _ _ (ne (by decide)), World.cell?_setCell_same _ _ _ k5]
  · rw [World.cell?_setCell_other _ _ _ _ (ne (by decide)), World.cell?_setCell_same _ _ _ k6]
  · rw [World.cell?_setCell_same _ _ _ k7]

theorem Sw8.below {w w1 : World} {B : Nat} {S : Sp} (h : Sw8 w B S) (k : Below w.heap.size w w1) : Sw8 w1 B S := h.same (k.block B h.1.lt)
theorem Sw8.alloc {w : World} {B : Nat} {S : Sp} (h : Sw8 w B S) (o : Obj) : Sw8 (w.alloc o) B S := h.below ((Below.refl _ _).alloc (Nat.le_refl _) o)

theorem wr8_below {w0 w : World} {B C : Nat} (h : Below C w0 w) (hC : C ≤ B) (T : Sp) : Below C w0 (wr8 w B T) :=
  (((((((h.setCell (p := ⟨B, 0, none⟩) hC _).setCell (p := ⟨B, 1, none⟩) hC _).setCell (p := ⟨B, 2, none⟩) hC _).setCell (p := ⟨B, 3, none⟩) hC _).setCell (p := ⟨B, 4, none⟩) hC _).setCell (p := ⟨B, 5, none⟩) hC _).setCell (p := ⟨B, 6, none⟩) hC _).setCell (p := ⟨B, 7, none⟩) hC _

set_option maxHeartbeats 2000000 in
theorem dec_err (a : Option Addr) (cap n : Nat) (w : World) (P : Pg) (E : Int)
    (C : ∀ o : Obj, Calls Try.prog 18 #[.slice a n cap] (w.alloc o) fun e w' => ∃ g c, e = .returned (.tuple #[pgV P g c, .int .i64 E]) ∧ Own (w.alloc o).heap.size w' (.slice g P.body.length c) P.body ∧ Below (w.alloc o).heap.size (w.alloc o) w') (hE : (E != 0) = true) :
    Calls Try.prog 11 #[.slice a n cap] w fun e w' => e = .returned (.tuple #[spV sp0, .int .i64 E]) ∧ Below w.heap.size w w' := by
  dsimp only [spV, sp0]
  dsimp only [pgV] at C
  go_enter Try.func11, Try.ntmps11
  go_wp2_with fail
  refine (C _).mono ?_
  clear C
  rintro e w1 ⟨g, c, rfl, ho, hb⟩
  have q : Sw8 w1 w.heap.size sp0 := (sw8_new w sp0 28).same (hb.block _ (by simp))
  have HB : Hid (Below w.heap.size w w1) := ((Below.refl _ w).alloc (Nat.le_refl _) _).trans (hb.mono (by simp))
  have HQ : Hid (Sl8 (w1.alloc (.cells #[.int .i64 P.kind, .int .i64 P.level, .int .i64 P.count, .slice g P.body.length c] 46)) w.heap.size sp0) := (q.alloc _).1
  have q' := q.alloc (.cells #[.int .i64 P.kind, .int .i64 P.level, .int .i64 P.count, .slice g P.body.length c] 46)
  clear hb ho q
  obtain ⟨⟨q0, q1, q2, q3, q4, q5, q6, q7⟩, qf⟩ := q'
  have f0 := qf 0 (by omega)
  have f1 := qf 1 (by omega)
  have f2 := qf 2 (by omega)
  have f3 := qf 3 (by omega)
  have f4 := qf 4 (by omega)
  have f5 := qf 5 (by omega)
  have f6 := qf 6 (by omega)
  have f7 := qf 7 (by omega)
  clear qf
  dsimp only [sp0] at q0 q1 q2 q3 q4 q5 q6 q7
  go_wp2
  clear q0 q1 q2 q3 q4 q5 q6 q7 f0 f1 f2 f3 f4 f5 f6 f7
  obtain ⟨q0, q1, q2, q3, q4, q5, q6, q7⟩ := wr8_sl HQ.out sp0
  unfold wr8 at q0 q1 q2 q3 q4 q5 q6 q7
  try dsimp only [sp0] at q0 q1 q2 q3 q4 q5 q6 q7
  refine bodyPost_ret (v := .tuple #[spV sp0, .int .i64 E]) ?_ rfl ⟨rfl, wr8_below (HB.out.alloc HB.out.size _) (Nat.le_refl _) sp0⟩
  simp [results, Try.results11, go_sem, spV, sp0, q0, q1, q2, q3, q4, q5, q6, q7]

set_option maxHeartbeats 2000000 in
theorem dec_kind (a : Option Addr) (cap n : Nat) (w : World) (P : Pg) (E : Int)
    (C : ∀ o : Obj, Calls Try.prog 18 #[.slice a n cap] (w.alloc o) fun e w' => ∃ g c, e = .returned (.tuple #[pgV P g c, .int .i64 E]) ∧ Own (w.alloc o).heap.size w' (.slice g P.body.length c) P.body ∧ Below (w.alloc o).heap.size (w.alloc o) w') (hE : E = 0) (hk : (P.kind != 1) = true) :
    Calls Try.prog 11 #[.slice a n cap] w fun e w' => e = .returned (.tuple #[spV sp0, .int .i64 4]) ∧ Below w.heap.size w w' := by
  subst hE
  dsimp only [spV, sp0]
  dsimp only [pgV] at C
  go_enter Try.func11, Try.ntmps11
  go_wp2_with fail
  refine (C _).mono ?_
  clear C
  rintro e w1 ⟨g, c, rfl, ho, hb⟩
  have q : Sw8 w1 w.heap.size sp0 := (sw8_new w sp0 28).same (hb.block _ (by simp))
  have HB : Hid (Below w.heap.size w w1) := ((Below.refl _ w).alloc (Nat.le_refl _) _).trans (hb.mono (by simp))
  have HQ : Hid (Sl8 ((w1.alloc (.cells #[.int .i64 P.kind, .int .i64 P.level, .int .i64 P.count, .slice g P.body.length c] 46)).alloc (.cells #[.int .i64 0, .int .i64 0, .int .i64 0, .int .i64 0, .int .i64 0, .int .i64 0, .int .i64 0, .int .i64 0] 52)) w.heap.size sp0) := ((q.alloc _).alloc _).1
  have q' := (q.alloc (.cells #[.int .i64 P.kind, .int .i64 P.level, .int .i64 P.count, .slice g P.body.length c] 46)).alloc (.cells #[.int .i64 0, .int .i64 0, .int .i64 0, .int .i64 0, .int .i64 0, .int .i64 0, .int .i64 0, .int .i64 0] 52)
  clear hb ho q
  obtain ⟨⟨q0, q1, q2, q3, q4, q5, q6, q7⟩, qf⟩ := q'
  have f0 := qf 0 (by omega)
  have f1 := qf 1 (by omega)
  have f2 := qf 2 (by omega)
  have f3 := qf 3 (by omega)
  have f4 := qf 4 (by omega)
  have f5 := qf 5 (by omega)
  have f6 := qf 6 (by omega)
  have f7 := qf 7 (by omega)
  clear qf
  dsimp only [sp0] at q0 q1 q2 q3 q4 q5 q6 q7
  go_wp2
  clear q0 q1 q2 q3 q4 q5 q6 q7 f0 f1 f2 f3 f4 f5 f6 f7
  obtain ⟨q0, q1, q2, q3, q4, q5, q6, q7⟩ := wr8_sl HQ.out sp0
  unfold wr8 at q0 q1 q2 q3 q4 q5 q6 q7
  try dsimp only [sp0] at q0 q1 q2 q3 q4 q5 q6 q7
  refine bodyPost_ret (v := .tuple #[spV sp0, .int .i64 4]) ?_ rfl ⟨rfl, wr8_below ((HB.out.alloc HB.out.size _).alloc (Nat.le_trans HB.out.size (by simp)) _) (Nat.le_refl _) sp0⟩
  simp [results, Try.results11, go_sem, spV, sp0, q0, q1, q2, q3, q4, q5, q6, q7]

set_option maxHeartbeats 2000000 in
theorem dec_level (a : Option Addr) (cap n : Nat) (w : World) (P : Pg) (E : Int)
    (C : ∀ o : Obj, Calls Try.prog 18 #[.slice a n cap] (w.alloc o) fun e w' => ∃ g c, e = .returned (.tuple #[pgV P g c, .int .i64 E]) ∧ Own (w.alloc o).heap.size w' (.slice g P.body.length c) P.body ∧ Below (w.alloc o).heap.size (w.alloc o) w') (hE : E = 0) (hk : (P.kind != 1) = false) (hl : (P.level != 0) = true) :
    Calls Try.prog 11 #[.slice a n cap] w fun e w' => e = .returned (.tuple #[spV sp0, .int .i64 4]) ∧ Below w.heap.size w w' := by
  subst hE
  dsimp only [spV, sp0]
  dsimp only [pgV] at C
  go_enter Try.func11, Try.ntmps11
  go_wp2_with fail
  refine (C _).mono ?_
  clear C
  rintro e w1 ⟨g, c, rfl, ho, hb⟩
  have q : Sw8 w1 w.heap.size sp0 := (sw8_new w sp0 28).same (hb.block _ (by simp))
  have HB : Hid (Below w.heap.size w w1) := ((Below.refl _ w).alloc (Nat.le_refl _) _).trans (hb.mono (by simp))
  have HQ : Hid (Sl8 ((w1.alloc (.cells #[.int .i64 P.kind, .int .i64 P.level, .int .i64 P.count, .slice g P.body.length c] 46)).alloc (.cells #[.int .i64 0, .int .i64 0, .int .i64 0, .int .i64 0, .int .i64 0, .int .i64 0, .int .i64 0, .int .i64 0] 52)) w.heap.size sp0) := ((q.alloc _).alloc _).1
  have q' := (q.alloc (.cells #[.int .i64 P.kind, .int .i64 P.level, .int .i64 P.count, .slice g P.body.length c] 46)).alloc (.cells #[.int .i64 0, .int .i64 0, .int .i64 0, .int .i64 0, .int .i64 0, .int .i64 0, .int .i64 0, .int .i64 0] 52)
  clear hb ho q
  obtain ⟨⟨q0, q1, q2, q3, q4, q5, q6, q7⟩, qf⟩ := q'
  have f0 := qf 0 (by omega)
  have f1 := qf 1 (by omega)
  have f2 := qf 2 (by omega)
  have f3 := qf 3 (by omega)
  have f4 := qf 4 (by omega)
  have f5 := qf 5 (by omega)
  have f6 := qf 6 (by omega)
  have f7 := qf 7 (by omega)
  clear qf
  dsimp only [sp0] at q0 q1 q2 q3 q4 q5 q6 q7
  go_wp2
  clear q0 q1 q2 q3 q4 q5 q6 q7 f0 f1 f2 f3 f4 f5 f6 f7
  obtain ⟨q0, q1, q2, q3, q4, q5, q6, q7⟩ := wr8_sl HQ.out sp0
  unfold wr8 at q0 q1 q2 q3 q4 q5 q6 q7
  try dsimp only [sp0] at q0 q1 q2 q3 q4 q5 q6 q7
  refine bodyPost_ret (v := .tuple #[spV sp0, .int .i64 4]) ?_ rfl ⟨rfl, wr8_below ((HB.out.alloc HB.out.size _).alloc (Nat.le_trans HB.out.size (by simp)) _) (Nat.le_refl _) sp0⟩
  simp [results, Try.results11, go_sem, spV, sp0, q0, q1, q2, q3, q4, q5, q6, q7]

set_option maxHeartbeats 2000000 in
theorem dec_count (a : Option Addr) (cap n : Nat) (w : World) (P : Pg) (E : Int)
    (C : ∀ o : Obj, Calls Try.prog 18 #[.slice a n cap] (w.alloc o) fun e w' => ∃ g c, e = .returned (.tuple #[pgV P g c, .int .i64 E]) ∧ Own (w.alloc o).heap.size w' (.slice g P.body.length c) P.body ∧ Below (w.alloc o).heap.size (w.alloc o) w') (hE : E = 0) (hk : (P.kind != 1) = false) (hl : (P.level != 0) = false) (hc : (P.count != 0) = true) :
    Calls Try.prog 11 #[.slice a n cap] w fun e w' => e = .returned (.tuple #[spV sp0, .int .i64 4]) ∧ Below w.heap.size w w' := by
  subst hE
  dsimp only [spV, sp0]
  dsimp only [pgV] at C
  go_enter Try.func11, Try.ntmps11
  go_wp2_with fail
  refine (C _).mono ?_
  clear C
  rintro e w1 ⟨g, c, rfl, ho, hb⟩
  have q : Sw8 w1 w.heap.size sp0 := (sw8_new w sp0 28).same (hb.block _ (by simp))
  have HB : Hid (Below w.heap.size w w1) := ((Below.refl _ w).alloc (Nat.le_refl _) _).trans (hb.mono (by simp))
  have HQ : Hid (Sl8 ((w1.alloc (.cells #[.int .i64 P.kind, .int .i64 P.level, .int .i64 P.count, .slice g P.body.length c] 46)).alloc (.cells #[.int .i64 0, .int .i64 0, .int .i64 0, .int .i64 0, .int .i64 0, .int .i64 0, .int .i64 0, .int .i64 0] 52)) w.heap.size sp0) := ((q.alloc _).alloc _).1
  have q' := (q.alloc (.cells #[.int .i64 P.kind, .int .i64 P.level, .int .i64 P.count, .slice g P.body.length c] 46)).alloc (.cells #[.int .i64 0, .int .i64 0, .int .i64 0, .int .i64 0, .int .i64 0, .int .i64 0, .int .i64 0, .int .i64 0] 52)
  clear hb ho q
  obtain ⟨⟨q0, q1, q2, q3, q4, q5, q6, q7⟩, qf⟩ := q'
  have f0 := qf 0 (by omega)
  have f1 := qf 1 (by omega)
  have f2 := qf 2 (by omega)
  have f3 := qf 3 (by omega)
  have f4 := qf 4 (by omega)
  have f5 := qf 5 (by omega)
  have f6 := qf 6 (by omega)
  have f7 := qf 7 (by omega)
  clear qf
  dsimp only [sp0] at q0 q1 q2 q3 q4 q5 q6 q7
  go_wp2
  clear q0 q1 q2 q3 q4 q5 q6 q7 f0 f1 f2 f3 f4 f5 f6 f7
  obtain ⟨q0, q1, q2, q3, q4, q5, q6, q7⟩ := wr8_sl HQ.out sp0
  unfold wr8 at q0 q1 q2 q3 q4 q5 q6 q7
  try dsimp only [sp0] at q0 q1 q2 q3 q4 q5 q6 q7
  refine bodyPost_ret (v := .tuple #[spV sp0, .int .i64 4]) ?_ rfl ⟨rfl, wr8_below ((HB.out.alloc HB.out.size _).alloc (Nat.le_trans HB.out.size (by simp)) _) (Nat.le_refl _) sp0⟩
  simp [results, Try.results11, go_sem, spV, sp0, q0, q1, q2, q3, q4, q5, q6, q7]

set_option maxHeartbeats 2000000 in
theorem dec_read (a : Option Addr) (cap n : Nat) (w : World) (P : Pg) (E : Int)
    (C : ∀ o : Obj, Calls Try.prog 18 #[.slice a n cap] (w.alloc o) fun e w' => ∃ g c, e = .returned (.tuple #[pgV P g c, .int .i64 E]) ∧ Own (w.alloc o).heap.size w' (.slice g P.body.length c) P.body ∧ Below (w.alloc o).heap.size (w.alloc o) w') (hE : E = 0) (hk : (P.kind != 1) = false) (hl : (P.level != 0) = false) (hc : (P.count != 0) = false) (hlen : P.body.length = 248) (hbys : Bys P.body) (hrd : rdB P.body = false) :
    Calls Try.prog 11 #[.slice a n cap] w fun e w' => e = .returned (.tuple #[spV sp0, .int .i64 4]) ∧ Below w.heap.size w w' := by
  subst hE
  dsimp only [spV, sp0]
  dsimp only [pgV] at C
  go_enter Try.func11, Try.ntmps11
  go_wp2_with fail
  refine (C _).mono ?_
  clear C
  rintro e w1 ⟨g, c, rfl, ho, hb⟩
  have q : Sw8 w1 w.heap.size sp0 := (sw8_new w sp0 28).same (hb.block _ (by simp))
  have HB : Hid (Below w.heap.size w w1) := ((Below.refl _ w).alloc (Nat.le_refl _) _).trans (hb.mono (by simp))
  have HQ : Hid (Sw8 ((w1.alloc (.cells #[.int .i64 P.kind, .int .i64 P.level, .int .i64 P.count, .slice g P.body.length c] 46)).alloc (.cells #[.int .i64 0, .int .i64 0, .int .i64 0, .int .i64 0, .int .i64 0, .int .i64 0, .int .i64 0, .int .i64 0] 52)) w.heap.size sp0) := (q.alloc _).alloc _
  have HW : Hid (Below w.heap.size w ((w1.alloc (.cells #[.int .i64 P.kind, .int .i64 P.level, .int .i64 P.count, .slice g P.body.length c] 46)).alloc (.cells #[.int .i64 0, .int .i64 0, .int .i64 0, .int .i64 0, .int .i64 0, .int .i64 0, .int .i64 0, .int .i64 0] 52))) := (HB.out.alloc HB.out.size _).alloc (Nat.le_trans HB.out.size (by simp)) _
  have hqlt := q.1.lt
  obtain ⟨g0, c0, eg, _, _, _, _⟩ := own_at ho 0 (by rw [hlen]; decide)
  simp only [Value.slice.injEq, true_and] at eg
  obtain ⟨rfl, rfl⟩ := eg
  have hg := (World.ownsRow.lt ho g0 rfl).2
  have hr : Row ((w1.alloc (.cells #[.int .i64 P.kind, .int .i64 P.level, .int .i64 P.count, .slice (some ⟨g0, 0, none⟩) P.body.length c] 46)).alloc (.cells #[.int .i64 0, .int .i64 0, .int .i64 0, .int .i64 0, .int .i64 0, .int .i64 0, .int .i64 0, .int .i64 0] 52)) (some ⟨g0, 0, none⟩) c P.body := (ho.row' hbys).2.below (((Below.refl _ w1).alloc (Nat.le_refl _) _).alloc (by simp) _)
  have hs : Sw8 ((w1.alloc (.cells #[.int .i64 P.kind, .int .i64 P.level, .int .i64 P.count, .slice (some ⟨g0, 0, none⟩) P.body.length c] 46)).alloc (.cells #[.int .i64 0, .int .i64 0, .int .i64 0, .int .i64 0, .int .i64 0, .int .i64 0, .int .i64 0, .int .i64 0] 52)) (w1.heap.size + 1) sp0 := by
    have := sw8_new (w1.alloc (.cells #[.int .i64 P.kind, .int .i64 P.level, .int .i64 P.count, .slice (some ⟨g0, 0, none⟩) P.body.length c] 46)) sp0 52
    simpa [sp0] using this
  have CR := read_any (w1.heap.size + 1) g0 0 c P.body _ hs hr hlen (by omega)
  rw [hlen] at CR HQ HW ⊢
  clear hs hr ho hb hg q
  go_wp2_with fail
  refine CR.mono ?_
  clear CR
  rintro e w3 ⟨rfl, -, hb3⟩
  rw [hrd]
  have q' : Sw8 w3 w.heap.size sp0 := HQ.out.same (hb3.block _ (by omega))
  have HB3 : Hid (Below w.heap.size w w3) := HW.out.trans (hb3.mono (by omega))
  clear HQ hb3
  have HQ : Hid (Sl8 w3 w.heap.size sp0) := q'.1
  obtain ⟨⟨q0, q1, q2, q3, q4, q5, q6, q7⟩, qf⟩ := q'
  have f0 := qf 0 (by omega)
  have f1 := qf 1 (by omega)
  have f2 := qf 2 (by omega)
  have f3 := qf 3 (by omega)
  have f4 := qf 4 (by omega)
  have f5 := qf 5 (by omega)
  have f6 := qf 6 (by omega)
  have f7 := qf 7 (by omega)
  clear qf
  dsimp only [sp0] at q0 q1 q2 q3 q4 q5 q6 q7
  go_wp2
  clear q0 q1 q2 q3 q4 q5 q6 q7 f0 f1 f2 f3 f4 f5 f6 f7
  obtain ⟨q0, q1, q2, q3, q4, q5, q6, q7⟩ := wr8_sl HQ.out sp0
  unfold wr8 at q0 q1 q2 q3 q4 q5 q6 q7
  try dsimp only [sp0] at q0 q1 q2 q3 q4 q5 q6 q7
  refine bodyPost_ret (v := .tuple #[spV sp0, .int .i64 4]) ?_ rfl ⟨rfl, wr8_below HB3.out (Nat.le_refl _) sp0⟩
  simp [results, Try.results11, go_sem, spV, sp0, q0, q1, q2, q3, q4, q5, q6, q7]

set_option maxHeartbeats 2000000 in
theorem dec_check (a : Option Addr) (cap n : Nat) (w : World) (P : Pg) (E : Int)
    (C : ∀ o : Obj, Calls Try.prog 18 #[.slice a n cap] (w.alloc o) fun e w' => ∃ g c, e = .returned (.tuple #[pgV P g c, .int .i64 E]) ∧ Own (w.alloc o).heap.size w' (.slice g P.body.length c) P.body ∧ Below (w.alloc o).heap.size (w.alloc o) w') (hE : E = 0) (hk : (P.kind != 1) = false) (hl : (P.level != 0) = false) (hc : (P.count != 0) = false) (hlen : P.body.length = 248) (hbys : Bys P.body) (hrd : rdB P.body = true) (hEN : enE (sdL P.body) = 1) :
    Calls Try.prog 11 #[.slice a n cap] w fun e w' => e = .returned (.tuple #[spV sp0, .int .i64 4]) ∧ Below w.heap.size w w' := by
  subst hE
  dsimp only [spV, sp0]
  dsimp only [pgV] at C
  go_enter Try.func11, Try.ntmps11
  go_wp2_with fail
  refine (C _).mono ?_
  clear C
  rintro e w1 ⟨g, c, rfl, ho, hb⟩
  have q : Sw8 w1 w.heap.size sp0 := (sw8_new w sp0 28).same (hb.block _ (by simp))
  have HB : Hid (Below w.heap.size w w1) := ((Below.refl _ w).alloc (Nat.le_refl _) _).trans (hb.mono (by simp))
  have HQ : Hid (Sw8 ((w1.alloc (.cells #[.int .i64 P.kind, .int .i64 P.level, .int .i64 P.count, .slice g P.body.length c] 46)).alloc (.cells #[.int .i64 0, .int .i64 0, .int .i64 0, .int .i64 0, .int .i64 0, .int .i64 0, .int .i64 0, .int .i64 0] 52)) w.heap.size sp0) := (q.alloc _).alloc _
  have HW : Hid (Below w.heap.size w ((w1.alloc (.cells #[.int .i64 P.kind, .int .i64 P.level, .int .i64 P.count, .slice g P.body.length c] 46)).alloc (.cells #[.int .i64 0, .int .i64 0, .int .i64 0, .int .i64 0, .int .i64 0, .int .i64 0, .int .i64 0, .int .i64 0] 52))) := (HB.out.alloc HB.out.size _).alloc (Nat.le_trans HB.out.size (by simp)) _
  have hqlt := q.1.lt
  obtain ⟨g0, c0, eg, _, _, _, _⟩ := own_at ho 0 (by rw [hlen]; decide)
  simp only [Value.slice.injEq, true_and] at eg
  obtain ⟨rfl, rfl⟩ := eg
  have hg := (World.ownsRow.lt ho g0 rfl).2
  have hr : Row ((w1.alloc (.cells #[.int .i64 P.kind, .int .i64 P.level, .int .i64 P.count, .slice (some ⟨g0, 0, none⟩) P.body.length c] 46)).alloc (.cells #[.int .i64 0, .int .i64 0, .int .i64 0, .int .i64 0, .int .i64 0, .int .i64 0, .int .i64 0, .int .i64 0] 52)) (some ⟨g0, 0, none⟩) c P.body := (ho.row' hbys).2.below (((Below.refl _ w1).alloc (Nat.le_refl _) _).alloc (by simp) _)
  have hs : Sw8 ((w1.alloc (.cells #[.int .i64 P.kind, .int .i64 P.level, .int .i64 P.count, .slice (some ⟨g0, 0, none⟩) P.body.length c] 46)).alloc (.cells #[.int .i64 0, .int .i64 0, .int .i64 0, .int .i64 0, .int .i64 0, .int .i64 0, .int .i64 0, .int .i64 0] 52)) (w1.heap.size + 1) sp0 := by
    have := sw8_new (w1.alloc (.cells #[.int .i64 P.kind, .int .i64 P.level, .int .i64 P.count, .slice (some ⟨g0, 0, none⟩) P.body.length c] 46)) sp0 52
    simpa [sp0] using this
  have CR := read_any (w1.heap.size + 1) g0 0 c P.body _ hs hr hlen (by omega)
  rw [hlen] at CR HQ HW ⊢
  clear hs hr ho hb hg q
  go_wp2_with fail
  refine CR.mono ?_
  clear CR
  rintro e w3 ⟨rfl, hs3, hb3⟩
  have hs3 := hs3 hrd
  rw [hrd]
  have q' : Sw8 w3 w.heap.size sp0 := HQ.out.same (hb3.block _ (by omega))
  have HB3 : Hid (Below w.heap.size w w3) := HW.out.trans (hb3.mono (by omega))
  clear HQ hb3
  have CK := check_v (sdL P.body) w3 _ rfl
  rw [hEN] at CK
  have HS3 : Hid (Sl8 w3 (w1.heap.size + 1) (sdL P.body)) := hs3.1
  have HQ3 : Hid (Sw8 w3 w.heap.size sp0) := q'
  obtain ⟨S, hS⟩ : ∃ S, sdL P.body = S := ⟨_, rfl⟩
  rw [hS] at CK HS3
  clear hs3 q' hEN hrd
  dsimp only [spV] at CK
  obtain ⟨k0, k1, k2, k3, k4, k5, k6, k7⟩ := HS3.out
  go_wp2_with fail
  refine CK.mono ?_
  clear CK
  rintro e w4 ⟨rfl, hb4⟩
  have hs4 := HS3.out.below hb4
  have q' := HQ3.out.below hb4
  have HB4 : Hid (Below w.heap.size w w4) := HB3.out.trans (hb4.mono HB3.out.size)
  clear hb4 k0 k1 k2 k3 k4 k5 k6 k7
  have HQ : Hid (Sl8 w4 w.heap.size sp0) := q'.1
  obtain ⟨k0, k1, k2, k3, k4, k5, k6, k7⟩ := hs4
  obtain ⟨⟨q0, q1, q2, q3, q4, q5, q6, q7⟩, qf⟩ := q'
  have f0 := qf 0 (by omega)
  have f1 := qf 1 (by omega)
  have f2 := qf 2 (by omega)
  have f3 := qf 3 (by omega)
  have f4 := qf 4 (by omega)
  have f5 := qf 5 (by omega)
  have f6 := qf 6 (by omega)
  have f7 := qf 7 (by omega)
  clear qf
  dsimp only [sp0] at q0 q1 q2 q3 q4 q5 q6 q7
  clear hS
  go_wp2
  clear k0 k1 k2 k3 k4 k5 k6 k7
  clear q0 q1 q2 q3 q4 q5 q6 q7 f0 f1 f2 f3 f4 f5 f6 f7
  obtain ⟨q0, q1, q2, q3, q4, q5, q6, q7⟩ := wr8_sl HQ.out sp0
  unfold wr8 at q0 q1 q2 q3 q4 q5 q6 q7
  try dsimp only [sp0] at q0 q1 q2 q3 q4 q5 q6 q7
  refine bodyPost_ret (v := .tuple #[spV sp0, .int .i64 4]) ?_ rfl ⟨rfl, wr8_below HB4.out (Nat.le_refl _) sp0⟩
  simp [results, Try.results11, go_sem, spV, sp0, q0, q1, q2, q3, q4, q5, q6, q7]

set_option maxHeartbeats 2000000 in
theorem dec_good (a : Option Addr) (cap n : Nat) (w : World) (P : Pg) (E : Int)
    (C : ∀ o : Obj, Calls Try.prog 18 #[.slice a n cap] (w.alloc o) fun e w' => ∃ g c, e = .returned (.tuple #[pgV P g c, .int .i64 E]) ∧ Own (w.alloc o).heap.size w' (.slice g P.body.length c) P.body ∧ Below (w.alloc o).heap.size (w.alloc o) w') (hE : E = 0) (hk : (P.kind != 1) = false) (hl : (P.level != 0) = false) (hc : (P.count != 0) = false) (hlen : P.body.length = 248) (hbys : Bys P.body) (hrd : rdB P.body = true) (hEN : enE (sdL P.body) = 0) (T : Sp) (hT : sdL P.body = T) :
    Calls Try.prog 11 #[.slice a n cap] w fun e w' => e = .returned (.tuple #[spV T, .int .i64 0]) ∧ Below w.heap.size w w' := by
  subst hE
  dsimp only [spV, sp0]
  dsimp only [pgV] at C
  go_enter Try.func11, Try.ntmps11
  go_wp2_with fail
  refine (C _).mono ?_
  clear C
  rintro e w1 ⟨g, c, rfl, ho, hb⟩
  have q : Sw8 w1 w.heap.size sp0 := (sw8_new w sp0 28).same (hb.block _ (by simp))
  have HB : Hid (Below w.heap.size w w1) := ((Below.refl _ w).alloc (Nat.le_refl _) _).trans (hb.mono (by simp))
  have HQ : Hid (Sw8 ((w1.alloc (.cells #[.int .i64 P.kind, .int .i64 P.level, .int .i64 P.count, .slice g P.body.length c] 46)).alloc (.cells #[.int .i64 0, .int .i64 0, .int .i64 0, .int .i64 0, .int .i64 0, .int .i64 0, .int .i64 0, .int .i64 0] 52)) w.heap.size sp0) := (q.alloc _).alloc _
  have HW : Hid (Below w.heap.size w ((w1.alloc (.cells #[.int .i64 P.kind, .int .i64 P.level, .int .i64 P.count, .slice g P.body.length c] 46)).alloc (.cells #[.int .i64 0, .int .i64 0, .int .i64 0, .int .i64 0, .int .i64 0, .int .i64 0, .int .i64 0, .int .i64 0] 52))) := (HB.out.alloc HB.out.size _).alloc (Nat.le_trans HB.out.size (by simp)) _
  have hqlt := q.1.lt
  obtain ⟨g0, c0, eg, _, _, _, _⟩ := own_at ho 0 (by rw [hlen]; decide)
  simp only [Value.slice.injEq, true_and] at eg
  obtain ⟨rfl, rfl⟩ := eg
  have hg := (World.ownsRow.lt ho g0 rfl).2
  have hr : Row ((w1.alloc (.cells #[.int .i64 P.kind, .int .i64 P.level, .int .i64 P.count, .slice (some ⟨g0, 0, none⟩) P.body.length c] 46)).alloc (.cells #[.int .i64 0, .int .i64 0, .int .i64 0, .int .i64 0, .int .i64 0, .int .i64 0, .int .i64 0, .int .i64 0] 52)) (some ⟨g0, 0, none⟩) c P.body := (ho.row' hbys).2.below (((Below.refl _ w1).alloc (Nat.le_refl _) _).alloc (by simp) _)
  have hs : Sw8 ((w1.alloc (.cells #[.int .i64 P.kind, .int .i64 P.level, .int .i64 P.count, .slice (some ⟨g0, 0, none⟩) P.body.length c] 46)).alloc (.cells #[.int .i64 0, .int .i64 0, .int .i64 0, .int .i64 0, .int .i64 0, .int .i64 0, .int .i64 0, .int .i64 0] 52)) (w1.heap.size + 1) sp0 := by
    have := sw8_new (w1.alloc (.cells #[.int .i64 P.kind, .int .i64 P.level, .int .i64 P.count, .slice (some ⟨g0, 0, none⟩) P.body.length c] 46)) sp0 52
    simpa [sp0] using this
  have CR := read_any (w1.heap.size + 1) g0 0 c P.body _ hs hr hlen (by omega)
  rw [hlen] at CR HQ HW ⊢
  clear hs hr ho hb hg q
  go_wp2_with fail
  refine CR.mono ?_
  clear CR
  rintro e w3 ⟨rfl, hs3, hb3⟩
  have hs3 := hs3 hrd
  rw [hrd]
  have q' : Sw8 w3 w.heap.size sp0 := HQ.out.same (hb3.block _ (by omega))
  have HB3 : Hid (Below w.heap.size w w3) := HW.out.trans (hb3.mono (by omega))
  clear HQ hb3
  have CK := check_v (sdL P.body) w3 _ rfl
  rw [hEN] at CK
  have HS3 : Hid (Sl8 w3 (w1.heap.size + 1) (sdL P.body)) := hs3.1
  have HQ3 : Hid (Sw8 w3 w.heap.size sp0) := q'
  rw [hT] at CK HS3
  clear hs3 q' hEN hrd
  dsimp only [spV] at CK
  obtain ⟨k0, k1, k2, k3, k4, k5, k6, k7⟩ := HS3.out
  go_wp2_with fail
  refine CK.mono ?_
  clear CK
  rintro e w4 ⟨rfl, hb4⟩
  have hs4 := HS3.out.below hb4
  have q' := HQ3.out.below hb4
  have HB4 : Hid (Below w.heap.size w w4) := HB3.out.trans (hb4.mono HB3.out.size)
  clear hb4 k0 k1 k2 k3 k4 k5 k6 k7
  have HQ : Hid (Sl8 w4 w.heap.size sp0) := q'.1
  obtain ⟨k0, k1, k2, k3, k4, k5, k6, k7⟩ := hs4
  obtain ⟨⟨q0, q1, q2, q3, q4, q5, q6, q7⟩, qf⟩ := q'
  have f0 := qf 0 (by omega)
  have f1 := qf 1 (by omega)
  have f2 := qf 2 (by omega)
  have f3 := qf 3 (by omega)
  have f4 := qf 4 (by omega)
  have f5 := qf 5 (by omega)
  have f6 := qf 6 (by omega)
  have f7 := qf 7 (by omega)
  clear qf
  dsimp only [sp0] at q0 q1 q2 q3 q4 q5 q6 q7
  clear hT
  go_wp2
  clear k0 k1 k2 k3 k4 k5 k6 k7
  clear q0 q1 q2 q3 q4 q5 q6 q7 f0 f1 f2 f3 f4 f5 f6 f7
  obtain ⟨q0, q1, q2, q3, q4, q5, q6, q7⟩ := wr8_sl HQ.out T
  unfold wr8 at q0 q1 q2 q3 q4 q5 q6 q7
  try dsimp only [sp0] at q0 q1 q2 q3 q4 q5 q6 q7
  refine bodyPost_ret (v := .tuple #[spV T, .int .i64 0]) ?_ rfl ⟨rfl, wr8_below HB4.out (Nat.le_refl _) T⟩
  simp [results, Try.results11, go_sem, spV, q0, q1, q2, q3, q4, q5, q6, q7]

theorem decode_v (a : Option Addr) (cap n : Nat) (zs : List Int) (w : World) (h : Row w a cap zs) (hn : zs.length = n) (T : Sp) (hT : deS zs = T) (E : Int) (hE : deE zs = E) :
    Calls Try.prog 11 #[.slice a n cap] w fun e w' => e = .returned (.tuple #[spV T, .int .i64 E]) ∧ Below w.heap.size w w' := by
  subst hT hE
  have C : ∀ o : Obj, Calls Try.prog 18 #[.slice a n cap] (w.alloc o) fun e w' => ∃ g c, e = .returned (.tuple #[pgV (opP zs) g c, .int .i64 (opE zs)]) ∧ Own (w.alloc o).heap.size w' (.slice g (opP zs).body.length c) (opP zs).body ∧ Below (w.alloc o).heap.size (w.alloc o) w' := fun o => open_v a cap n zs _ (h.below ((Below.refl _ w).alloc (Nat.le_refl _) o)) hn _ rfl _ rfl
  by_cases ho : opE zs = 0
  · have hlen : (opP zs).body.length = 248 := (seal_open h.1 ho).2.2.2
    have hbys : Bys (opP zs).body := opP_bys h.1
    have hd := deB_split (opP zs)
    have bad : deB (opP zs) = false → (deS zs = sp0 ∧ deE zs = 4) := fun hB => ⟨(de_bad ho hB).2, (de_bad ho hB).1⟩
    by_cases hk : (opP zs).kind = 1
    rotate_left
    · obtain ⟨e1, e2⟩ := bad (by rw [hd]; simp [hk])
      rw [e1, e2]
      exact dec_kind a cap n w _ _ C ho (by simpa using hk)
    by_cases hl : (opP zs).level = 0
    rotate_left
    · obtain ⟨e1, e2⟩ := bad (by rw [hd]; simp [hl])
      rw [e1, e2]
      exact dec_level a cap n w _ _ C ho (by simpa using hk) (by simpa using hl)
    by_cases hc : (opP zs).count = 0
    rotate_left
    · obtain ⟨e1, e2⟩ := bad (by rw [hd]; simp [hc])
      rw [e1, e2]
      exact dec_count a cap n w _ _ C ho (by simpa using hk) (by simpa using hl) (by simpa using hc)
    cases hr : rdB (opP zs).body
    · obtain ⟨e1, e2⟩ := bad (by rw [hd, hr]; simp)
      rw [e1, e2]
      exact dec_read a cap n w _ _ C ho (by simpa using hk) (by simpa using hl) (by simpa using hc) hlen hbys hr
    cases hok : okS (sdL (opP zs).body)
    · obtain ⟨e1, e2⟩ := bad (by rw [hd, hok]; simp)
      rw [e1, e2]
      exact dec_check a cap n w _ _ C ho (by simpa using hk) (by simpa using hl) (by simpa using hc) hlen hbys hr (by unfold enE; rw [hok]; rfl)
    · obtain ⟨e1, e2⟩ := de_good ho (by rw [hd, hok, hr]; simp [hk, hl, hc])
      rw [e1, e2]
      exact dec_good a cap n w _ _ C ho (by simpa using hk) (by simpa using hl) (by simpa using hc) hlen hbys hr (by unfold enE; rw [hok]; rfl) _ rfl
  · obtain ⟨e1, e2⟩ := de_no ho
    rw [e1, e2]
    exact dec_err a cap n w _ _ C (by simpa using ho)
end Go.Proofs.Ytoadkdjmbhflnaa.Oct
