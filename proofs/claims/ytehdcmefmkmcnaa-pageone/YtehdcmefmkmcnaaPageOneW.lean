/- The walk: Two pages have the same bytes just if they are the same but for noughts behind their bodies, and what opens, sealed again, is those bytes; at any two pages and any bytes. -/
import Derived.Test.YtehdcmefmkmcnaaZn
import Derived.WalkKit
import Derived.ProofKit
import Derived.OpenShut
import Derived.ShutString
import Derived.ChangeOld
import Derived.Below
namespace Go.Proofs.Ytehdcmefmkmcnaa.pageOne
open Go.ChangeShapes Go.WideShapes Go.ChangeAt Go.RowKit
open Go.Proofs.Ytehdcmefmkmcnaa.Oct
set_option linter.unusedVariables false

theorem tail_pad (p : Pg) (hl : p.body.length ≤ 248) : sealL (padP p) = sealL p := by
  have e : tailP (padP p) = tailP p := by
    unfold tailP padP
    dsimp only
    rw [List.length_append, List.length_replicate, show 248 - (p.body.length + (248 - p.body.length)) = 0 by omega]
    simp only [List.replicate_zero, List.append_nil, List.append_assoc]
  unfold sealL
  rw [e]

theorem one_same {p q : Pg} (hp : Bys p.body) (hq : Bys q.body) (h1 : sealE p = 0) (h2 : sealE q = 0) : sameB (sealL p) (sealL q) = samePg (padP p) (padP q) := by
  by_cases he : sealL p = sealL q
  · have e1 := (open_seal hp h1).2
    rw [he, (open_seal hq h2).2] at e1
    rw [he, ← e1]
    simp [sameB, samePg]
  · have hn : samePg (padP p) (padP q) = false := by
      cases hs : samePg (padP p) (padP q)
      · rfl
      · exfalso
        apply he
        unfold samePg sameB at hs
        rw [Bool.and_eq_true] at hs
        have h3 := of_decide_eq_true hs.1
        have h4 := of_decide_eq_true hs.2
        have e : padP p = padP q := by
          show Pg.mk p.kind p.level p.count _ = Pg.mk q.kind q.level q.count _
          rw [show p.kind = q.kind from h3.1, show p.level = q.level from h3.2.1, show p.count = q.count from h3.2.2]
          exact congrArg _ h4
        rw [← tail_pad p (sealE_zero h1).2, ← tail_pad q (sealE_zero h2).2, e]
    rw [hn]
    simp [sameB, he]
set_option maxHeartbeats 4000000 in
set_option maxRecDepth 100000 in
theorem walk (p0 : Pg) (a0 : Option Addr) (cap0 : Nat) (p1 : Pg) (a1 : Option Addr) (cap1 : Nat) (a2 : Option Addr) (cap2 : Nat) (l2 : List Int) (w : World) (w0 : PgIn w p0 a0 cap0) (w1 : PgIn w p1 a1 cap1) (w2 : Row w a2 cap2 l2) (n2 : a2 = none → cap2 = 0) :
    Calls Try.prog 6 #[pgV p0 a0 cap0, pgV p1 a1 cap1, .slice a2 l2.length cap2] w fun e w' => e = .returned (.bool true) ∧ Below w.heap.size w w' := by
  have hm0 := Nat.le_trans w0.row.2.1 w0.row.2.2.1
  have hm1 := Nat.le_trans w1.row.2.1 w1.row.2.2.1
  have hm2 := Nat.le_trans w2.2.1 w2.2.2.1
  unfold maxLen at hm0 hm1 hm2
  obtain ⟨E0, hE0⟩ : ∃ E, sealE p0 = E := ⟨_, rfl⟩
  obtain ⟨Z0, hZ0⟩ : ∃ Z, sealZ p0 = Z := ⟨_, rfl⟩
  obtain ⟨E1, hE1⟩ : ∃ E, sealE p1 = E := ⟨_, rfl⟩
  obtain ⟨Z1, hZ1⟩ : ∃ Z, sealZ p1 = Z := ⟨_, rfl⟩
  obtain ⟨F, hF⟩ : ∃ F, opE l2 = F := ⟨_, rfl⟩
  obtain ⟨P, hP⟩ : ∃ P, opP l2 = P := ⟨_, rfl⟩
  have CS0 : Hid (∀ w', Below w.heap.size w w' → Calls Try.prog 9 #[pgV p0 a0 cap0] w' fun e w'' => ∃ g c, e = .returned (.tuple #[.slice g Z0.length c, .int .i64 E0]) ∧ Own w'.heap.size w'' (.slice g Z0.length c) Z0 ∧ Below w'.heap.size w' w'') := fun w' hb => seal_v p0 a0 cap0 w' (w0.row.below hb) w0.k w0.l w0.c E0 hE0 Z0 hZ0 _ rfl
  have CS1 : Hid (∀ w', Below w.heap.size w w' → Calls Try.prog 9 #[pgV p1 a1 cap1] w' fun e w'' => ∃ g c, e = .returned (.tuple #[.slice g Z1.length c, .int .i64 E1]) ∧ Own w'.heap.size w'' (.slice g Z1.length c) Z1 ∧ Below w'.heap.size w' w'') := fun w' hb => seal_v p1 a1 cap1 w' (w1.row.below hb) w1.k w1.l w1.c E1 hE1 Z1 hZ1 _ rfl
  have CO : Hid (∀ w', Below w.heap.size w w' → Calls Try.prog 8 #[.slice a2 l2.length cap2] w' fun e w'' => ∃ g c, e = .returned (.tuple #[pgV P g c, .int .i64 F]) ∧ Own w'.heap.size w'' (.slice g P.body.length c) P.body ∧ Below w'.heap.size w' w'') := fun w' hb => open_v a2 cap2 _ l2 w' (w2.below hb) rfl F hF P hP
  have BZ0 : Hid (Bys Z0) := show Bys Z0 by rw [← hZ0]; exact sealZ_bys w0.row.1
  have BZ1 : Hid (Bys Z1) := show Bys Z1 by rw [← hZ1]; exact sealZ_bys w1.row.1
  have BP : Hid (Bys P.body) := show Bys P.body by rw [← hP]; exact opP_bys w2.1
  have CP : Hid (F = 0 → ∀ (g : Option Addr) (c : Nat) (w' : World), Row w' g c P.body → Calls Try.prog 9 #[pgV P g c] w' fun e w'' => ∃ g c, e = .returned (.tuple #[.slice g l2.length c, .int .i64 0]) ∧ Own w'.heap.size w'' (.slice g l2.length c) l2 ∧ Below w'.heap.size w' w'') := by
    intro hF0 g c w' hr
    rw [hF0] at hF
    obtain ⟨s1, s2, _, _⟩ := seal_open w2.1 hF
    rw [hP] at s1 s2
    obtain ⟨b1, b2, b3⟩ := argP_out (sealE_zero s1).1
    exact seal_v P g c w' hr (by omega) (by omega) (by omega) 0 s1 l2 (by unfold sealZ; rw [if_pos s1]; exact s2) _ rfl
  have CX : Hid (E0 = 0 → E1 = 0 → (∀ (a : Option Addr) (c : Nat) (w' : World), Row w' a c Z0 → Calls Try.prog 8 #[.slice a Z0.length c] w' fun e w'' => ∃ g c, e = .returned (.tuple #[pgV (padP p0) g c, .int .i64 0]) ∧ Own w'.heap.size w'' (.slice g (padP p0).body.length c) (padP p0).body ∧ Below w'.heap.size w' w'') ∧ (∀ (a : Option Addr) (c : Nat) (w' : World), Row w' a c Z1 → Calls Try.prog 8 #[.slice a Z1.length c] w' fun e w'' => ∃ g c, e = .returned (.tuple #[pgV (padP p1) g c, .int .i64 0]) ∧ Own w'.heap.size w'' (.slice g (padP p1).body.length c) (padP p1).body ∧ Below w'.heap.size w' w'') ∧ sameB Z0 Z1 = samePg (padP p0) (padP p1)) := by
    intro e0 e1
    rw [e0] at hE0
    rw [e1] at hE1
    have z0 : Z0 = sealL p0 := by rw [← hZ0]; unfold sealZ; rw [if_pos hE0]
    have z1 : Z1 = sealL p1 := by rw [← hZ1]; unfold sealZ; rw [if_pos hE1]
    obtain ⟨o1, o2⟩ := open_seal w0.row.1 hE0
    obtain ⟨o3, o4⟩ := open_seal w1.row.1 hE1
    rw [z0, z1]
    exact ⟨fun a c w' h => open_v a c _ _ w' h rfl 0 o1 _ o2, fun a c w' h => open_v a c _ _ w' h rfl 0 o3 _ o4, one_same w0.row.1 w1.row.1 hE0 hE1⟩
  have CM : Hid (∀ (a b : Option Addr) (c d : Nat) (w' : World), Row w' a c (padP p0).body → Row w' b d (padP p1).body → Calls Try.prog 13 #[pgV (padP p0) a c, pgV (padP p1) b d] w' fun e w'' => e = .returned (.bool (samePg (padP p0) (padP p1))) ∧ Below w'.heap.size w' w'') := fun a b c d w' h1 h2 => samepg_any _ _ a b c d w' h1 h2
  have BX0 : Hid (Bys (padP p0).body) := w0.row.1.app (bys_rep _)
  have BX1 : Hid (Bys (padP p1).body) := w1.row.1.app (bys_rep _)
  have HRAW : Hid (∀ w', Below w.heap.size w w' → Row w' a2 cap2 l2) := fun w' hb => w2.below hb
  clear hE0 hZ0 hE1 hZ1 hF hP w0 w1 w2 n2
  obtain ⟨Q0, hQ0⟩ : ∃ Q, padP p0 = Q := ⟨_, rfl⟩
  obtain ⟨Q1, hQ1⟩ : ∃ Q, padP p1 = Q := ⟨_, rfl⟩
  rw [hQ0, hQ1] at CX CM
  rw [hQ0] at BX0
  rw [hQ1] at BX1
  clear hQ0 hQ1
  obtain ⟨kd0, lv0, ct0, bd0⟩ := p0
  obtain ⟨kd1, lv1, ct1, bd1⟩ := p1
  obtain ⟨pk, pl, pc, pb⟩ := P
  obtain ⟨qk, ql, qc, qb⟩ := Q0
  obtain ⟨rk, rl, rc, rb⟩ := Q1
  dsimp only [pgV] at *
  obtain ⟨W0, hW0⟩ : ∃ W0, (w.alloc (.cells #[.int .i64 kd0, .int .i64 lv0, .int .i64 ct0, .slice a0 bd0.length cap0] 25)).alloc (.cells #[.int .i64 kd1, .int .i64 lv1, .int .i64 ct1, .slice a1 bd1.length cap1] 25) = W0 := ⟨_, rfl⟩
  have hb00 : Below (w.heap.size + 1) (w.alloc (.cells #[.int .i64 kd0, .int .i64 lv0, .int .i64 ct0, .slice a0 bd0.length cap0] 25)) W0 := by rw [← hW0]; exact (Below.refl _ _).alloc (by simp) _
  have T0 : Hid (Slot W0 w.heap.size (.int .i64 kd0) (.int .i64 lv0) (.int .i64 ct0) (.slice a0 bd0.length cap0)) := (slot_new w _ _ _ _ 25).below (hb00.mono (by simp))
  have T1 : Hid (Slot W0 (w.heap.size + 1) (.int .i64 kd1) (.int .i64 lv1) (.int .i64 ct1) (.slice a1 bd1.length cap1)) := by
    have := slot_new (w.alloc (.cells #[.int .i64 kd0, .int .i64 lv0, .int .i64 ct0, .slice a0 bd0.length cap0] 25)) (.int .i64 kd1) (.int .i64 lv1) (.int .i64 ct1) (.slice a1 bd1.length cap1) 25
    rw [hW0] at this
    show Slot _ _ _ _ _ _
    simpa using this
  have HB0 : Hid (Below w.heap.size w W0) := ((Below.refl _ _).alloc (Nat.le_refl _) _).trans (hb00.mono (by omega))
  by_cases hbig : (1000 : Int) < bd0.length ∨ (¬ (1000 : Int) < bd0.length ∧ ((1000 : Int) < bd1.length ∨ (¬ (1000 : Int) < bd1.length ∧ (1000 : Int) < l2.length)))
  · clear CS0 CS1 CO CP CX CM
    rcases hbig with hbig | ⟨h1, hbig | ⟨h2, hbig⟩⟩
    all_goals
      go_enter Try.func6, Try.ntmps6
      go_wp2_with (go_at_call 7; refine (awake_any _).mono ?_; rintro e w1 ⟨rfl, hb1⟩; have HB1 : Hid (Below w.heap.size w w1) := HB0.out.trans (hb1.mono HB0.out.size); have U0 : Hid (Slot w1 w.heap.size (.int .i64 kd0) (.int .i64 lv0) (.int .i64 ct0) (.slice a0 bd0.length cap0)) := T0.out.below hb1; have U1 : Hid (Slot w1 (w.heap.size + 1) (.int .i64 kd1) (.int .i64 lv1) (.int .i64 ct1) (.slice a1 bd1.length cap1)) := T1.out.below hb1; obtain ⟨⟨k0, k1, k2, k3⟩, _⟩ := U0.out; obtain ⟨⟨j0, j1, j2, j3⟩, _⟩ := U1.out; clear hb1)
      go_ret
      exact ⟨rfl, HB1.out⟩
  · have s0 : ¬ (1000 : Int) < bd0.length := fun h => hbig (.inl h)
    have s1 : ¬ (1000 : Int) < bd1.length := fun h => hbig (.inr ⟨s0, .inl h⟩)
    have s2 : ¬ (1000 : Int) < l2.length := fun h => hbig (.inr ⟨s0, .inr ⟨s1, h⟩⟩)
    clear hbig
    go_enter Try.func6, Try.ntmps6
    go_wp2_with (go_at_call 7; refine (awake_any _).mono ?_; rintro e w1 ⟨rfl, hb1⟩; have HB1 : Hid (Below w.heap.size w w1) := HB0.out.trans (hb1.mono HB0.out.size); have U0 : Hid (Slot w1 w.heap.size (.int .i64 kd0) (.int .i64 lv0) (.int .i64 ct0) (.slice a0 bd0.length cap0)) := T0.out.below hb1; have U1 : Hid (Slot w1 (w.heap.size + 1) (.int .i64 kd1) (.int .i64 lv1) (.int .i64 ct1) (.slice a1 bd1.length cap1)) := T1.out.below hb1; obtain ⟨⟨k0, k1, k2, k3⟩, _⟩ := U0.out; obtain ⟨⟨j0, j1, j2, j3⟩, _⟩ := U1.out; clear hb1)
    clear hW0 hb00 j0 j1 j2 j3
    refine (CS0.out _ HB1.out).mono ?_
    rintro e w2 ⟨g2, c2, rfl, ho2, hb2⟩
    have HB2 : Hid (Below w.heap.size w w2) := HB1.out.trans (hb2.mono HB1.out.size)
    have HX2 : Hid (Row w2 g2 c2 Z0) := (ho2.row' BZ0.out).2
    obtain ⟨⟨j0, j1, j2, j3⟩, _⟩ := U1.out.below hb2
    clear hb2 ho2 k0 k1 k2 k3
    go_wp2_with fail
    refine (CS1.out _ HB2.out).mono ?_
    rintro e w3 ⟨g3, c3, rfl, ho3, hb3⟩
    have HB3 : Hid (Below w.heap.size w w3) := HB2.out.trans (hb3.mono HB2.out.size)
    have HX3 : Hid (Row w3 g2 c2 Z0) := HX2.out.below hb3
    have HY3 : Hid (Row w3 g3 c3 Z1) := (ho3.row' BZ1.out).2
    clear hb3 ho3 j0 j1 j2 j3
    go_wp2_with fail
    refine (CO.out _ HB3.out).mono ?_
    rintro e w4 ⟨g4, c4, rfl, ho4, hb4⟩
    have HB4 : Hid (Below w.heap.size w w4) := HB3.out.trans (hb4.mono HB3.out.size)
    have HX4 : Hid (Row w4 g2 c2 Z0) := HX3.out.below hb4
    have HY4 : Hid (Row w4 g3 c3 Z1) := HY3.out.below hb4
    have HP4 : Hid (Row w4 g4 c4 pb) := (ho4.row' BP.out).2
    clear hb4 ho4
    obtain ⟨W4, hW4⟩ : ∃ W4, w4.alloc (.cells #[.int .i64 pk, .int .i64 pl, .int .i64 pc, .slice g4 pb.length c4] 25) = W4 := ⟨_, rfl⟩
    have hb4a : Below w4.heap.size w4 W4 := by rw [← hW4]; exact (Below.refl _ _).alloc (Nat.le_refl _) _
    have HB5 : Hid (Below w.heap.size w W4) := HB4.out.trans (hb4a.mono HB4.out.size)
    have HX5 : Hid (Row W4 g2 c2 Z0) := HX4.out.below hb4a
    have HY5 : Hid (Row W4 g3 c3 Z1) := HY4.out.below hb4a
    have HP5 : Hid (Row W4 g4 c4 pb) := HP4.out.below hb4a
    have V5 : Hid (Slot W4 w4.heap.size (.int .i64 pk) (.int .i64 pl) (.int .i64 pc) (.slice g4 pb.length c4)) := by rw [← hW4]; exact slot_new w4 _ _ _ _ 25
    clear hb4a
    by_cases hF0 : F = 0
    · subst hF0
      obtain ⟨⟨v0, v1, v2, v3⟩, _⟩ := V5.out
      go_wp2_with fail
      refine (CP.out (by first | rfl | trivial) _ _ _ HP5.out).mono ?_
      rintro e w5 ⟨g5, c5, rfl, ho5, hb5⟩
      have HB5x : Hid (Below w.heap.size w w5) := HB5.out.trans (hb5.mono HB5.out.size)
      have HX5x : Hid (Row w5 g2 c2 Z0) := HX5.out.below hb5
      have HY5x : Hid (Row w5 g3 c3 Z1) := HY5.out.below hb5
      have HZ5 : Hid (Row w5 g5 c5 l2) := (ho5.row' (HRAW.out w (Below.refl _ _)).1).2
      clear hb5 ho5 v0 v1 v2 v3
      go_wp2_with fail
      have c6 := same_any _ _ _ _ _ _ _ HZ5.out (HRAW.out w5 HB5x.out)
      rw [show sameB l2 l2 = true by simp [sameB]] at c6
      refine c6.mono ?_
      clear c6
      rintro e w6 ⟨rfl, hb6⟩
      have HB6 : Hid (Below w.heap.size w w6) := HB5x.out.trans (hb6.mono HB5x.out.size)
      have HX6 : Hid (Row w6 g2 c2 Z0) := HX5x.out.below hb6
      have HY6 : Hid (Row w6 g3 c3 Z1) := HY5x.out.below hb6
      clear hb6
      by_cases he0 : E0 = 0
      · by_cases he1 : E1 = 0
        · obtain ⟨CA, CB, hsame⟩ := CX.out he0 he1
          subst he0 he1
          have CAH : Hid _ := CA
          have CBH : Hid _ := CB
          have HSA : Hid _ := hsame
          clear CA CB hsame
          go_wp2_with fail
          refine (CAH.out _ _ _ HX6.out).mono ?_
          rintro e w7 ⟨g7, c7, rfl, ho7, hb7⟩
          have HB7 : Hid (Below w.heap.size w w7) := HB6.out.trans (hb7.mono HB6.out.size)
          have HX7 : Hid (Row w7 g2 c2 Z0) := HX6.out.below hb7
          have HY7 : Hid (Row w7 g3 c3 Z1) := HY6.out.below hb7
          have HQ7 : Hid (Row w7 g7 c7 qb) := (ho7.row' BX0.out).2
          clear hb7 ho7
          obtain ⟨W7, hW7⟩ : ∃ W7, w7.alloc (.cells #[.int .i64 qk, .int .i64 ql, .int .i64 qc, .slice g7 qb.length c7] 25) = W7 := ⟨_, rfl⟩
          have hb7a : Below w7.heap.size w7 W7 := by rw [← hW7]; exact (Below.refl _ _).alloc (Nat.le_refl _) _
          have HB7a : Hid (Below w.heap.size w W7) := HB7.out.trans (hb7a.mono HB7.out.size)
          have HX7a : Hid (Row W7 g2 c2 Z0) := HX7.out.below hb7a
          have HY7a : Hid (Row W7 g3 c3 Z1) := HY7.out.below hb7a
          have HQ7a : Hid (Row W7 g7 c7 qb) := HQ7.out.below hb7a
          have V7 : Hid (Slot W7 w7.heap.size (.int .i64 qk) (.int .i64 ql) (.int .i64 qc) (.slice g7 qb.length c7)) := by rw [← hW7]; exact slot_new w7 _ _ _ _ 25
          clear hb7a
          go_wp2_with fail
          refine (CBH.out _ _ _ HY7a.out).mono ?_
          rintro e w8 ⟨g8, c8, rfl, ho8, hb8⟩
          have HB8 : Hid (Below w.heap.size w w8) := HB7a.out.trans (hb8.mono HB7a.out.size)
          have HX8 : Hid (Row w8 g2 c2 Z0) := HX7a.out.below hb8
          have HY8 : Hid (Row w8 g3 c3 Z1) := HY7a.out.below hb8
          have HQ8 : Hid (Row w8 g7 c7 qb) := HQ7a.out.below hb8
          have HR8 : Hid (Row w8 g8 c8 rb) := (ho8.row' BX1.out).2
          have V8 : Hid (Slot w8 w7.heap.size (.int .i64 qk) (.int .i64 ql) (.int .i64 qc) (.slice g7 qb.length c7)) := V7.out.below hb8
          clear hb8 ho8
          obtain ⟨W8, hW8⟩ : ∃ W8, w8.alloc (.cells #[.int .i64 rk, .int .i64 rl, .int .i64 rc, .slice g8 rb.length c8] 25) = W8 := ⟨_, rfl⟩
          have hb8a : Below w8.heap.size w8 W8 := by rw [← hW8]; exact (Below.refl _ _).alloc (Nat.le_refl _) _
          have HB8a : Hid (Below w.heap.size w W8) := HB8.out.trans (hb8a.mono HB8.out.size)
          have HX8a : Hid (Row W8 g2 c2 Z0) := HX8.out.below hb8a
          have HY8a : Hid (Row W8 g3 c3 Z1) := HY8.out.below hb8a
          have HQ8a : Hid (Row W8 g7 c7 qb) := HQ8.out.below hb8a
          have HR8a : Hid (Row W8 g8 c8 rb) := HR8.out.below hb8a
          have V8a : Hid (Slot W8 w7.heap.size (.int .i64 qk) (.int .i64 ql) (.int .i64 qc) (.slice g7 qb.length c7)) := V8.out.below hb8a
          have Y8a : Hid (Slot W8 w8.heap.size (.int .i64 rk) (.int .i64 rl) (.int .i64 rc) (.slice g8 rb.length c8)) := by rw [← hW8]; exact slot_new w8 _ _ _ _ 25
          clear hb8a
          go_wp2_with fail
          clear hW8 hW7
          obtain ⟨S, hS⟩ : ∃ S, samePg ⟨qk, ql, qc, qb⟩ ⟨rk, rl, rc, rb⟩ = S := ⟨_, rfl⟩
          have CSM : Hid (∀ w', Below W8.heap.size W8 w' → Calls Try.prog 12 #[.slice g2 Z0.length c2, .slice g3 Z1.length c3] w' fun e w'' => e = .returned (.bool S) ∧ Below w'.heap.size w' w'') := by
            intro w' hb
            have := same_any _ _ _ _ _ _ _ (HX8a.out.below hb) (HY8a.out.below hb)
            rwa [HSA.out, hS] at this
          have CPG : Hid (∀ w', Below W8.heap.size W8 w' → Calls Try.prog 13 #[.agg #[.int .i64 qk, .int .i64 ql, .int .i64 qc, .slice g7 qb.length c7], .agg #[.int .i64 rk, .int .i64 rl, .int .i64 rc, .slice g8 rb.length c8]] w' fun e w'' => e = .returned (.bool S) ∧ Below w'.heap.size w' w'') := by
            intro w' hb
            have := CM.out _ _ _ _ _ (HQ8a.out.below hb) (HR8a.out.below hb)
            rwa [hS] at this
          have SK : Hid (∀ w', Below W8.heap.size W8 w' → w'.cell? ⟨w7.heap.size, 0, none⟩ = some (.int .i64 qk) ∧ w'.cell? ⟨w7.heap.size, 1, none⟩ = some (.int .i64 ql) ∧ w'.cell? ⟨w7.heap.size, 2, none⟩ = some (.int .i64 qc) ∧ w'.cell? ⟨w7.heap.size, 3, none⟩ = some (.slice g7 qb.length c7) ∧ w'.cell? ⟨w8.heap.size, 0, none⟩ = some (.int .i64 rk) ∧ w'.cell? ⟨w8.heap.size, 1, none⟩ = some (.int .i64 rl) ∧ w'.cell? ⟨w8.heap.size, 2, none⟩ = some (.int .i64 rc) ∧ w'.cell? ⟨w8.heap.size, 3, none⟩ = some (.slice g8 rb.length c8)) := by
            intro w' hb
            obtain ⟨⟨x0, x1, x2, x3⟩, _⟩ := V8a.out.below hb
            obtain ⟨⟨y0, y1, y2, y3⟩, _⟩ := Y8a.out.below hb
            exact ⟨x0, x1, x2, x3, y0, y1, y2, y3⟩
          clear hS
          go_region_held3 (fun w' => w'.cell? ⟨w7.heap.size, 0, none⟩ = some (.int .i64 qk) ∧ w'.cell? ⟨w7.heap.size, 1, none⟩ = some (.int .i64 ql) ∧ w'.cell? ⟨w7.heap.size, 2, none⟩ = some (.int .i64 qc) ∧ w'.cell? ⟨w7.heap.size, 3, none⟩ = some (.slice g7 qb.length c7) ∧ w'.cell? ⟨w8.heap.size, 0, none⟩ = some (.int .i64 rk) ∧ w'.cell? ⟨w8.heap.size, 1, none⟩ = some (.int .i64 rl) ∧ w'.cell? ⟨w8.heap.size, 2, none⟩ = some (.int .i64 rc) ∧ w'.cell? ⟨w8.heap.size, 3, none⟩ = some (.slice g8 rb.length c8)) (first | exact SK.out _ (Below.refl _ _).drew | exact SK.out _ HB10.out | exact SK.out _ HB9.out | go_keep) (first
            | (go_at_call 12; refine (CSM.out W8.drew (Below.refl _ _).drew).mono ?_; rintro e w9 ⟨rfl, hb9⟩; have HB9 : Hid (Below W8.heap.size W8 w9) := (Below.refl W8.heap.size W8).drew.trans (hb9.mono (Nat.le_refl _)); clear hb9)
            | (go_at_call 13; refine (CPG.out w9 HB9.out).mono ?_; rintro e w10 ⟨rfl, hb10⟩; have HB10 : Hid (Below W8.heap.size W8 w10) := HB9.out.trans (hb10.mono HB9.out.size); clear hb10))
          go_wp2
          go_ret
          exact ⟨by cases S <;> rfl, HB8a.out.trans (HB10.out.mono HB8a.out.size)⟩
        · have he1b : (E1 != 0) = true := by simpa using he1
          subst he0
          clear he1
          go_wp2
          go_ret
          exact ⟨rfl, HB6.out⟩
      · have he0b : (E0 != 0) = true := by simpa using he0
        clear he0
        go_wp2
        go_ret
        exact ⟨rfl, HB6.out⟩
    · have hF0b : (F == 0) = false := by simpa using hF0
      clear hF0
      by_cases he0 : E0 = 0
      · by_cases he1 : E1 = 0
        · obtain ⟨CA, CB, hsame⟩ := CX.out he0 he1
          subst he0 he1
          have CAH : Hid _ := CA
          have CBH : Hid _ := CB
          have HSA : Hid _ := hsame
          clear CA CB hsame
          go_wp2_with fail
          refine (CAH.out _ _ _ HX5.out).mono ?_
          rintro e w7 ⟨g7, c7, rfl, ho7, hb7⟩
          have HB7 : Hid (Below w.heap.size w w7) := HB5.out.trans (hb7.mono HB5.out.size)
          have HX7 : Hid (Row w7 g2 c2 Z0) := HX5.out.below hb7
          have HY7 : Hid (Row w7 g3 c3 Z1) := HY5.out.below hb7
          have HQ7 : Hid (Row w7 g7 c7 qb) := (ho7.row' BX0.out).2
          clear hb7 ho7
          obtain ⟨W7, hW7⟩ : ∃ W7, w7.alloc (.cells #[.int .i64 qk, .int .i64 ql, .int .i64 qc, .slice g7 qb.length c7] 25) = W7 := ⟨_, rfl⟩
          have hb7a : Below w7.heap.size w7 W7 := by rw [← hW7]; exact (Below.refl _ _).alloc (Nat.le_refl _) _
          have HB7a : Hid (Below w.heap.size w W7) := HB7.out.trans (hb7a.mono HB7.out.size)
          have HX7a : Hid (Row W7 g2 c2 Z0) := HX7.out.below hb7a
          have HY7a : Hid (Row W7 g3 c3 Z1) := HY7.out.below hb7a
          have HQ7a : Hid (Row W7 g7 c7 qb) := HQ7.out.below hb7a
          have V7 : Hid (Slot W7 w7.heap.size (.int .i64 qk) (.int .i64 ql) (.int .i64 qc) (.slice g7 qb.length c7)) := by rw [← hW7]; exact slot_new w7 _ _ _ _ 25
          clear hb7a
          go_wp2_with fail
          refine (CBH.out _ _ _ HY7a.out).mono ?_
          rintro e w8 ⟨g8, c8, rfl, ho8, hb8⟩
          have HB8 : Hid (Below w.heap.size w w8) := HB7a.out.trans (hb8.mono HB7a.out.size)
          have HX8 : Hid (Row w8 g2 c2 Z0) := HX7a.out.below hb8
          have HY8 : Hid (Row w8 g3 c3 Z1) := HY7a.out.below hb8
          have HQ8 : Hid (Row w8 g7 c7 qb) := HQ7a.out.below hb8
          have HR8 : Hid (Row w8 g8 c8 rb) := (ho8.row' BX1.out).2
          have V8 : Hid (Slot w8 w7.heap.size (.int .i64 qk) (.int .i64 ql) (.int .i64 qc) (.slice g7 qb.length c7)) := V7.out.below hb8
          clear hb8 ho8
          obtain ⟨W8, hW8⟩ : ∃ W8, w8.alloc (.cells #[.int .i64 rk, .int .i64 rl, .int .i64 rc, .slice g8 rb.length c8] 25) = W8 := ⟨_, rfl⟩
          have hb8a : Below w8.heap.size w8 W8 := by rw [← hW8]; exact (Below.refl _ _).alloc (Nat.le_refl _) _
          have HB8a : Hid (Below w.heap.size w W8) := HB8.out.trans (hb8a.mono HB8.out.size)
          have HX8a : Hid (Row W8 g2 c2 Z0) := HX8.out.below hb8a
          have HY8a : Hid (Row W8 g3 c3 Z1) := HY8.out.below hb8a
          have HQ8a : Hid (Row W8 g7 c7 qb) := HQ8.out.below hb8a
          have HR8a : Hid (Row W8 g8 c8 rb) := HR8.out.below hb8a
          have V8a : Hid (Slot W8 w7.heap.size (.int .i64 qk) (.int .i64 ql) (.int .i64 qc) (.slice g7 qb.length c7)) := V8.out.below hb8a
          have Y8a : Hid (Slot W8 w8.heap.size (.int .i64 rk) (.int .i64 rl) (.int .i64 rc) (.slice g8 rb.length c8)) := by rw [← hW8]; exact slot_new w8 _ _ _ _ 25
          clear hb8a
          go_wp2_with fail
          clear hW8 hW7
          obtain ⟨S, hS⟩ : ∃ S, samePg ⟨qk, ql, qc, qb⟩ ⟨rk, rl, rc, rb⟩ = S := ⟨_, rfl⟩
          have CSM : Hid (∀ w', Below W8.heap.size W8 w' → Calls Try.prog 12 #[.slice g2 Z0.length c2, .slice g3 Z1.length c3] w' fun e w'' => e = .returned (.bool S) ∧ Below w'.heap.size w' w'') := by
            intro w' hb
            have := same_any _ _ _ _ _ _ _ (HX8a.out.below hb) (HY8a.out.below hb)
            rwa [HSA.out, hS] at this
          have CPG : Hid (∀ w', Below W8.heap.size W8 w' → Calls Try.prog 13 #[.agg #[.int .i64 qk, .int .i64 ql, .int .i64 qc, .slice g7 qb.length c7], .agg #[.int .i64 rk, .int .i64 rl, .int .i64 rc, .slice g8 rb.length c8]] w' fun e w'' => e = .returned (.bool S) ∧ Below w'.heap.size w' w'') := by
            intro w' hb
            have := CM.out _ _ _ _ _ (HQ8a.out.below hb) (HR8a.out.below hb)
            rwa [hS] at this
          have SK : Hid (∀ w', Below W8.heap.size W8 w' → w'.cell? ⟨w7.heap.size, 0, none⟩ = some (.int .i64 qk) ∧ w'.cell? ⟨w7.heap.size, 1, none⟩ = some (.int .i64 ql) ∧ w'.cell? ⟨w7.heap.size, 2, none⟩ = some (.int .i64 qc) ∧ w'.cell? ⟨w7.heap.size, 3, none⟩ = some (.slice g7 qb.length c7) ∧ w'.cell? ⟨w8.heap.size, 0, none⟩ = some (.int .i64 rk) ∧ w'.cell? ⟨w8.heap.size, 1, none⟩ = some (.int .i64 rl) ∧ w'.cell? ⟨w8.heap.size, 2, none⟩ = some (.int .i64 rc) ∧ w'.cell? ⟨w8.heap.size, 3, none⟩ = some (.slice g8 rb.length c8)) := by
            intro w' hb
            obtain ⟨⟨x0, x1, x2, x3⟩, _⟩ := V8a.out.below hb
            obtain ⟨⟨y0, y1, y2, y3⟩, _⟩ := Y8a.out.below hb
            exact ⟨x0, x1, x2, x3, y0, y1, y2, y3⟩
          clear hS
          go_region_held3 (fun w' => w'.cell? ⟨w7.heap.size, 0, none⟩ = some (.int .i64 qk) ∧ w'.cell? ⟨w7.heap.size, 1, none⟩ = some (.int .i64 ql) ∧ w'.cell? ⟨w7.heap.size, 2, none⟩ = some (.int .i64 qc) ∧ w'.cell? ⟨w7.heap.size, 3, none⟩ = some (.slice g7 qb.length c7) ∧ w'.cell? ⟨w8.heap.size, 0, none⟩ = some (.int .i64 rk) ∧ w'.cell? ⟨w8.heap.size, 1, none⟩ = some (.int .i64 rl) ∧ w'.cell? ⟨w8.heap.size, 2, none⟩ = some (.int .i64 rc) ∧ w'.cell? ⟨w8.heap.size, 3, none⟩ = some (.slice g8 rb.length c8)) (first | exact SK.out _ (Below.refl _ _).drew | exact SK.out _ HB10.out | exact SK.out _ HB9.out | go_keep) (first
            | (go_at_call 12; refine (CSM.out W8.drew (Below.refl _ _).drew).mono ?_; rintro e w9 ⟨rfl, hb9⟩; have HB9 : Hid (Below W8.heap.size W8 w9) := (Below.refl W8.heap.size W8).drew.trans (hb9.mono (Nat.le_refl _)); clear hb9)
            | (go_at_call 13; refine (CPG.out w9 HB9.out).mono ?_; rintro e w10 ⟨rfl, hb10⟩; have HB10 : Hid (Below W8.heap.size W8 w10) := HB9.out.trans (hb10.mono HB9.out.size); clear hb10))
          go_wp2
          go_ret
          exact ⟨by cases S <;> rfl, HB8a.out.trans (HB10.out.mono HB8a.out.size)⟩
        · have he1b : (E1 != 0) = true := by simpa using he1
          subst he0
          clear he1
          go_wp2
          go_ret
          exact ⟨rfl, HB5.out⟩
      · have he0b : (E0 != 0) = true := by simpa using he0
        clear he0
        go_wp2
        go_ret
        exact ⟨rfl, HB5.out⟩

end Go.Proofs.Ytehdcmefmkmcnaa.pageOne
