/- The walk: page.Seal and page.Open answer what the document asks, at any page and any bytes. -/
import Derived.Test.YtehdcmefmkmcnaaZn
import Derived.WalkKit
import Derived.ProofKit
import Derived.OpenShut
import Derived.ShutString
import Derived.ChangeOld
import Derived.Below
namespace Go.Proofs.Ytehdcmefmkmcnaa.pageSeals
open Go.ChangeShapes Go.WideShapes Go.ChangeAt Go.RowKit
open Go.Proofs.Ytehdcmefmkmcnaa.Oct
set_option linter.unusedVariables false


set_option maxHeartbeats 4000000 in
set_option maxRecDepth 100000 in
theorem walk (p0 : Pg) (a0 : Option Addr) (cap0 : Nat) (a1 : Option Addr) (cap1 : Nat) (l1 : List Int) (w : World) (w0 : PgIn w p0 a0 cap0) (w1 : Row w a1 cap1 l1) (n1 : a1 = none → cap1 = 0) :
    Calls Try.prog 4 #[pgV p0 a0 cap0, .slice a1 l1.length cap1] w fun e w' => e = .returned (.bool true) ∧ Below w.heap.size w w' := by
  have hm0 := Nat.le_trans w0.row.2.1 w0.row.2.2.1
  have hm1 := Nat.le_trans w1.2.1 w1.2.2.1
  unfold maxLen at hm0 hm1
  obtain ⟨hr, hnil, hk, hlv, hct⟩ := w0
  obtain ⟨E, hE⟩ : ∃ E, sealE p0 = E := ⟨_, rfl⟩
  obtain ⟨Z, hZ⟩ : ∃ Z, sealZ p0 = Z := ⟨_, rfl⟩
  obtain ⟨F, hF⟩ : ∃ F, opE l1 = F := ⟨_, rfl⟩
  obtain ⟨P, hP⟩ : ∃ P, opP l1 = P := ⟨_, rfl⟩
  have bZ : Bys Z := by rw [← hZ]; exact sealZ_bys hr.1
  have bP : Bys P.body := by rw [← hP]; exact opP_bys w1.1
  have cS : ∀ w1, Below w.heap.size w w1 → Calls Try.prog 9 #[pgV p0 a0 cap0] w1 fun e w' => ∃ g c, e = .returned (.tuple #[.slice g Z.length c, .int .i64 E]) ∧ Own w1.heap.size w' (.slice g Z.length c) Z ∧ Below w1.heap.size w1 w' := fun w1 hb => seal_v p0 a0 cap0 w1 (hr.below hb) hk hlv hct E hE Z hZ _ rfl
  have cR : ∀ w1, Below w.heap.size w w1 → Calls Try.prog 10 #[pgV p0 a0 cap0] w1 fun e w' => ∃ g c, e = .returned (.tuple #[.slice g Z.length c, .int .i64 E]) ∧ Own w1.heap.size w' (.slice g Z.length c) Z ∧ Below w1.heap.size w1 w' := fun w1 hb => rseal_v p0 a0 cap0 w1 (hr.below hb) hnil E hE Z hZ _ rfl
  have cO : ∀ w2, Below w.heap.size w w2 → Calls Try.prog 8 #[.slice a1 l1.length cap1] w2 fun e w' => ∃ g c, e = .returned (.tuple #[pgV P g c, .int .i64 F]) ∧ Own w2.heap.size w' (.slice g P.body.length c) P.body ∧ Below w2.heap.size w2 w' := fun w2 hb => open_v a1 cap1 _ l1 w2 (w1.below hb) rfl F hF P hP
  have cQ : ∀ w2, Below w.heap.size w w2 → Calls Try.prog 11 #[.slice a1 l1.length cap1] w2 fun e w' => ∃ g c, e = .returned (.tuple #[pgV P g c, .int .i64 F]) ∧ Own w2.heap.size w' (.slice g P.body.length c) P.body ∧ Below w2.heap.size w2 w' := fun w2 hb => ropen_v a1 cap1 _ l1 w2 (w1.below hb) rfl F hF P hP
  have cM : ∀ (a b : Option Addr) (c d : Nat) (w2 : World), Row w2 a c P.body → Row w2 b d P.body → Calls Try.prog 13 #[pgV P a c, pgV P b d] w2 fun e w' => e = .returned (.bool true) ∧ Below w2.heap.size w2 w' := fun a b c d w2 h1 h2 => by
    have := samepg_any P P a b c d w2 h1 h2
    rwa [show samePg P P = true by simp [samePg, sameB]] at this
  have CS : Hid _ := cS
  have CR : Hid _ := cR
  have CO : Hid _ := cO
  have CQ : Hid _ := cQ
  have CM : Hid _ := cM
  have BZ : Hid (Bys Z) := bZ
  have BP : Hid (Bys P.body) := bP
  have HEb : Hid (-9223372036854775808 ≤ E ∧ E ≤ 9223372036854775807) := by
    show _ ∧ _
    rw [← hE]; unfold sealE; split
    · split <;> omega
    · omega
  have HFb : Hid (-9223372036854775808 ≤ F ∧ F ≤ 9223372036854775807) := by
    show _ ∧ _
    rw [← hF]; unfold opE; split
    · split
      · split <;> omega
      · omega
    · omega
  clear cS cR cO cQ cM hE hZ hF hP bZ bP hr hnil hk hlv hct w1
  obtain ⟨kd, lv, ct, bd⟩ := p0
  obtain ⟨pk, pl, pc, pb⟩ := P
  dsimp only [pgV] at *
  have S0 : Hid (Slot (w.alloc (.cells #[.int .i64 kd, .int .i64 lv, .int .i64 ct, .slice a0 bd.length cap0] 25)) w.heap.size _ _ _ _) := slot_new w _ _ _ _ 25
  have HB0 : Hid (Below w.heap.size w (w.alloc (.cells #[.int .i64 kd, .int .i64 lv, .int .i64 ct, .slice a0 bd.length cap0] 25))) := (Below.refl _ _).alloc (Nat.le_refl _) _
  by_cases hbig : (2000 : Int) < bd.length ∨ (2000 : Int) < l1.length
  · clear CS CR CO CQ CM
    rcases hbig with hbig | hbig
    · go_enter Try.func4, Try.ntmps4
      go_wp2_with (go_at_call 7; refine (awake_any _).mono ?_; rintro e w1 ⟨rfl, hb1⟩; have HB1 : Hid (Below w.heap.size w w1) := HB0.out.trans (hb1.mono HB0.out.size); obtain ⟨⟨k0, k1, k2, k3⟩, _⟩ := S0.out.below hb1; clear hb1)
      go_ret
      exact ⟨rfl, HB1.out⟩
    · by_cases hb2 : (2000 : Int) < bd.length
      all_goals
        go_enter Try.func4, Try.ntmps4
        go_wp2_with (go_at_call 7; refine (awake_any _).mono ?_; rintro e w1 ⟨rfl, hb1⟩; have HB1 : Hid (Below w.heap.size w w1) := HB0.out.trans (hb1.mono HB0.out.size); obtain ⟨⟨k0, k1, k2, k3⟩, _⟩ := S0.out.below hb1; clear hb1)
        go_ret
        exact ⟨rfl, HB1.out⟩
  · have hs1 : ¬ (2000 : Int) < bd.length := fun h => hbig (.inl h)
    have hs2 : ¬ (2000 : Int) < l1.length := fun h => hbig (.inr h)
    clear hbig
    go_enter Try.func4, Try.ntmps4
    go_wp2_with (go_at_call 7; refine (awake_any _).mono ?_; rintro e w1 ⟨rfl, hb1⟩; have HB1 : Hid (Below w.heap.size w w1) := HB0.out.trans (hb1.mono HB0.out.size); have HS1 : Hid (Slot w1 w.heap.size _ _ _ _) := S0.out.below hb1; obtain ⟨⟨k0, k1, k2, k3⟩, _⟩ := HS1.out; clear hb1)
    refine (CS.out _ HB1.out).mono ?_
    rintro e w2 ⟨g2, c2, rfl, ho2, hb2⟩
    have HB2 : Hid (Below w.heap.size w w2) := HB1.out.trans (hb2.mono HB1.out.size)
    have HR2 : Hid (Row w2 g2 c2 Z) := (ho2.row' BZ.out).2
    have HS2 : Hid (Slot w2 w.heap.size _ _ _ _) := HS1.out.below hb2
    clear hb2 ho2 k0 k1 k2 k3
    obtain ⟨⟨k0, k1, k2, k3⟩, _⟩ := HS2.out
    go_wp2_with fail
    refine (CR.out _ HB2.out).mono ?_
    rintro e w3 ⟨g3, c3, rfl, ho3, hb3⟩
    have HB3 : Hid (Below w.heap.size w w3) := HB2.out.trans (hb3.mono HB2.out.size)
    have HR3 : Hid (Row w3 g2 c2 Z) := HR2.out.below hb3
    have HD3 : Hid (Row w3 g3 c3 Z) := (ho3.row' BZ.out).2
    clear hb3 ho3 k0 k1 k2 k3
    go_wp2_with fail
    refine (CO.out _ HB3.out).mono ?_
    rintro e w4 ⟨g4, c4, rfl, ho4, hb4⟩
    have HB4 : Hid (Below w.heap.size w w4) := HB3.out.trans (hb4.mono HB3.out.size)
    have HR4 : Hid (Row w4 g2 c2 Z) := HR3.out.below hb4
    have HD4 : Hid (Row w4 g3 c3 Z) := HD3.out.below hb4
    have HQ4 : Hid (Row w4 g4 c4 pb) := (ho4.row' BP.out).2
    clear hb4 ho4
    go_wp2_with fail
    have HB4a : Hid (Below w.heap.size w (w4.alloc (.cells #[.int .i64 pk, .int .i64 pl, .int .i64 pc, .slice g4 pb.length c4] 25))) := HB4.out.alloc HB4.out.size _
    have hb4a : Below w4.heap.size w4 (w4.alloc (.cells #[.int .i64 pk, .int .i64 pl, .int .i64 pc, .slice g4 pb.length c4] 25)) := (Below.refl _ _).alloc (Nat.le_refl _) _
    refine (CQ.out _ HB4a.out).mono ?_
    rintro e w5 ⟨g5, c5, rfl, ho5, hb5⟩
    have HB5 : Hid (Below w.heap.size w w5) := HB4a.out.trans (hb5.mono HB4a.out.size)
    have HR5 : Hid (Row w5 g2 c2 Z) := (HR4.out.below hb4a).below hb5
    have HD5 : Hid (Row w5 g3 c3 Z) := (HD4.out.below hb4a).below hb5
    have HQ5 : Hid (Row w5 g4 c4 pb) := (HQ4.out.below hb4a).below hb5
    have HP5 : Hid (Row w5 g5 c5 pb) := (ho5.row' BP.out).2
    have HT5 : Hid (Slot w5 w4.heap.size _ _ _ _) := (slot_new w4 _ _ _ _ 25).below hb5
    clear hb4a hb5 ho5
    go_wp2_with fail
    have HB5a : Hid (Below w.heap.size w (w5.alloc (.cells #[.int .i64 pk, .int .i64 pl, .int .i64 pc, .slice g5 pb.length c5] 25))) := HB5.out.alloc HB5.out.size _
    have hb5a : Below w5.heap.size w5 (w5.alloc (.cells #[.int .i64 pk, .int .i64 pl, .int .i64 pc, .slice g5 pb.length c5] 25)) := (Below.refl _ _).alloc (Nat.le_refl _) _
    have c6 := same_any _ _ _ _ _ _ _ (HR5.out.below hb5a) (HD5.out.below hb5a)
    rw [show sameB Z Z = true by simp [sameB]] at c6
    refine c6.mono ?_
    clear c6
    rintro e w6 ⟨rfl, hb6⟩
    have HB6 : Hid (Below w.heap.size w w6) := HB5a.out.trans (hb6.mono HB5a.out.size)
    have HQ6 : Hid (Row w6 g4 c4 pb) := (HQ5.out.below hb5a).below hb6
    have HP6 : Hid (Row w6 g5 c5 pb) := (HP5.out.below hb5a).below hb6
    obtain ⟨⟨u0, u1, u2, u3⟩, _⟩ := (HT5.out.below hb5a).below hb6
    obtain ⟨⟨v0, v1, v2, v3⟩, _⟩ := (slot_new w5 (.int .i64 pk) (.int .i64 pl) (.int .i64 pc) (.slice g5 pb.length c5) 25).below hb6
    clear hb5a hb6
    go_wp2_with fail
    refine (CM.out _ _ _ _ _ HQ6.out HP6.out).mono ?_
    rintro e w7 ⟨rfl, hb7⟩
    have HB7 : Hid (Below w.heap.size w w7) := HB6.out.trans (hb7.mono HB6.out.size)
    clear hb7
    go_wp2
    go_ret
    exact ⟨rfl, HB7.out⟩

end Go.Proofs.Ytehdcmefmkmcnaa.pageSeals
