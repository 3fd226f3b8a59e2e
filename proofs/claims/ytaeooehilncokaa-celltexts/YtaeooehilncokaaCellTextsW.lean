/- The walk: Any bytes of a text: their page, or that they may not be; there and back; what a page of cells tells, made again, is that page. -/
import Derived.Test.YtaeooehilncokaaYr
import Derived.WalkKit
import Derived.ProofKit
import Derived.OpenShut
import Derived.ShutString
import Derived.ChangeOld
import Derived.Below
namespace Go.Proofs.Ytaeooehilncokaa.cellTexts
open Go.ChangeShapes Go.WideShapes Go.ChangeAt Go.RowKit
open Go.Proofs.Ytaeooehilncokaa.Oct
set_option linter.unusedVariables false


set_option maxHeartbeats 4000000 in
set_option maxRecDepth 100000 in
theorem walk (a0 : Option Addr) (cap0 : Nat) (l0 : List Int) (a1 : Option Addr) (cap1 : Nat) (l1 : List Int) (w : World) (w0 : Row w a0 cap0 l0) (n0 : a0 = none → cap0 = 0) (w1 : Row w a1 cap1 l1) (n1 : a1 = none → cap1 = 0) :
    Calls Try.prog 7 #[.slice a0 l0.length cap0, .slice a1 l1.length cap1] w fun e w' => e = .returned (.bool true) ∧ Below w.heap.size w w' := by
  have hm0 := Nat.le_trans w0.2.1 w0.2.2.1
  unfold maxLen at hm0
  have hm1 := Nat.le_trans w1.2.1 w1.2.2.1
  unfold maxLen at hm1
  obtain ⟨E1, hE1⟩ : ∃ E, reE false l1 = E := ⟨_, rfl⟩
  obtain ⟨L1, hL1⟩ : ∃ L, reL false l1 = L := ⟨_, rfl⟩
  obtain ⟨E2, hE2⟩ : ∃ E, reE true l1 = E := ⟨_, rfl⟩
  obtain ⟨L2, hL2⟩ : ∃ L, reL true l1 = L := ⟨_, rfl⟩
  obtain ⟨V2, hV2⟩ : ∃ V, reV true l1 = V := ⟨_, rfl⟩
  obtain ⟨E3, hE3⟩ : ∃ E, teE l1 = E := ⟨_, rfl⟩
  obtain ⟨L3, hL3⟩ : ∃ L, teL l1 = L := ⟨_, rfl⟩
  have WF1 : ∀ q ∈ L1, wfC q := by rw [← hL1]; exact reL_wf w1.1
  have WF2 : ∀ q ∈ L2, wfC q := by rw [← hL2]; exact reL_wf w1.1
  have CP : Hid (∀ w2, Below w.heap.size w w2 → Calls Try.prog 14 #[.slice a1 l1.length cap1] w2 fun e w' => ∃ g c, e = .returned (.tuple #[.slice g L1.length c, .int .i64 E1]) ∧ Hid (RowC w' g c L1) ∧ Hid (Below w2.heap.size w2 w')) := fun w2 hb => by
    refine (pieces_v a1 cap1 _ l1 w2 (w1.below hb) rfl E1 hE1 L1 hL1 _ rfl).mono ?_
    rintro e w' ⟨g, c, rfl, ho, hb'⟩
    exact ⟨g, c, rfl, (ho.row' WF1).2.1, hb'⟩
  have CK : Hid (∀ w2, Below w.heap.size w w2 → Calls Try.prog 18 #[.slice a1 l1.length cap1] w2 fun e w' => ∃ g c, e = .returned (.tuple #[.int .i64 V2, .slice g L2.length c, .int .i64 E2]) ∧ Hid (RowC w' g c L2) ∧ Hid (Below w2.heap.size w2 w')) := fun w2 hb => by
    refine (kids_v a1 cap1 _ l1 w2 (w1.below hb) rfl E2 hE2 L2 hL2 _ rfl V2 hV2).mono ?_
    rintro e w' ⟨g, c, rfl, ho, hb'⟩
    exact ⟨g, c, rfl, (ho.row' WF2).2.1, hb'⟩
  have CT : Hid (∀ w2, Below w.heap.size w w2 → Calls Try.prog 11 #[.slice a1 l1.length cap1] w2 fun e w' => ∃ g c, e = .returned (.tuple #[.slice g L3.length c, .int .i64 E3]) ∧ Hid (Row w' g c L3) ∧ Hid (Below w2.heap.size w2 w')) := fun w2 hb => by
    refine (text_v' a1 cap1 _ l1 w2 (w1.below hb) rfl E3 hE3 L3 hL3 _ rfl).mono ?_
    rintro e w' ⟨g, c, rfl, _, hr, hb'⟩
    exact ⟨g, c, rfl, hr, hb'⟩
  obtain ⟨E, hE⟩ : ∃ E, bytE l0 = E := ⟨_, rfl⟩
  obtain ⟨Z, hZ⟩ : ∃ Z, bytZ l0 = Z := ⟨_, rfl⟩
  obtain ⟨F, hF⟩ : ∃ F, teE Z = F := ⟨_, rfl⟩
  obtain ⟨U, hU⟩ : ∃ U, teL Z = U := ⟨_, rfl⟩
  have BZ : Hid (Bys Z) := by rw [← hZ]; exact bytZ_bys w0.1
  have H0 : Hid (Row w a0 cap0 l0) := w0
  have H1 : Hid (Row w a1 cap1 l1) := w1
  have C1 : Hid (∀ w2, Below w.heap.size w w2 → Calls Try.prog 10 #[.slice a0 l0.length cap0] w2 fun e w' => ∃ g c, e = .returned (.tuple #[.slice g Z.length c, .int .i64 E]) ∧ Hid (Row w' g c Z) ∧ Hid (Below w2.heap.size w2 w')) := fun w2 hb => by
    refine (bytes_v a0 cap0 _ l0 w2 (H0.out.below hb) rfl E hE Z hZ _ rfl).mono ?_
    rintro e w' ⟨g, c, rfl, ho, hb'⟩
    exact ⟨g, c, rfl, (ho.row' BZ.out).2, hb'⟩
  have C2 : Hid (∀ w2, Below w.heap.size w w2 → Calls Try.prog 23 #[.slice a0 l0.length cap0] w2 fun e w' => ∃ g c, e = .returned (.tuple #[.slice g Z.length c, .int .i64 E]) ∧ Hid (Row w' g c Z) ∧ Hid (Below w2.heap.size w2 w')) := fun w2 hb => by
    refine (rbytes_v a0 cap0 _ l0 w2 (H0.out.below hb) n0 rfl E hE Z hZ _ rfl).mono ?_
    rintro e w' ⟨g, c, rfl, ho, hb'⟩
    exact ⟨g, c, rfl, (ho.row' BZ.out).2, hb'⟩
  have C3 : Hid (∀ a c w2, Row w2 a c Z → Calls Try.prog 11 #[.slice a Z.length c] w2 fun e w' => ∃ g c, e = .returned (.tuple #[.slice g U.length c, .int .i64 F]) ∧ Hid (Row w' g c U) ∧ Hid (Below w2.heap.size w2 w')) := fun a c w2 hr => by
    refine (text_v' a c _ Z w2 hr rfl F hF U hU _ rfl).mono ?_
    rintro e w' ⟨g, c, rfl, _, hr', hb'⟩
    exact ⟨g, c, rfl, hr', hb'⟩
  have hEb : (E = 0 ∧ F = 0 ∧ U = l0) ∨ E = 1 := by
    cases hB : bytB l0
    · right; rw [← hE]; unfold bytE; rw [hB]; rfl
    · left
      obtain ⟨t1, t2⟩ := te_byt w0.1 hB
      rw [hZ, hF] at t1
      rw [hZ, hU] at t2
      exact ⟨by rw [← hE]; unfold bytE; rw [hB]; rfl, t1, t2⟩
  have M1 : Hid (E1 = 0 → ∀ w2 g c, RowC w2 g c L1 → Calls Try.prog 9 #[.slice g L1.length c] w2 fun e w' => ∃ g c, e = .returned (.tuple #[.slice g l1.length c, .int .i64 0]) ∧ Hid (Row w' g c l1) ∧ Hid (Below w2.heap.size w2 w')) := fun h0 w2 g c hr => by
    rw [← hE1] at h0
    obtain ⟨y1, y2⟩ := lay_re H1.out.1 h0
    have hv : reV false l1 = 0 := by
      have := (layB_out y1).1
      have q1 : (0 : Int) ≤ reV false l1 := this.1
      have q2 : reV false l1 ≤ 0 := this.2
      omega
    rw [hv, hL1] at y1 y2
    refine (leafMk_v L1 g c _ w2 hr rfl 0 (layZ_yes y1).1 l1 y2 _ rfl).mono ?_
    rintro e w' ⟨g, c, rfl, ho, hb'⟩
    exact ⟨g, c, rfl, (ho.row' H1.out.1).2, hb'⟩
  have M2 : Hid (E2 = 0 → ∀ w2 g c, RowC w2 g c L2 → Calls Try.prog 16 #[.int .i64 V2, .slice g L2.length c] w2 fun e w' => ∃ g c, e = .returned (.tuple #[.slice g l1.length c, .int .i64 0]) ∧ Hid (Row w' g c l1) ∧ Hid (Below w2.heap.size w2 w')) := fun h0 w2 g c hr => by
    rw [← hE2] at h0
    obtain ⟨y1, y2⟩ := lay_re H1.out.1 h0
    rw [hV2, hL2] at y1 y2
    have hv : V2 ≤ 9223372036854775807 := by
      have := (layB_out y1).1.2
      have q2 : V2 ≤ 32 := this
      omega
    refine (innerMk_v V2 hv L2 g c _ w2 hr rfl 0 (layZ_yes y1).1 l1 y2 _ rfl).mono ?_
    rintro e w' ⟨g, c, rfl, ho, hb'⟩
    exact ⟨g, c, rfl, (ho.row' H1.out.1).2, hb'⟩
  have M3 : Hid (E3 = 0 → ∀ w2 g c, Row w2 g c L3 → Calls Try.prog 10 #[.slice g L3.length c] w2 fun e w' => ∃ g c, e = .returned (.tuple #[.slice g l1.length c, .int .i64 0]) ∧ Hid (Row w' g c l1) ∧ Hid (Below w2.heap.size w2 w')) := fun h0 w2 g c hr => by
    rw [← hE3] at h0
    obtain ⟨y1, y2⟩ := byt_te H1.out.1 h0
    rw [hL3] at y1 y2
    refine (bytes_v g c _ L3 w2 hr rfl 0 (by unfold bytE; rw [y1]; rfl) l1 y2 _ rfl).mono ?_
    rintro e w' ⟨g, c, rfl, ho, hb'⟩
    exact ⟨g, c, rfl, (ho.row' H1.out.1).2, hb'⟩
  have SZ : Hid (∀ (g1 g2 : Option Addr) (c1 c2 : Nat) (w2 : World), Row w2 g1 c1 Z → Row w2 g2 c2 Z → Calls Try.prog 13 #[.slice g1 Z.length c1, .slice g2 Z.length c2] w2 fun e w' => e = .returned (.bool true) ∧ Hid (Below w2.heap.size w2 w')) := fun g1 g2 c1 c2 w2 h1 h2 => by
    have := same_any g1 g2 c1 c2 Z Z w2 h1 h2
    rw [same_self] at this
    exact this
  have S0 : Hid (∀ (g1 g2 : Option Addr) (c1 c2 : Nat) (w2 : World), Row w2 g1 c1 l0 → Row w2 g2 c2 l0 → Calls Try.prog 13 #[.slice g1 l0.length c1, .slice g2 l0.length c2] w2 fun e w' => e = .returned (.bool true) ∧ Hid (Below w2.heap.size w2 w')) := fun g1 g2 c1 c2 w2 h1 h2 => by
    have := same_any g1 g2 c1 c2 l0 l0 w2 h1 h2
    rw [same_self] at this
    exact this
  have S1 : Hid (∀ (g1 g2 : Option Addr) (c1 c2 : Nat) (w2 : World), Row w2 g1 c1 l1 → Row w2 g2 c2 l1 → Calls Try.prog 13 #[.slice g1 l1.length c1, .slice g2 l1.length c2] w2 fun e w' => e = .returned (.bool true) ∧ Hid (Below w2.heap.size w2 w')) := fun g1 g2 c1 c2 w2 h1 h2 => by
    have := same_any g1 g2 c1 c2 l1 l1 w2 h1 h2
    rw [same_self] at this
    exact this
  clear hE1 hL1 hE2 hL2 hV2 hE3 hL3 WF1 WF2 w0 n0 w1 n1 hE hZ hF hU
  obtain ⟨N1, hN1⟩ : ∃ N, L1.length = N := ⟨_, rfl⟩
  obtain ⟨N2, hN2⟩ : ∃ N, L2.length = N := ⟨_, rfl⟩
  obtain ⟨N3, hN3⟩ : ∃ N, L3.length = N := ⟨_, rfl⟩
  obtain ⟨N4, hN4⟩ : ∃ N, l0.length = N := ⟨_, rfl⟩
  obtain ⟨N5, hN5⟩ : ∃ N, l1.length = N := ⟨_, rfl⟩
  obtain ⟨N6, hN6⟩ : ∃ N, Z.length = N := ⟨_, rfl⟩
  rw [hN1] at CP M1
  rw [hN2] at CK M2
  rw [hN3] at CT M3
  rw [hN4] at C1 C2 S0 hm0 ⊢
  rw [hN5] at CP CK CT M1 M2 M3 S1 hm1 ⊢
  rw [hN6] at C1 C2 C3 SZ
  have HU : Hid (U = l0 → U.length = N4) := fun h => by rw [h]; exact hN4
  obtain ⟨N7, hN7⟩ : ∃ N, U.length = N := ⟨_, rfl⟩
  rw [hN7] at C3 HU
  clear hN1 hN2 hN3 hN4 hN5 hN6 hN7
  by_cases hb0 : (2000 : Int) < N4
  · clear CP CK CT C1 C2 C3 M1 M2 M3 SZ S0 S1 hEb HU
    go_enter Try.func7, Try.ntmps7
    go_wp2_with fail
    refine (awake_any _).mono ?_
    rintro e wa ⟨rfl, hb⟩
    have HB : Hid (Below w.heap.size w wa) := hb
    clear hb
    go_wp2
    go_ret
    exact ⟨rfl, HB.out⟩
  have hs0 : (N4 : Int) ≤ 2000 := by omega
  by_cases hb1 : (2000 : Int) < N5
  · clear CP CK CT C1 C2 C3 M1 M2 M3 SZ S0 S1 hEb HU hb0
    go_enter Try.func7, Try.ntmps7
    go_wp2_with fail
    refine (awake_any _).mono ?_
    rintro e wa ⟨rfl, hb⟩
    have HB : Hid (Below w.heap.size w wa) := hb
    clear hb
    go_wp2
    go_ret
    exact ⟨rfl, HB.out⟩
  have hs1 : (N5 : Int) ≤ 2000 := by omega
  clear hb0 hb1 hm0 hm1
  go_enter Try.func7, Try.ntmps7
  go_wp2_with fail
  refine (awake_any _).mono ?_
  rintro e wz ⟨rfl, hb⟩
  have HBz : Hid (Below w.heap.size w wz) := hb
  clear hb
  go_wp2_with fail
  refine (C1.out _ HBz.out).mono ?_
  rintro e wa ⟨ga, ca, rfl, HRa, hb⟩
  have HBa : Hid (Below w.heap.size w wa) := HBz.out.trans (hb.out.mono HBz.out.size)
  clear hb
  go_wp2_with fail
  refine (C2.out _ HBa.out).mono ?_
  rintro e wb ⟨gb, cb, rfl, HRb, hb⟩
  have HBb : Hid (Below w.heap.size w wb) := HBa.out.trans (hb.out.mono HBa.out.size)
  have HRab : Hid (Row wb ga ca Z) := HRa.out.below hb.out
  clear hb
  go_wp2_with fail
  refine (C3.out _ _ _ HRab.out).mono ?_
  rintro e wc ⟨gc, cc, rfl, HRc, hb⟩
  have HBc : Hid (Below w.heap.size w wc) := HBb.out.trans (hb.out.mono HBb.out.size)
  have HRac : Hid (Row wc ga ca Z) := HRab.out.below hb.out
  have HRbc : Hid (Row wc gb cb Z) := HRb.out.below hb.out
  clear hb
  go_wp2_with fail
  refine (SZ.out _ _ _ _ _ HRac.out HRbc.out).mono ?_
  rintro e wd ⟨rfl, hb⟩
  have HBd : Hid (Below w.heap.size w wd) := HBc.out.trans (hb.out.mono HBc.out.size)
  have HRcd : Hid (Row wd gc cc U) := HRc.out.below hb.out
  clear hb
  rcases hEb with ⟨e0, e1, e2⟩ | e0
  · have eN := HU.out e2
    subst e0
    subst e1
    subst eN
    have HRU : Hid (Row wd gc cc l0) := by rw [← e2]; exact HRcd.out
    clear HRcd HU e2
    go_wp2_with fail
    refine (S0.out _ _ _ _ _ HRU.out (H0.out.below HBd.out)).mono ?_
    rintro e we ⟨rfl, hb⟩
    have HBe : Hid (Below w.heap.size w we) := HBd.out.trans (hb.out.mono HBd.out.size)
    clear hb
    go_wp2_with fail
    refine (CP.out _ HBe.out).mono ?_
    rintro e wf ⟨gf, cf, rfl, HRf, hb⟩
    have HBf : Hid (Below w.heap.size w wf) := HBe.out.trans (hb.out.mono HBe.out.size)
    clear hb
    by_cases q1 : E1 = 0
    · have M1' : Hid _ := M1.out q1
      subst q1
      go_wp2_with fail
      refine (M1'.out _ _ _ HRf.out).mono ?_
      rintro e wg ⟨gg, cg, rfl, HRg, hb⟩
      have HBg : Hid (Below w.heap.size w wg) := HBf.out.trans (hb.out.mono HBf.out.size)
      clear hb
      go_wp2_with fail
      refine (S1.out _ _ _ _ _ HRg.out (H1.out.below HBg.out)).mono ?_
      rintro e wh ⟨rfl, hb⟩
      have HBh : Hid (Below w.heap.size w wh) := HBg.out.trans (hb.out.mono HBg.out.size)
      clear hb
      go_wp2
      go_ret
      exact ⟨rfl, HBh.out⟩
    have q1b : (E1 == 0) = false := by simpa using q1
    clear q1
    go_wp2_with fail
    refine (CK.out _ HBf.out).mono ?_
    rintro e wi ⟨gi, ci, rfl, HRi, hb⟩
    have HBi : Hid (Below w.heap.size w wi) := HBf.out.trans (hb.out.mono HBf.out.size)
    clear hb
    by_cases q2 : E2 = 0
    · have M2' : Hid _ := M2.out q2
      subst q2
      go_wp2_with fail
      refine (M2'.out _ _ _ HRi.out).mono ?_
      rintro e wg ⟨gg, cg, rfl, HRg, hb⟩
      have HBg : Hid (Below w.heap.size w wg) := HBi.out.trans (hb.out.mono HBi.out.size)
      clear hb
      go_wp2_with fail
      refine (S1.out _ _ _ _ _ HRg.out (H1.out.below HBg.out)).mono ?_
      rintro e wh ⟨rfl, hb⟩
      have HBh : Hid (Below w.heap.size w wh) := HBg.out.trans (hb.out.mono HBg.out.size)
      clear hb
      go_wp2
      go_ret
      exact ⟨rfl, HBh.out⟩
    have q2b : (E2 == 0) = false := by simpa using q2
    clear q2
    go_wp2_with fail
    refine (CT.out _ HBi.out).mono ?_
    rintro e wj ⟨gj, cj, rfl, HRj, hb⟩
    have HBj : Hid (Below w.heap.size w wj) := HBi.out.trans (hb.out.mono HBi.out.size)
    clear hb
    by_cases q3 : E3 = 0
    · have M3' : Hid _ := M3.out q3
      subst q3
      go_wp2_with fail
      refine (M3'.out _ _ _ HRj.out).mono ?_
      rintro e wg ⟨gg, cg, rfl, HRg, hb⟩
      have HBg : Hid (Below w.heap.size w wg) := HBj.out.trans (hb.out.mono HBj.out.size)
      clear hb
      go_wp2_with fail
      refine (S1.out _ _ _ _ _ HRg.out (H1.out.below HBg.out)).mono ?_
      rintro e wh ⟨rfl, hb⟩
      have HBh : Hid (Below w.heap.size w wh) := HBg.out.trans (hb.out.mono HBg.out.size)
      clear hb
      go_wp2
      go_ret
      exact ⟨rfl, HBh.out⟩
    have q3b : (E3 == 0) = false := by simpa using q3
    clear q3
    go_wp2
    go_ret
    exact ⟨rfl, HBj.out⟩
  · subst e0
    clear HU
    go_wp2_with fail
    refine (CP.out _ HBd.out).mono ?_
    rintro e wf ⟨gf, cf, rfl, HRf, hb⟩
    have HBf : Hid (Below w.heap.size w wf) := HBd.out.trans (hb.out.mono HBd.out.size)
    clear hb
    by_cases q1 : E1 = 0
    · have M1' : Hid _ := M1.out q1
      subst q1
      go_wp2_with fail
      refine (M1'.out _ _ _ HRf.out).mono ?_
      rintro e wg ⟨gg, cg, rfl, HRg, hb⟩
      have HBg : Hid (Below w.heap.size w wg) := HBf.out.trans (hb.out.mono HBf.out.size)
      clear hb
      go_wp2_with fail
      refine (S1.out _ _ _ _ _ HRg.out (H1.out.below HBg.out)).mono ?_
      rintro e wh ⟨rfl, hb⟩
      have HBh : Hid (Below w.heap.size w wh) := HBg.out.trans (hb.out.mono HBg.out.size)
      clear hb
      go_wp2
      go_ret
      exact ⟨rfl, HBh.out⟩
    have q1b : (E1 == 0) = false := by simpa using q1
    clear q1
    go_wp2_with fail
    refine (CK.out _ HBf.out).mono ?_
    rintro e wi ⟨gi, ci, rfl, HRi, hb⟩
    have HBi : Hid (Below w.heap.size w wi) := HBf.out.trans (hb.out.mono HBf.out.size)
    clear hb
    by_cases q2 : E2 = 0
    · have M2' : Hid _ := M2.out q2
      subst q2
      go_wp2_with fail
      refine (M2'.out _ _ _ HRi.out).mono ?_
      rintro e wg ⟨gg, cg, rfl, HRg, hb⟩
      have HBg : Hid (Below w.heap.size w wg) := HBi.out.trans (hb.out.mono HBi.out.size)
      clear hb
      go_wp2_with fail
      refine (S1.out _ _ _ _ _ HRg.out (H1.out.below HBg.out)).mono ?_
      rintro e wh ⟨rfl, hb⟩
      have HBh : Hid (Below w.heap.size w wh) := HBg.out.trans (hb.out.mono HBg.out.size)
      clear hb
      go_wp2
      go_ret
      exact ⟨rfl, HBh.out⟩
    have q2b : (E2 == 0) = false := by simpa using q2
    clear q2
    go_wp2_with fail
    refine (CT.out _ HBi.out).mono ?_
    rintro e wj ⟨gj, cj, rfl, HRj, hb⟩
    have HBj : Hid (Below w.heap.size w wj) := HBi.out.trans (hb.out.mono HBi.out.size)
    clear hb
    by_cases q3 : E3 = 0
    · have M3' : Hid _ := M3.out q3
      subst q3
      go_wp2_with fail
      refine (M3'.out _ _ _ HRj.out).mono ?_
      rintro e wg ⟨gg, cg, rfl, HRg, hb⟩
      have HBg : Hid (Below w.heap.size w wg) := HBj.out.trans (hb.out.mono HBj.out.size)
      clear hb
      go_wp2_with fail
      refine (S1.out _ _ _ _ _ HRg.out (H1.out.below HBg.out)).mono ?_
      rintro e wh ⟨rfl, hb⟩
      have HBh : Hid (Below w.heap.size w wh) := HBg.out.trans (hb.out.mono HBg.out.size)
      clear hb
      go_wp2
      go_ret
      exact ⟨rfl, HBh.out⟩
    have q3b : (E3 == 0) = false := by simpa using q3
    clear q3
    go_wp2
    go_ret
    exact ⟨rfl, HBj.out⟩

end Go.Proofs.Ytaeooehilncokaa.cellTexts
