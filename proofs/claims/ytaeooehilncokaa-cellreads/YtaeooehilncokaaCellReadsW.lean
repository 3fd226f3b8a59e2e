/- The walk: Any page: the pieces, the kids, the text that it has, or what is wrong. -/
import Derived.Test.YtaeooehilncokaaYr
import Derived.WalkKit
import Derived.ProofKit
import Derived.OpenShut
import Derived.ShutString
import Derived.ChangeOld
import Derived.Below
namespace Go.Proofs.Ytaeooehilncokaa.cellReads
open Go.ChangeShapes Go.WideShapes Go.ChangeAt Go.RowKit
open Go.Proofs.Ytaeooehilncokaa.Oct
set_option linter.unusedVariables false


set_option maxHeartbeats 4000000 in
set_option maxRecDepth 100000 in
theorem walk (a0 : Option Addr) (cap0 : Nat) (l0 : List Int) (w : World) (w0 : Row w a0 cap0 l0) (n0 : a0 = none → cap0 = 0) :
    Calls Try.prog 6 #[.slice a0 l0.length cap0] w fun e w' => e = .returned (.bool true) ∧ Below w.heap.size w w' := by
  have hm := Nat.le_trans w0.2.1 w0.2.2.1
  unfold maxLen at hm
  obtain ⟨E1, hE1⟩ : ∃ E, reE false l0 = E := ⟨_, rfl⟩
  obtain ⟨L1, hL1⟩ : ∃ L, reL false l0 = L := ⟨_, rfl⟩
  obtain ⟨E2, hE2⟩ : ∃ E, reE true l0 = E := ⟨_, rfl⟩
  obtain ⟨L2, hL2⟩ : ∃ L, reL true l0 = L := ⟨_, rfl⟩
  obtain ⟨V2, hV2⟩ : ∃ V, reV true l0 = V := ⟨_, rfl⟩
  obtain ⟨E3, hE3⟩ : ∃ E, teE l0 = E := ⟨_, rfl⟩
  obtain ⟨L3, hL3⟩ : ∃ L, teL l0 = L := ⟨_, rfl⟩
  have WF1 : ∀ q ∈ L1, wfC q := by rw [← hL1]; exact reL_wf w0.1
  have WF2 : ∀ q ∈ L2, wfC q := by rw [← hL2]; exact reL_wf w0.1
  have CP : Hid (∀ w2, Below w.heap.size w w2 → Calls Try.prog 14 #[.slice a0 l0.length cap0] w2 fun e w' => ∃ g c, e = .returned (.tuple #[.slice g L1.length c, .int .i64 E1]) ∧ Hid (RowC w' g c L1) ∧ Hid (Below w2.heap.size w2 w')) := fun w2 hb => by
    refine (pieces_v a0 cap0 _ l0 w2 (w0.below hb) rfl E1 hE1 L1 hL1 _ rfl).mono ?_
    rintro e w' ⟨g, c, rfl, ho, hb'⟩
    exact ⟨g, c, rfl, (ho.row' WF1).2.1, hb'⟩
  have CK : Hid (∀ w2, Below w.heap.size w w2 → Calls Try.prog 18 #[.slice a0 l0.length cap0] w2 fun e w' => ∃ g c, e = .returned (.tuple #[.int .i64 V2, .slice g L2.length c, .int .i64 E2]) ∧ Hid (RowC w' g c L2) ∧ Hid (Below w2.heap.size w2 w')) := fun w2 hb => by
    refine (kids_v a0 cap0 _ l0 w2 (w0.below hb) rfl E2 hE2 L2 hL2 _ rfl V2 hV2).mono ?_
    rintro e w' ⟨g, c, rfl, ho, hb'⟩
    exact ⟨g, c, rfl, (ho.row' WF2).2.1, hb'⟩
  have CT : Hid (∀ w2, Below w.heap.size w w2 → Calls Try.prog 11 #[.slice a0 l0.length cap0] w2 fun e w' => ∃ g c, e = .returned (.tuple #[.slice g L3.length c, .int .i64 E3]) ∧ Hid (Row w' g c L3) ∧ Hid (Below w2.heap.size w2 w')) := fun w2 hb => by
    refine (text_v' a0 cap0 _ l0 w2 (w0.below hb) rfl E3 hE3 L3 hL3 _ rfl).mono ?_
    rintro e w' ⟨g, c, rfl, _, hr, hb'⟩
    exact ⟨g, c, rfl, hr, hb'⟩
  have RP : Hid (∀ w2, Below w.heap.size w w2 → Calls Try.prog 20 #[.slice a0 l0.length cap0] w2 fun e w' => ∃ g c, e = .returned (.tuple #[.slice g L1.length c, .int .i64 E1]) ∧ Hid (RowC w' g c L1) ∧ Hid (Below w2.heap.size w2 w')) := fun w2 hb => by
    refine (rpieces_v a0 cap0 _ l0 w2 (w0.below hb) rfl E1 hE1 L1 hL1 _ rfl).mono ?_
    rintro e w' ⟨g, c, rfl, ho, hb'⟩
    exact ⟨g, c, rfl, (ho.row' WF1).2.1, hb'⟩
  have RK : Hid (∀ w2, Below w.heap.size w w2 → Calls Try.prog 21 #[.slice a0 l0.length cap0] w2 fun e w' => ∃ g c, e = .returned (.tuple #[.int .i64 V2, .slice g L2.length c, .int .i64 E2]) ∧ Hid (RowC w' g c L2) ∧ Hid (Below w2.heap.size w2 w')) := fun w2 hb => by
    refine (rkids_v a0 cap0 _ l0 w2 (w0.below hb) rfl E2 hE2 L2 hL2 _ rfl V2 hV2).mono ?_
    rintro e w' ⟨g, c, rfl, ho, hb'⟩
    exact ⟨g, c, rfl, (ho.row' WF2).2.1, hb'⟩
  have RT : Hid (∀ w2, Below w.heap.size w w2 → Calls Try.prog 22 #[.slice a0 l0.length cap0] w2 fun e w' => ∃ g c, e = .returned (.tuple #[.slice g L3.length c, .int .i64 E3]) ∧ Hid (Row w' g c L3) ∧ Hid (Below w2.heap.size w2 w')) := fun w2 hb => by
    refine (rtext_v a0 cap0 _ l0 w2 (w0.below hb) rfl E3 hE3 L3 hL3 _ rfl).mono ?_
    rintro e w' ⟨g, c, rfl, _, hr, hb'⟩
    exact ⟨g, c, rfl, hr, hb'⟩
  have QP : Hid (∀ (g1 g2 : Option Addr) (c1 c2 : Nat) (w2 : World), RowC w2 g1 c1 L1 → RowC w2 g2 c2 L1 → Calls Try.prog 15 #[.slice g1 L1.length c1, .slice g2 L1.length c2] w2 fun e w' => e = .returned (.bool true) ∧ Hid (Below w2.heap.size w2 w')) := fun g1 g2 c1 c2 w2 h1 h2 => pieceSame_v g1 g2 c1 c2 _ L1 w2 h1 h2 rfl
  have QK : Hid (∀ (g1 g2 : Option Addr) (c1 c2 : Nat) (w2 : World), RowC w2 g1 c1 L2 → RowC w2 g2 c2 L2 → Calls Try.prog 19 #[.slice g1 L2.length c1, .slice g2 L2.length c2] w2 fun e w' => e = .returned (.bool true) ∧ Hid (Below w2.heap.size w2 w')) := fun g1 g2 c1 c2 w2 h1 h2 => kidSame_v g1 g2 c1 c2 _ L2 w2 h1 h2 rfl
  have QT : Hid (∀ (g1 g2 : Option Addr) (c1 c2 : Nat) (w2 : World), Row w2 g1 c1 L3 → Row w2 g2 c2 L3 → Calls Try.prog 13 #[.slice g1 L3.length c1, .slice g2 L3.length c2] w2 fun e w' => e = .returned (.bool true) ∧ Hid (Below w2.heap.size w2 w')) := fun g1 g2 c1 c2 w2 h1 h2 => by
    have := same_any g1 g2 c1 c2 L3 L3 w2 h1 h2
    rw [same_self] at this
    exact this
  clear hE1 hL1 hE2 hL2 hV2 hE3 hL3 WF1 WF2 w0 n0
  obtain ⟨N1, hN1⟩ : ∃ N, L1.length = N := ⟨_, rfl⟩
  obtain ⟨N2, hN2⟩ : ∃ N, L2.length = N := ⟨_, rfl⟩
  obtain ⟨N3, hN3⟩ : ∃ N, L3.length = N := ⟨_, rfl⟩
  obtain ⟨N0, hN0⟩ : ∃ N, l0.length = N := ⟨_, rfl⟩
  rw [hN1] at CP RP QP
  rw [hN2] at CK RK QK
  rw [hN3] at CT RT QT
  rw [hN0] at CP CK CT RP RK RT hm ⊢
  clear hN1 hN2 hN3 hN0
  by_cases hbig : (2000 : Int) < N0
  · clear CP CK CT RP RK RT QP QK QT
    go_enter Try.func6, Try.ntmps6
    go_wp2_with fail
    refine (awake_any _).mono ?_
    rintro e wa ⟨rfl, hb⟩
    have HB : Hid (Below w.heap.size w wa) := hb
    clear hb
    go_wp2
    go_ret
    exact ⟨rfl, HB.out⟩
  · have hsm : (N0 : Int) ≤ 2000 := by omega
    clear hbig hm
    go_enter Try.func6, Try.ntmps6
    go_wp2_with fail
    refine (awake_any _).mono ?_
    rintro e wz ⟨rfl, hb⟩
    have HBz : Hid (Below w.heap.size w wz) := hb
    clear hb
    go_wp2_with fail
    refine (CP.out _ HBz.out).mono ?_
    rintro e wa ⟨ga, ca, rfl, HRaa, hb⟩
    have HBa : Hid (Below w.heap.size w wa) := HBz.out.trans (hb.out.mono HBz.out.size)
    clear hb
    go_wp2_with fail
    refine (RP.out _ HBa.out).mono ?_
    rintro e wb ⟨gb, cb, rfl, HRbb, hb⟩
    have HBb : Hid (Below w.heap.size w wb) := HBa.out.trans (hb.out.mono HBa.out.size)
    have HRab : Hid (RowC wb ga ca L1) := HRaa.out.below hb.out
    clear hb HRaa
    go_wp2_with fail
    refine (CK.out _ HBb.out).mono ?_
    rintro e wc ⟨gc, cc, rfl, HRcc, hb⟩
    have HBc : Hid (Below w.heap.size w wc) := HBb.out.trans (hb.out.mono HBb.out.size)
    have HRac : Hid (RowC wc ga ca L1) := HRab.out.below hb.out
    have HRbc : Hid (RowC wc gb cb L1) := HRbb.out.below hb.out
    clear hb HRab HRbb
    go_wp2_with fail
    refine (RK.out _ HBc.out).mono ?_
    rintro e wd ⟨gd, cd, rfl, HRdd, hb⟩
    have HBd : Hid (Below w.heap.size w wd) := HBc.out.trans (hb.out.mono HBc.out.size)
    have HRad : Hid (RowC wd ga ca L1) := HRac.out.below hb.out
    have HRbd : Hid (RowC wd gb cb L1) := HRbc.out.below hb.out
    have HRcd : Hid (RowC wd gc cc L2) := HRcc.out.below hb.out
    clear hb HRac HRbc HRcc
    go_wp2_with fail
    refine (CT.out _ HBd.out).mono ?_
    rintro e we ⟨ge, ce, rfl, HRee, hb⟩
    have HBe : Hid (Below w.heap.size w we) := HBd.out.trans (hb.out.mono HBd.out.size)
    have HRae : Hid (RowC we ga ca L1) := HRad.out.below hb.out
    have HRbe : Hid (RowC we gb cb L1) := HRbd.out.below hb.out
    have HRce : Hid (RowC we gc cc L2) := HRcd.out.below hb.out
    have HRde : Hid (RowC we gd cd L2) := HRdd.out.below hb.out
    clear hb HRad HRbd HRcd HRdd
    go_wp2_with fail
    refine (RT.out _ HBe.out).mono ?_
    rintro e wf ⟨gf, cf, rfl, HRff, hb⟩
    have HBf : Hid (Below w.heap.size w wf) := HBe.out.trans (hb.out.mono HBe.out.size)
    have HRaf : Hid (RowC wf ga ca L1) := HRae.out.below hb.out
    have HRbf : Hid (RowC wf gb cb L1) := HRbe.out.below hb.out
    have HRcf : Hid (RowC wf gc cc L2) := HRce.out.below hb.out
    have HRdf : Hid (RowC wf gd cd L2) := HRde.out.below hb.out
    have HRef : Hid (Row wf ge ce L3) := HRee.out.below hb.out
    clear hb HRae HRbe HRce HRde HRee
    go_wp2_with fail
    refine (QP.out _ _ _ _ _ HRaf.out HRbf.out).mono ?_
    rintro e wg ⟨rfl, hb⟩
    have HBg : Hid (Below w.heap.size w wg) := HBf.out.trans (hb.out.mono HBf.out.size)
    have HRag : Hid (RowC wg ga ca L1) := HRaf.out.below hb.out
    have HRbg : Hid (RowC wg gb cb L1) := HRbf.out.below hb.out
    have HRcg : Hid (RowC wg gc cc L2) := HRcf.out.below hb.out
    have HRdg : Hid (RowC wg gd cd L2) := HRdf.out.below hb.out
    have HReg : Hid (Row wg ge ce L3) := HRef.out.below hb.out
    have HRfg : Hid (Row wg gf cf L3) := HRff.out.below hb.out
    clear hb HRaf HRbf HRcf HRdf HRef HRff
    go_wp2_with fail
    refine (QK.out _ _ _ _ _ HRcg.out HRdg.out).mono ?_
    rintro e wh ⟨rfl, hb⟩
    have HBh : Hid (Below w.heap.size w wh) := HBg.out.trans (hb.out.mono HBg.out.size)
    have HRah : Hid (RowC wh ga ca L1) := HRag.out.below hb.out
    have HRbh : Hid (RowC wh gb cb L1) := HRbg.out.below hb.out
    have HRch : Hid (RowC wh gc cc L2) := HRcg.out.below hb.out
    have HRdh : Hid (RowC wh gd cd L2) := HRdg.out.below hb.out
    have HReh : Hid (Row wh ge ce L3) := HReg.out.below hb.out
    have HRfh : Hid (Row wh gf cf L3) := HRfg.out.below hb.out
    clear hb HRag HRbg HRcg HRdg HReg HRfg
    go_wp2_with fail
    refine (QT.out _ _ _ _ _ HReh.out HRfh.out).mono ?_
    rintro e wi ⟨rfl, hb⟩
    have HBi : Hid (Below w.heap.size w wi) := HBh.out.trans (hb.out.mono HBh.out.size)
    have HRai : Hid (RowC wi ga ca L1) := HRah.out.below hb.out
    have HRbi : Hid (RowC wi gb cb L1) := HRbh.out.below hb.out
    have HRci : Hid (RowC wi gc cc L2) := HRch.out.below hb.out
    have HRdi : Hid (RowC wi gd cd L2) := HRdh.out.below hb.out
    have HRei : Hid (Row wi ge ce L3) := HReh.out.below hb.out
    have HRfi : Hid (Row wi gf cf L3) := HRfh.out.below hb.out
    clear hb HRah HRbh HRch HRdh HReh HRfh
    go_wp2
    go_ret
    exact ⟨rfl, HBi.out⟩

end Go.Proofs.Ytaeooehilncokaa.cellReads
