/- The walk: Unlike bytes have unlike pages; one bit that is turned is found. -/
import Derived.Test.YtbamdcjhcmogbaaKi
import Derived.WalkKit
import Derived.ProofKit
import Derived.OpenShut
import Derived.ShutString
import Derived.ChangeOld
import Derived.Below
namespace Go.Proofs.Ytbamdcjhcmogbaa.chainOne
open Go.ChangeShapes Go.WideShapes Go.ChangeAt Go.RowKit
open Go.Proofs.Ytbamdcjhcmogbaa.Oct
set_option linter.unusedVariables false


set_option maxHeartbeats 4000000 in
set_option maxRecDepth 100000 in
theorem walk (X : ChC) (a0 : Option Addr) (cap0 : Nat) (l0 : List Int) (a1 : Option Addr) (cap1 : Nat) (l1 : List Int) (a2 : Int) (w : World) (w0 : Row w a0 cap0 l0) (n0 : a0 = none → cap0 = 0) (w1 : Row w a1 cap1 l1) (n1 : a1 = none → cap1 = 0) (w2 : -9223372036854775808 ≤ a2 ∧ a2 ≤ 9223372036854775807) :
    Calls Try.prog 7 #[.slice a0 l0.length cap0, .slice a1 l1.length cap1, .int .i64 a2] w fun e w' => e = .returned (.bool true) ∧ Below w.heap.size w w' := by
  have HR0 : Hid (Row w a0 cap0 l0) := w0
  have HN0 : Hid (a0 = none → cap0 = 0) := n0
  have HR1 : Hid (Row w a1 cap1 l1) := w1
  have HN1 : Hid (a1 = none → cap1 = 0) := n1
  have HWB : Hid (-9223372036854775808 ≤ a2 ∧ a2 ≤ 9223372036854775807) := w2
  clear w0 n0 w1 n1 w2
  go_enter Try.func7, Try.ntmps7
  go_wp2_with fail
  refine (awake11 X w).mono ?_
  rintro x w2 ⟨rfl, hb1⟩
  have HB1 : Hid (Below w.heap.size w w2) := hb1
  have hlen0 : l0.length ≤ maxLen := Nat.le_trans HR0.out.2.1 HR0.out.2.2.1
  have hlen1 : l1.length ≤ maxLen := Nat.le_trans HR1.out.2.1 HR1.out.2.2.1
  unfold maxLen at hlen0 hlen1
  clear hb1
  by_cases z0 : l0.length = 0
  · rw [z0]
    go_wp2
    go_ret
    exact ⟨rfl, HB1.out⟩
  have z0b : ((l0.length : Int) == 0) = false := by rw [beq_eq_false_iff_ne]; omega
  by_cases z1 : l1.length = 0
  · rw [z1]
    go_wp2
    go_ret
    exact ⟨rfl, HB1.out⟩
  have z1b : ((l1.length : Int) == 0) = false := by rw [beq_eq_false_iff_ne]; omega
  by_cases hbig0 : 2000 < l0.length
  · go_wp2
    go_ret
    exact ⟨rfl, HB1.out⟩
  by_cases hbig1 : 2000 < l1.length
  · go_wp2
    go_ret
    exact ⟨rfl, HB1.out⟩
  clear hlen0 hlen1
  obtain ⟨M, hM⟩ : ∃ M, max l0.length l1.length = M := ⟨_, rfl⟩
  obtain ⟨N, hN⟩ : ∃ N, ned M = N := ⟨_, rfl⟩
  obtain ⟨N0, hN0⟩ : ∃ N0, ned l0.length = N0 := ⟨_, rfl⟩
  obtain ⟨N1, hN1⟩ : ∃ N1, ned l1.length = N1 := ⟨_, rfl⟩
  have hN9 : N ≤ 9 := by rw [← hN]; unfold ned; omega
  have hN0N : N0 ≤ N := by rw [← hN, ← hN0]; unfold ned; omega
  have hN1N : N1 ≤ N := by rw [← hN, ← hN1]; unfold ned; omega
  have hN0p : 1 ≤ N0 := by rw [← hN0]; unfold ned; omega
  have HNED : Hid (nedI M = N ∧ nedI l0.length = N0 ∧ nedI l1.length = N1) := by
    show _ ∧ _ ∧ _
    rw [nedI_nat, nedI_nat, nedI_nat, hN, hN0, hN1]
    exact ⟨rfl, rfl, rfl⟩
  have HNN : Hid (ned l0.length = N0 ∧ ned l1.length = N1) := ⟨hN0, hN1⟩
  have hM2 : M ≤ 2000 := by omega
  have HMM : Hid (max l0.length l1.length = M) := hM
  clear hN hN0 hN1 hM
  go_wp2_with fail
  go_loopw [7, 8] (fun v i wr => ∃ k : Nat, k ≤ N ∧ i = .int .i64 k ∧ Hid (OwnI w.heap.size wr v (pgF 5 1 k) ∧ Below w.heap.size w wr)) (fun _ i _ => N - (intOf i).toNat)
  case atStart => exact ⟨0, Nat.zero_le _, rfl, (by show _ ∧ _; exact ⟨World.ownsRow_nil _ _ _ _, HB1.out⟩)⟩
  case round =>
    clear HB1
    obtain ⟨k, hk, rfl, HI⟩ := hrel
    by_cases hle : l0.length < l1.length
    · have hMM : M = l1.length := by have := HMM.out; omega
      have hle2 : (l0.length : Int) < (l1.length : Int) := by omega
      have hnd := X.need l1.length wr (by omega)
      rw [← hMM, HNED.out.1] at hnd
      rw [hMM] at hnd
      clear hMM
      go_wp2_with fail
      refine hnd.mono ?_
      clear hnd
      rintro x w3 ⟨rfl, hb3⟩
      have HB3 : Hid (Below w.heap.size w w3) := HI.out.2.trans (hb3.mono HI.out.2.size)
      have HO3 : Hid (OwnI w.heap.size w3 u7 (pgF 5 1 k)) := own_below HI.out.1 hb3
      clear hb3 HI
      by_cases hlt : k < N
      · obtain ⟨z, hz⟩ : ∃ z, 5 + k * 1 = z := ⟨_, rfl⟩
        have hz' : 5 + (k : Int) = (z : Int) := by omega
        have HZ : Hid (5 + k * 1 = z) := hz
        have hs3 := HB3.out.size
        clear hz
        go_wp2_with (at_builtin; refine appI w3 rfl _ _ rfl w.heap.size u7 (pgF 5 1 k) (z : Int) rfl HO3.out rfl (by rw [pgF_len]; omega) hs3 ?_; intro v4 w4 ho4 hb4; have HZ4 : Hid (OwnI w.heap.size w4 v4 (pgF 5 1 (k + 1)) ∧ Below w.heap.size w w4) := (by show _ ∧ _; rw [pgF_succ, HZ.out]; exact ⟨ho4, HB3.out.trans hb4⟩); clear ho4 hb4)
        go_roundw
        case rel => exact ⟨k + 1, by omega, by go_num, HZ4⟩
        case measure => simp [intOf]; omega
      · have hkN : k = N := by omega
        subst hkN
        obtain ⟨pa, pc, hv7, hrI⟩ := HO3.out.row2
        subst hv7
        rw [pgF_len] at *
        have hpc1 := hrI.1
        have hpc2 := hrI.2.1
        rw [pgF_len] at hpc1
        unfold maxLen at hpc2
        have HRI : Hid (RowI w3 pa pc (pgF 5 1 k)) := hrI
        have hsa : ∃ pb, pa = some ⟨pb, 0, none⟩ := by
          rcases HO3.out.2 with ⟨_, e⟩ | ⟨g, cap, cur, e, _⟩
          · rw [pgF_len] at e; omega
          · simp only [Value.slice.injEq] at e
            exact ⟨g, e.1⟩
        obtain ⟨pb, rfl⟩ := hsa
        have hnd0 := X.need l0.length w3 (by omega)
        rw [HNED.out.2.1] at hnd0
        clear hrI HO3
        go_wp2_with fail
        refine hnd0.mono ?_
        clear hnd0
        rintro x w4 ⟨rfl, hb4⟩
        have HB4 : Hid (Below w.heap.size w w4) := HB3.out.trans (hb4.mono HB3.out.size)
        have HRI4 : Hid (RowI w4 (some ⟨pb, 0, none⟩) pc (pgF 5 1 k)) := HRI.out.below hb4
        have HOK0 : Hid (CtOk (pgF 5 1 N0)) := pgF_ok (by omega) (by omega) (by omega)
        have HE0 : Hid (ctE l0 (pgF 5 1 N0) = 0) := ctE_ok (by rw [pgF_len]; exact HNN.out.1.symm) HOK0.out (by omega)
        have HE1 : Hid (ctE l1 (pgF 5 1 N1) = 0) := ctE_ok (by rw [pgF_len]; exact HNN.out.2.symm) (pgF_ok (by omega) (by omega) (by omega)) (by omega)
        have hr0 := HRI4.out.take' N0 (by rw [pgF_len]; exact hN0N)
        rw [pgF_take _ _ _ _ hN0N] at hr0
        have hc0 := X.cut a0 cap0 l0 (some ⟨pb, 0, none⟩) pc (pgF 5 1 N0) w4 (HR0.out.below HB4.out) HN0.out hr0 (pgF_wf (by omega)) (by omega) (by rw [pgF_len]; omega)
        rw [pgF_len] at hc0
        clear hb4 hr0 HRI HB3
        go_wp2_with fail
        refine hc0.mono ?_
        clear hc0
        rintro x w5 ⟨v5, rfl, hp5, hb5⟩
        rw [HE0.out]
        rw [show ctZ l0 (pgF 5 1 N0) = ctL l0 (pgF 5 1 N0) from if_pos HE0.out] at hp5
        have HB5 : Hid (Below w.heap.size w w5) := HB4.out.trans (hb5.mono HB4.out.size)
        have HRI5 : Hid (RowI w5 (some ⟨pb, 0, none⟩) pc (pgF 5 1 k)) := HRI4.out.below hb5
        have HP5 : Hid (PgL w4.heap.size w5 v5 (ctL l0 (pgF 5 1 N0))) := hp5
        have hnd1 := X.need l1.length w5 (by omega)
        rw [HNED.out.2.2] at hnd1
        clear hp5 hb5
        go_wp2_with fail
        refine hnd1.mono ?_
        clear hnd1
        rintro x w6 ⟨rfl, hb6⟩
        have HB6 : Hid (Below w.heap.size w w6) := HB5.out.trans (hb6.mono HB5.out.size)
        have HRI6 : Hid (RowI w6 (some ⟨pb, 0, none⟩) pc (pgF 5 1 k)) := HRI5.out.below hb6
        have HP6 : Hid (PgL w4.heap.size w6 v5 (ctL l0 (pgF 5 1 N0))) := HP5.out.below hb6
        have hr1 := HRI6.out.take' N1 (by rw [pgF_len]; exact hN1N)
        rw [pgF_take _ _ _ _ hN1N] at hr1
        have hc1 := X.cut a1 cap1 l1 (some ⟨pb, 0, none⟩) pc (pgF 5 1 N1) w6 (HR1.out.below HB6.out) HN1.out hr1 (pgF_wf (by omega)) (by omega) (by rw [pgF_len]; omega)
        rw [pgF_len] at hc1
        clear hb6 hr1
        go_wp2_with fail
        refine hc1.mono ?_
        clear hc1
        rintro x w7 ⟨v7, rfl, hp7, hb7⟩
        rw [HE1.out]
        rw [show ctZ l1 (pgF 5 1 N1) = ctL l1 (pgF 5 1 N1) from if_pos HE1.out] at hp7
        have HB7 : Hid (Below w.heap.size w w7) := HB6.out.trans (hb7.mono HB6.out.size)
        have HP7 : Hid (PgL w4.heap.size w7 v5 (ctL l0 (pgF 5 1 N0))) := HP6.out.below hb7
        have hpg := pages_any HP7.out hp7 (ctL_bys HR0.out.1) (ctL_bys HR1.out.1)
        have hcs := cut_same HR0.out.1 HR1.out.1 5 1 (by rw [HNN.out.1]; exact HOK0.out)
        rw [HNN.out.1, HNN.out.2] at hcs
        rw [hcs] at hpg
        obtain ⟨sb, hsb⟩ : ∃ sb, sameB l0 l1 = sb := ⟨_, rfl⟩
        have HSB : Hid (sameB l0 l1 = sb) := hsb
        rw [hsb] at hpg
        obtain ⟨xa, xc, hv5, hx1, hx2⟩ := HP7.out.slice
        rw [ctL_len, pgF_len] at hx1 hv5
        subst hv5
        unfold maxLen at hx2
        clear hp7 hb7 hcs hsb
        obtain ⟨t, ht⟩ : ∃ t, a2.tmod 2048 = t := ⟨_, rfl⟩
        have t1 : -2047 ≤ t := by have := Int.lt_tmod_of_pos a2 (show (0 : Int) < 2048 by omega); omega
        have t2 : t ≤ 2047 := by have := Int.tmod_lt_of_pos a2 (show (0 : Int) < 2048 by omega); omega
        obtain ⟨sn, hsn⟩ := Int.eq_ofNat_of_zero_le (show 0 ≤ t + 2048 by omega)
        obtain ⟨r, hr⟩ : ∃ r, sn % 2048 = r := ⟨_, rfl⟩
        have hr1 : (sn : Int) % 2048 = (r : Int) := by omega
        have hr2 : (sn : Int).tmod 2048 = (r : Int) := by rw [Int.tmod_eq_emod_of_nonneg (by omega)]; exact hr1
        have hr3 : r < 2048 := by omega
        obtain ⟨j, hj⟩ : ∃ j, r / 8 = j := ⟨_, rfl⟩
        obtain ⟨u, hu⟩ : ∃ u, r % 8 = u := ⟨_, rfl⟩
        have hj1 : (r : Int) / 8 = (j : Int) := by omega
        have hu1 : (r : Int) % 8 = (u : Int) := by omega
        have hj2 : j < 256 := by omega
        have hu2 : u < 8 := by omega
        clear hj hu hr
        go_wp2_with (first | (go_at_call 12; refine hpg.mono ?_; clear hpg; rintro e w8 ⟨rfl, hb8⟩; have HB8 : Hid (Below w.heap.size w w8) := HB7.out.trans (hb8.mono HB7.out.size); have HP8 : Hid (PgL w4.heap.size w8 (.slice xa N0 xc) (ctL l0 (pgF 5 1 N0))) := HP7.out.below hb8; clear hb8) | (go_at_call 16; have hsm := same_any _ _ _ _ l0 l1 w8 (HR0.out.below HB8.out) (HR1.out.below HB8.out); rw [HSB.out] at hsm; refine hsm.mono ?_; clear hsm; rintro e w9 ⟨rfl, hb9⟩; have HB9 : Hid (Below w.heap.size w w9) := HB8.out.trans (hb9.mono HB8.out.size); have HP9 : Hid (PgL w4.heap.size w9 (.slice xa N0 xc) (ctL l0 (pgF 5 1 N0))) := HP8.out.below hb9; obtain ⟨K, hK⟩ : ∃ K, N0 = K + 1 := ⟨N0 - 1, (by omega)⟩; subst hK; obtain ⟨q, cp, g, c, eq, -, -, d0, o0, hgq⟩ := HP9.out.at K (by rw [ctL_len, pgF_len]; omega); simp only [Value.slice.injEq] at eq; obtain ⟨rfl, -, rfl⟩ := eq; rw [ctL_at (by rw [pgF_len]; omega), cpg_256] at d0 o0; have HO9 : Hid (Own w4.heap.size w9 (.slice (some ⟨g, 0, none⟩) 256 c) (sealL (cpg l0 (pgF 5 1 (K + 1)) K))) := o0; have hK1 : ((K + 1 : Nat) : Int) - 1 = (K : Int) := (by omega); have hrw := (o0.row' (seal_bys (cpg_bys HR0.out.1 K))).2; have hc1 := hrw.2.1; have hc2 := hrw.2.2.1; rw [cpg_256] at hc1; unfold maxLen at hc2; obtain ⟨-, b1, b2, hst⟩ := own_at' o0 j (by rw [cpg_256]; exact hj2); have hyb := (seal_bys (cpg_bys (pg := pgF 5 1 (K + 1)) HR0.out.1 K)).at j; obtain ⟨y, hy⟩ : ∃ y, (sealL (cpg l0 (pgF 5 1 (K + 1)) K)).getD j 0 = y := ⟨_, rfl⟩; rw [hy] at b1 hyb; obtain ⟨f0, f1, f2⟩ := flip_byte hyb.1 hyb.2 hu2; have HF : Hid _ := And.intro f0 (And.intro f1 (And.intro f2 hy)); have HST : Hid _ := hst; have HGE : Hid (w.heap.size ≤ g) := (by show _ ≤ _; have := o0.lt2.1; have := HB4.out.size; omega); clear hb9 o0 hrw hst hy f0 f1 f2))
        obtain ⟨f0, f1, f2, hy⟩ := HF.out
        obtain ⟨y2, hy2⟩ : ∃ y2, bits .xor .u8 y (2 ^ u % 256) = y2 := ⟨_, rfl⟩
        rw [hy2] at f0 f1 f2 ⊢
        have ho := HST.out y2
        have hbs := (seal_bys (cpg_bys (pg := pgF 5 1 (K + 1)) HR0.out.1 K)).set' j f0 f1
        have hpt := X.part (some ⟨g, 0, none⟩) c ((sealL (cpg l0 (pgF 5 1 (K + 1)) K)).set j y2) (w9.setCell ⟨g, j, none⟩ (.int .u8 y2)) (ho.row' hbs).2 (by intro e; cases e) (by rw [List.length_set, cpg_256]; omega)
        obtain ⟨e1, e2, e3⟩ := part_turned (zs := l0) (pg := pgF 5 1 (K + 1)) (k := K) (j := j) (y := y2) HR0.out.1 hj2 f0 f1 (by rw [hy]; exact f2)
        unfold PtR at hpt
        rw [List.length_set, cpg_256, e1, e2, e3] at hpt
        have HBs : Hid (Below w.heap.size w (w9.setCell ⟨g, j, none⟩ (.int .u8 y2))) := HB9.out.setCell HGE.out _
        clear ho hbs e1 e2 e3 f0 f1 f2 hy hy2 HST HF b1 b2
        refine hpt.mono ?_
        clear hpt
        rintro e wa ⟨ga, ca, rfl, -, -, hba⟩
        have HBa : Hid (Below w.heap.size w wa) := HBs.out.trans (hba.mono HBs.out.size)
        clear hba
        go_wp2
        go_ret
        exact ⟨rfl, HBa.out⟩
    · have hMM : M = l0.length := by have := HMM.out; omega
      have hge2 : (l1.length : Int) ≤ (l0.length : Int) := by omega
      have hmax : max (l0.length : Int) (l1.length : Int) = (l0.length : Int) := Int.max_eq_left (by omega)
      have hnd := X.need l0.length wr (by omega)
      rw [← hMM, HNED.out.1] at hnd
      rw [hMM] at hnd
      clear hMM
      go_wp2_with fail
      refine hnd.mono ?_
      clear hnd
      rintro x w3 ⟨rfl, hb3⟩
      have HB3 : Hid (Below w.heap.size w w3) := HI.out.2.trans (hb3.mono HI.out.2.size)
      have HO3 : Hid (OwnI w.heap.size w3 u7 (pgF 5 1 k)) := own_below HI.out.1 hb3
      clear hb3 HI
      by_cases hlt : k < N
      · obtain ⟨z, hz⟩ : ∃ z, 5 + k * 1 = z := ⟨_, rfl⟩
        have hz' : 5 + (k : Int) = (z : Int) := by omega
        have HZ : Hid (5 + k * 1 = z) := hz
        have hs3 := HB3.out.size
        clear hz
        go_wp2_with (at_builtin; refine appI w3 rfl _ _ rfl w.heap.size u7 (pgF 5 1 k) (z : Int) rfl HO3.out rfl (by rw [pgF_len]; omega) hs3 ?_; intro v4 w4 ho4 hb4; have HZ4 : Hid (OwnI w.heap.size w4 v4 (pgF 5 1 (k + 1)) ∧ Below w.heap.size w w4) := (by show _ ∧ _; rw [pgF_succ, HZ.out]; exact ⟨ho4, HB3.out.trans hb4⟩); clear ho4 hb4)
        go_roundw
        case rel => exact ⟨k + 1, by omega, by go_num, HZ4⟩
        case measure => simp [intOf]; omega
      · have hkN : k = N := by omega
        subst hkN
        obtain ⟨pa, pc, hv7, hrI⟩ := HO3.out.row2
        subst hv7
        rw [pgF_len] at *
        have hpc1 := hrI.1
        have hpc2 := hrI.2.1
        rw [pgF_len] at hpc1
        unfold maxLen at hpc2
        have HRI : Hid (RowI w3 pa pc (pgF 5 1 k)) := hrI
        have hsa : ∃ pb, pa = some ⟨pb, 0, none⟩ := by
          rcases HO3.out.2 with ⟨_, e⟩ | ⟨g, cap, cur, e, _⟩
          · rw [pgF_len] at e; omega
          · simp only [Value.slice.injEq] at e
            exact ⟨g, e.1⟩
        obtain ⟨pb, rfl⟩ := hsa
        have hnd0 := X.need l0.length w3 (by omega)
        rw [HNED.out.2.1] at hnd0
        clear hrI HO3
        go_wp2_with fail
        refine hnd0.mono ?_
        clear hnd0
        rintro x w4 ⟨rfl, hb4⟩
        have HB4 : Hid (Below w.heap.size w w4) := HB3.out.trans (hb4.mono HB3.out.size)
        have HRI4 : Hid (RowI w4 (some ⟨pb, 0, none⟩) pc (pgF 5 1 k)) := HRI.out.below hb4
        have HOK0 : Hid (CtOk (pgF 5 1 N0)) := pgF_ok (by omega) (by omega) (by omega)
        have HE0 : Hid (ctE l0 (pgF 5 1 N0) = 0) := ctE_ok (by rw [pgF_len]; exact HNN.out.1.symm) HOK0.out (by omega)
        have HE1 : Hid (ctE l1 (pgF 5 1 N1) = 0) := ctE_ok (by rw [pgF_len]; exact HNN.out.2.symm) (pgF_ok (by omega) (by omega) (by omega)) (by omega)
        have hr0 := HRI4.out.take' N0 (by rw [pgF_len]; exact hN0N)
        rw [pgF_take _ _ _ _ hN0N] at hr0
        have hc0 := X.cut a0 cap0 l0 (some ⟨pb, 0, none⟩) pc (pgF 5 1 N0) w4 (HR0.out.below HB4.out) HN0.out hr0 (pgF_wf (by omega)) (by omega) (by rw [pgF_len]; omega)
        rw [pgF_len] at hc0
        clear hb4 hr0 HRI HB3
        go_wp2_with fail
        refine hc0.mono ?_
        clear hc0
        rintro x w5 ⟨v5, rfl, hp5, hb5⟩
        rw [HE0.out]
        rw [show ctZ l0 (pgF 5 1 N0) = ctL l0 (pgF 5 1 N0) from if_pos HE0.out] at hp5
        have HB5 : Hid (Below w.heap.size w w5) := HB4.out.trans (hb5.mono HB4.out.size)
        have HRI5 : Hid (RowI w5 (some ⟨pb, 0, none⟩) pc (pgF 5 1 k)) := HRI4.out.below hb5
        have HP5 : Hid (PgL w4.heap.size w5 v5 (ctL l0 (pgF 5 1 N0))) := hp5
        have hnd1 := X.need l1.length w5 (by omega)
        rw [HNED.out.2.2] at hnd1
        clear hp5 hb5
        go_wp2_with fail
        refine hnd1.mono ?_
        clear hnd1
        rintro x w6 ⟨rfl, hb6⟩
        have HB6 : Hid (Below w.heap.size w w6) := HB5.out.trans (hb6.mono HB5.out.size)
        have HRI6 : Hid (RowI w6 (some ⟨pb, 0, none⟩) pc (pgF 5 1 k)) := HRI5.out.below hb6
        have HP6 : Hid (PgL w4.heap.size w6 v5 (ctL l0 (pgF 5 1 N0))) := HP5.out.below hb6
        have hr1 := HRI6.out.take' N1 (by rw [pgF_len]; exact hN1N)
        rw [pgF_take _ _ _ _ hN1N] at hr1
        have hc1 := X.cut a1 cap1 l1 (some ⟨pb, 0, none⟩) pc (pgF 5 1 N1) w6 (HR1.out.below HB6.out) HN1.out hr1 (pgF_wf (by omega)) (by omega) (by rw [pgF_len]; omega)
        rw [pgF_len] at hc1
        clear hb6 hr1
        go_wp2_with fail
        refine hc1.mono ?_
        clear hc1
        rintro x w7 ⟨v7, rfl, hp7, hb7⟩
        rw [HE1.out]
        rw [show ctZ l1 (pgF 5 1 N1) = ctL l1 (pgF 5 1 N1) from if_pos HE1.out] at hp7
        have HB7 : Hid (Below w.heap.size w w7) := HB6.out.trans (hb7.mono HB6.out.size)
        have HP7 : Hid (PgL w4.heap.size w7 v5 (ctL l0 (pgF 5 1 N0))) := HP6.out.below hb7
        have hpg := pages_any HP7.out hp7 (ctL_bys HR0.out.1) (ctL_bys HR1.out.1)
        have hcs := cut_same HR0.out.1 HR1.out.1 5 1 (by rw [HNN.out.1]; exact HOK0.out)
        rw [HNN.out.1, HNN.out.2] at hcs
        rw [hcs] at hpg
        obtain ⟨sb, hsb⟩ : ∃ sb, sameB l0 l1 = sb := ⟨_, rfl⟩
        have HSB : Hid (sameB l0 l1 = sb) := hsb
        rw [hsb] at hpg
        obtain ⟨xa, xc, hv5, hx1, hx2⟩ := HP7.out.slice
        rw [ctL_len, pgF_len] at hx1 hv5
        subst hv5
        unfold maxLen at hx2
        clear hp7 hb7 hcs hsb
        obtain ⟨t, ht⟩ : ∃ t, a2.tmod 2048 = t := ⟨_, rfl⟩
        have t1 : -2047 ≤ t := by have := Int.lt_tmod_of_pos a2 (show (0 : Int) < 2048 by omega); omega
        have t2 : t ≤ 2047 := by have := Int.tmod_lt_of_pos a2 (show (0 : Int) < 2048 by omega); omega
        obtain ⟨sn, hsn⟩ := Int.eq_ofNat_of_zero_le (show 0 ≤ t + 2048 by omega)
        obtain ⟨r, hr⟩ : ∃ r, sn % 2048 = r := ⟨_, rfl⟩
        have hr1 : (sn : Int) % 2048 = (r : Int) := by omega
        have hr2 : (sn : Int).tmod 2048 = (r : Int) := by rw [Int.tmod_eq_emod_of_nonneg (by omega)]; exact hr1
        have hr3 : r < 2048 := by omega
        obtain ⟨j, hj⟩ : ∃ j, r / 8 = j := ⟨_, rfl⟩
        obtain ⟨u, hu⟩ : ∃ u, r % 8 = u := ⟨_, rfl⟩
        have hj1 : (r : Int) / 8 = (j : Int) := by omega
        have hu1 : (r : Int) % 8 = (u : Int) := by omega
        have hj2 : j < 256 := by omega
        have hu2 : u < 8 := by omega
        clear hj hu hr
        go_wp2_with (first | (go_at_call 12; refine hpg.mono ?_; clear hpg; rintro e w8 ⟨rfl, hb8⟩; have HB8 : Hid (Below w.heap.size w w8) := HB7.out.trans (hb8.mono HB7.out.size); have HP8 : Hid (PgL w4.heap.size w8 (.slice xa N0 xc) (ctL l0 (pgF 5 1 N0))) := HP7.out.below hb8; clear hb8) | (go_at_call 16; have hsm := same_any _ _ _ _ l0 l1 w8 (HR0.out.below HB8.out) (HR1.out.below HB8.out); rw [HSB.out] at hsm; refine hsm.mono ?_; clear hsm; rintro e w9 ⟨rfl, hb9⟩; have HB9 : Hid (Below w.heap.size w w9) := HB8.out.trans (hb9.mono HB8.out.size); have HP9 : Hid (PgL w4.heap.size w9 (.slice xa N0 xc) (ctL l0 (pgF 5 1 N0))) := HP8.out.below hb9; obtain ⟨K, hK⟩ : ∃ K, N0 = K + 1 := ⟨N0 - 1, (by omega)⟩; subst hK; obtain ⟨q, cp, g, c, eq, -, -, d0, o0, hgq⟩ := HP9.out.at K (by rw [ctL_len, pgF_len]; omega); simp only [Value.slice.injEq] at eq; obtain ⟨rfl, -, rfl⟩ := eq; rw [ctL_at (by rw [pgF_len]; omega), cpg_256] at d0 o0; have HO9 : Hid (Own w4.heap.size w9 (.slice (some ⟨g, 0, none⟩) 256 c) (sealL (cpg l0 (pgF 5 1 (K + 1)) K))) := o0; have hK1 : ((K + 1 : Nat) : Int) - 1 = (K : Int) := (by omega); have hrw := (o0.row' (seal_bys (cpg_bys HR0.out.1 K))).2; have hc1 := hrw.2.1; have hc2 := hrw.2.2.1; rw [cpg_256] at hc1; unfold maxLen at hc2; obtain ⟨-, b1, b2, hst⟩ := own_at' o0 j (by rw [cpg_256]; exact hj2); have hyb := (seal_bys (cpg_bys (pg := pgF 5 1 (K + 1)) HR0.out.1 K)).at j; obtain ⟨y, hy⟩ : ∃ y, (sealL (cpg l0 (pgF 5 1 (K + 1)) K)).getD j 0 = y := ⟨_, rfl⟩; rw [hy] at b1 hyb; obtain ⟨f0, f1, f2⟩ := flip_byte hyb.1 hyb.2 hu2; have HF : Hid _ := And.intro f0 (And.intro f1 (And.intro f2 hy)); have HST : Hid _ := hst; have HGE : Hid (w.heap.size ≤ g) := (by show _ ≤ _; have := o0.lt2.1; have := HB4.out.size; omega); clear hb9 o0 hrw hst hy f0 f1 f2))
        obtain ⟨f0, f1, f2, hy⟩ := HF.out
        obtain ⟨y2, hy2⟩ : ∃ y2, bits .xor .u8 y (2 ^ u % 256) = y2 := ⟨_, rfl⟩
        rw [hy2] at f0 f1 f2 ⊢
        have ho := HST.out y2
        have hbs := (seal_bys (cpg_bys (pg := pgF 5 1 (K + 1)) HR0.out.1 K)).set' j f0 f1
        have hpt := X.part (some ⟨g, 0, none⟩) c ((sealL (cpg l0 (pgF 5 1 (K + 1)) K)).set j y2) (w9.setCell ⟨g, j, none⟩ (.int .u8 y2)) (ho.row' hbs).2 (by intro e; cases e) (by rw [List.length_set, cpg_256]; omega)
        obtain ⟨e1, e2, e3⟩ := part_turned (zs := l0) (pg := pgF 5 1 (K + 1)) (k := K) (j := j) (y := y2) HR0.out.1 hj2 f0 f1 (by rw [hy]; exact f2)
        unfold PtR at hpt
        rw [List.length_set, cpg_256, e1, e2, e3] at hpt
        have HBs : Hid (Below w.heap.size w (w9.setCell ⟨g, j, none⟩ (.int .u8 y2))) := HB9.out.setCell HGE.out _
        clear ho hbs e1 e2 e3 f0 f1 f2 hy hy2 HST HF b1 b2
        refine hpt.mono ?_
        clear hpt
        rintro e wa ⟨ga, ca, rfl, -, -, hba⟩
        have HBa : Hid (Below w.heap.size w wa) := HBs.out.trans (hba.mono HBs.out.size)
        clear hba
        go_wp2
        go_ret
        exact ⟨rfl, HBa.out⟩

end Go.Proofs.Ytbamdcjhcmogbaa.chainOne
