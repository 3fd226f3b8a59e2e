/- The walk: Read on from page to page, the parts are the bytes; each page leads to the next one, the last one nowhere. -/
import Derived.Test.YtbamdcjhcmogbaaKh
import Derived.WalkKit
import Derived.ProofKit
import Derived.OpenShut
import Derived.ShutString
import Derived.ChangeOld
import Derived.Below
namespace Go.Proofs.Ytbamdcjhcmogbaa.chainBack
open Go.ChangeShapes Go.WideShapes Go.ChangeAt Go.RowKit
open Go.Proofs.Ytbamdcjhcmogbaa.Oct
set_option linter.unusedVariables false

theorem and1023 (n : Int) : 0 ≤ bits .and .i64 n 1023 ∧ bits .and .i64 n 1023 ≤ 1023 := by
  have h : bits .and .i64 n 1023 = IntKind.i64.wrap ((BitVec.ofInt 64 n &&& BitVec.ofInt 64 1023).toNat : Int) := rfl
  have h2 : (BitVec.ofInt 64 n &&& BitVec.ofInt 64 1023).toNat ≤ 1023 := by
    rw [BitVec.toNat_and]
    exact Nat.and_le_right
  rw [h, IntKind.wrap_i64]
  omega
set_option maxHeartbeats 4000000 in
set_option maxRecDepth 100000 in
theorem walk (X : ChC) (a0 : Option Addr) (cap0 : Nat) (l0 : List Int) (a1 : Int) (w : World) (w0 : Row w a0 cap0 l0) (n0 : a0 = none → cap0 = 0) (w1 : -9223372036854775808 ≤ a1 ∧ a1 ≤ 9223372036854775807) :
    Calls Try.prog 6 #[.slice a0 l0.length cap0, .int .i64 a1] w fun e w' => e = .returned (.bool true) ∧ Below w.heap.size w w' := by
  have HR : Hid (Row w a0 cap0 l0) := w0
  have HN : Hid (a0 = none → cap0 = 0) := n0
  clear w0 n0
  go_enter Try.func6, Try.ntmps6
  go_wp2_with fail
  refine (awake11 X w).mono ?_
  rintro x w2 ⟨rfl, hb1⟩
  have HB1 : Hid (Below w.heap.size w w2) := hb1
  have hlen0 : l0.length ≤ maxLen := Nat.le_trans HR.out.2.1 HR.out.2.2.1
  unfold maxLen at hlen0
  clear hb1
  by_cases hbig : 5000 < l0.length
  · go_wp2
    go_ret
    exact ⟨rfl, HB1.out⟩
  clear hlen0
  have ha := and1023 a1
  obtain ⟨f0, hf0⟩ : ∃ f0, bits .and .i64 a1 1023 = f0 := ⟨_, rfl⟩
  rw [hf0] at ha
  obtain ⟨fn, rfl⟩ := Int.eq_ofNat_of_zero_le ha.1
  obtain ⟨f, hf⟩ : ∃ f, 2 + fn = f := ⟨_, rfl⟩
  have hf' : 2 + (fn : Int) = (f : Int) := by omega
  have hf2 : 2 ≤ f := by omega
  have hf3 : f ≤ 1025 := by omega
  obtain ⟨N, hN⟩ : ∃ N, ned l0.length = N := ⟨_, rfl⟩
  have hN21 : N ≤ 21 := by rw [← hN]; unfold ned; omega
  have HNED : Hid (nedI l0.length = N) := (nedI_nat _).trans (by rw [hN])
  have HNN : Hid (ned l0.length = N) := hN
  clear hf hN ha
  go_wp2_with fail
  go_loopw [5, 6] (fun v i wr => ∃ k : Nat, k ≤ N ∧ i = .int .i64 k ∧ Hid (OwnI w.heap.size wr v (pgF f 3 k) ∧ Below w.heap.size w wr)) (fun _ i _ => N - (intOf i).toNat)
  case atStart => exact ⟨0, Nat.zero_le _, rfl, (by show _ ∧ _; exact ⟨World.ownsRow_nil _ _ _ _, HB1.out⟩)⟩
  case round =>
    clear HB1
    obtain ⟨k, hk, rfl, HI⟩ := hrel
    have hnd := X.need l0.length wr (by omega)
    rw [HNED.out] at hnd
    go_wp2_with fail
    refine hnd.mono ?_
    clear hnd
    rintro x w3 ⟨rfl, hb3⟩
    have HB3 : Hid (Below w.heap.size w w3) := HI.out.2.trans (hb3.mono HI.out.2.size)
    have HO3 : Hid (OwnI w.heap.size w3 u5 (pgF f 3 k)) := own_below HI.out.1 hb3
    clear hb3 HI
    by_cases hlt : k < N
    · obtain ⟨z, hz⟩ : ∃ z, f + k * 3 = z := ⟨_, rfl⟩
      have hz' : (f : Int) + (k : Int) * 3 = (z : Int) := by omega
      have HZ : Hid (f + k * 3 = z) := hz
      have hs3 := HB3.out.size
      clear hz
      go_wp2_with (at_builtin; refine appI w3 rfl _ _ rfl w.heap.size u5 (pgF f 3 k) (z : Int) rfl HO3.out rfl (by rw [pgF_len]; omega) hs3 ?_; intro v4 w4 ho4 hb4; have HZ4 : Hid (OwnI w.heap.size w4 v4 (pgF f 3 (k + 1)) ∧ Below w.heap.size w w4) := (by show _ ∧ _; rw [pgF_succ, HZ.out]; exact ⟨ho4, HB3.out.trans hb4⟩); clear ho4 hb4)
      go_roundw
      case rel => exact ⟨k + 1, by omega, by go_num, HZ4⟩
      case measure => simp [intOf]; omega
    · have hkN : k = N := by omega
      subst hkN
      obtain ⟨pa, pc, hv5, hrI⟩ := HO3.out.row2
      subst hv5
      rw [pgF_len] at *
      have HOK : Hid (CtOk (pgF f 3 k)) := pgF_ok hf2 (by omega) (by omega)
      have hc := X.cut a0 cap0 l0 pa pc (pgF f 3 k) w3 (HR.out.below HB3.out) HN.out hrI (pgF_wf (by omega)) (by omega) (by rw [pgF_len]; omega)
      have HRI : Hid (RowI w3 pa pc (pgF f 3 k)) := hrI
      rw [pgF_len] at hc
      have HE : Hid (ctE l0 (pgF f 3 k) = 0) := ctE_ok (by rw [pgF_len]; exact HNN.out.symm) HOK.out (by omega)
      clear hrI
      go_wp2_with fail
      refine hc.mono ?_
      clear hc
      rintro e w4 ⟨v, rfl, hp4, hb4⟩
      rw [HE.out]
      rw [show ctZ l0 (pgF f 3 k) = ctL l0 (pgF f 3 k) from if_pos HE.out] at hp4
      have hll : (ctL l0 (pgF f 3 k)).length = k := (ctL_len _ _).trans (pgF_len _ _ _)
      obtain ⟨xa, xc, rfl, hx1, hx2⟩ := hp4.slice
      rw [hll] at hx1 hp4 ⊢
      unfold maxLen at hx2
      have HB4 : Hid (Below w.heap.size w w4) := HB3.out.trans (hb4.mono HB3.out.size)
      have HP4 : Hid (PgL w3.heap.size w4 (.slice xa k xc) (ctL l0 (pgF f 3 k))) := hp4
      have HRI4 : Hid (RowI w4 pa pc (pgF f 3 k)) := HRI.out.below hb4
      have HLL : Hid ((ctL l0 (pgF f 3 k)).length = k) := hll
      clear hp4 hb4 hll HRI HO3 HB3
      go_wp2_with fail
      go_loopw [9, 10] (fun v i wr => ∃ j : Nat, j ≤ k ∧ i = .int .i64 j ∧ Hid (Own w4.heap.size wr v (prts l0 j) ∧ Below w4.heap.size w4 wr)) (fun _ i _ => k - (intOf i).toNat)
      case atStart => exact ⟨0, Nat.zero_le _, rfl, (by show _ ∧ _; exact ⟨(by unfold prts; rw [Nat.zero_mul, List.take_zero]; exact World.ownsRow_nil _ _ _ _), Below.refl _ _⟩)⟩
      case round =>
        obtain ⟨j, hj, rfl, HI⟩ := hrel
        have HBr : Hid (Below w.heap.size w wr) := HB4.out.trans (HI.out.2.mono HB4.out.size)
        by_cases hjk : j < k
        · obtain ⟨q, cp, g, c, e, -, -, d0, o0, -⟩ := (HP4.out.below HI.out.2).at j (by rw [HLL.out]; exact hjk)
          simp only [Value.slice.injEq] at e
          obtain ⟨rfl, -, rfl⟩ := e
          rw [ctL_at (by rw [pgF_len]; exact hjk), cpg_256] at d0 o0
          have hby : Bys (sealL (cpg l0 (pgF f 3 k) j)) := seal_bys (cpg_bys HR.out.1 j)
          have hpt := X.part (some ⟨g, 0, none⟩) c (sealL (cpg l0 (pgF f 3 k) j)) wr (o0.row' hby).2 (by intro e; cases e) (by rw [cpg_256]; omega)
          obtain ⟨e1, e2, e3⟩ := part_cpg (zs := l0) (pg := pgF f 3 k) (k := j) HR.out.1 HOK.out (by rw [pgF_len]; exact HNN.out.symm) (by rw [pgF_len]; exact hjk)
          unfold PtR at hpt
          rw [cpg_256, e1, e2, e3] at hpt
          have hmp := prt_pos (zs := l0) (k := j) (by rw [HNN.out]; exact hjk)
          have hml : (prt l0 j).length ≤ 244 := by rw [prt_len]; omega
          obtain ⟨m, hm⟩ : ∃ m, (prt l0 j).length = m := ⟨_, rfl⟩
          have HM : Hid ((prt l0 j).length = m) := hm
          rw [hm] at hpt hmp hml
          have hm0 : ((m : Int) == 0) = false := by simp; omega
          have HPL : Hid ((prts l0 j).length ≤ 5000) := by show _ ≤ _; unfold prts; rw [List.length_take]; omega
          obtain ⟨Y, hY⟩ : ∃ Y, nxt (pgF f 3 k) j = Y := ⟨_, rfl⟩
          have HY : Hid (nxt (pgF f 3 k) j = Y) := hY
          rw [hY] at hpt
          clear o0 hby e1 e2 e3 hm hY
          go_wp2_with fail
          refine hpt.mono ?_
          clear hpt
          rintro e w5 ⟨g5, c5, rfl, hn5, hr5, hb5⟩
          have HB5 : Hid (Below w4.heap.size w4 w5) := HI.out.2.trans (hb5.mono HI.out.2.size)
          have HO5 : Hid (Own w4.heap.size w5 u9 (prts l0 j)) := own_below HI.out.1 hb5
          have HR5 : Hid (Row w5 g5 c5 (prt l0 j)) := hr5
          have HN5 : Hid (g5 = none → c5 = 0) := hn5
          have hs5 := HB5.out.size
          have ARM : True := trivial
          clear hr5 hn5 hb5 d0
          by_cases hj1 : j + 1 < k
          · obtain ⟨pb, po, rfl, d1⟩ := (HRI4.out.below HB5.out).at' (j + 1) (by rw [pgF_len]; exact hj1)
            have HYX : Hid (nxt (pgF f 3 k) j = (pgF f 3 k).getD (j + 1) 0) := if_pos (by rw [pgF_len]; exact hj1)
            rw [← HYX.out, HY.out] at d1
            go_wp2_with (at_builtin; refine append_row rfl _ _ rfl w4.heap.size u9 (prts l0 j) rfl HO5.out g5 (prt l0 j) c5 (by rw [HM.out]; rfl) HR5.out HN5.out (by rw [HM.out]; have := HPL.out; omega) hs5 ?_; intro v6 w6 ho6 hb6; have HZ6 : Hid (Own w4.heap.size w6 v6 (prts l0 (j + 1)) ∧ Below w4.heap.size w4 w6) := (by show _ ∧ _; rw [prts_succ]; exact ⟨ho6, HB5.out.trans hb6⟩); clear ho6 hb6)
            go_roundw
            case rel => exact ⟨j + 1, by omega, by go_num, HZ6⟩
            case measure => simp [intOf]; omega
          · have HYX : Hid (Y = 0) := HY.out.symm.trans (if_neg (by rw [pgF_len]; exact hj1))
            have hY0 := HYX.out
            subst hY0
            go_wp2_with (at_builtin; refine append_row rfl _ _ rfl w4.heap.size u9 (prts l0 j) rfl HO5.out g5 (prt l0 j) c5 (by rw [HM.out]; rfl) HR5.out HN5.out (by rw [HM.out]; have := HPL.out; omega) hs5 ?_; intro v6 w6 ho6 hb6; have HZ6 : Hid (Own w4.heap.size w6 v6 (prts l0 (j + 1)) ∧ Below w4.heap.size w4 w6) := (by show _ ∧ _; rw [prts_succ]; exact ⟨ho6, HB5.out.trans hb6⟩); clear ho6 hb6)
            go_roundw
            case rel => exact ⟨j + 1, by omega, by go_num, HZ6⟩
            case measure => simp [intOf]; omega
        · have hjk' : j = k := by omega
          subst hjk'
          have ho := HI.out.1
          rw [prts_all HNN.out.symm] at ho
          obtain ⟨oa, oc, ov, hro⟩ := ho.row HR.out.1
          subst ov
          have hsm := same_any oa a0 oc cap0 l0 l0 wr hro (HR.out.below HBr.out)
          rw [show sameB l0 l0 = true by simp [sameB]] at hsm
          clear ho hro
          go_wp2_with fail
          refine hsm.mono ?_
          clear hsm
          rintro e w7 ⟨rfl, hb7⟩
          have HB7 : Hid (Below w.heap.size w w7) := HBr.out.trans (hb7.mono HBr.out.size)
          clear hb7
          go_wp2
          go_ret
          exact ⟨rfl, HB7.out⟩

end Go.Proofs.Ytbamdcjhcmogbaa.chainBack
