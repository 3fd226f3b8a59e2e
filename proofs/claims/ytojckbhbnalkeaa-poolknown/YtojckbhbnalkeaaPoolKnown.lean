/- Chapter 9's examples hold: pool.New with seven frames and with no device, nine pages Put into eight frames, the first one on the device, Unpin of a page that left. -/
import Derived.Test.YtojckbhbnalkeaaRows
import Derived.Test.YtojckbhbnalkeaaRows
import Derived.Test.YtojckbhbnalkeaaIs
import Derived.WalkKit
import Derived.ProofKit
import Derived.OpenShut
import Derived.ShutString
namespace Go.Proofs.Ytojckbhbnalkeaa.poolKnown
open Go.ChangeShapes Go.WideShapes Go.ChangeAt Go.RowKit
open Go.Proofs.Ytojckbhbnalkeaa.Oct
open Go.ChangeMaps (open_string shut_string)
set_option linter.unusedVariables false      -- a walk need not use every 'w<i>' (that an integer argument fits its kind)

theorem own : ownKnob Try.prog.godebug = none := by kernel_rfl

/-- The frame of page i. -/
def knF (i : Nat) : Fr := ⟨i, pgL (pgB ((i : Int) + 1) 0), true, 0⟩
def knL (k : Nat) : List Fr := (List.range k).map knF

theorem knL_len (k : Nat) : (knL k).length = k := by simp [knL]
theorem knL_fi (k x : Nat) (h : k ≤ x) : ¬ fiP (knL k) x < (knL k).length := fiP_none (fun f hf => by
  simp only [knL, List.mem_map, List.mem_range] at hf
  obtain ⟨i, hi, rfl⟩ := hf
  show (i : Int) ≠ x
  omega)

/-- Up to eight pages. -/
theorem kn_step (D : Dv) (k : Nat) (h : k < 8) : usE D 8 (knL k) k false = 0 ∧ usD D 8 (knL k) k false = D ∧ ptL D 8 (knL k) k (pgL (pgB ((k : Int) + 1) 0)) = knL (k + 1) := by
  have hf := knL_fi k k (Nat.le_refl _)
  have ht : tkE D 8 (knL k) = 0 := by unfold tkE; rw [knL_len, if_pos h]
  have e1 : usE D 8 (knL k) k false = 0 := by unfold usE; rw [if_neg hf, if_pos ht, if_neg (by simp)]
  refine ⟨e1, ?_, ?_⟩
  · unfold usD; rw [if_neg hf, if_pos ht, if_neg (by simp)]; unfold tkD; rw [knL_len, if_pos h]
  · unfold ptL; rw [if_pos e1]; unfold usL; rw [if_neg hf, if_pos e1, lastUp_snoc]
    unfold tkL; rw [knL_len, if_pos h]
    unfold knL
    rw [List.range_succ, List.map_append]
    rfl

theorem kn_last {D : Dv} (hw : Well D) : usE D 8 (knL 8) 8 false = 0 ∧ usD D 8 (knL 8) 8 false = writeD D 0 (pgL (pgB 1 0)) ∧ ptL D 8 (knL 8) 8 (pgL (pgB ((8 : Nat) + 1 : Int) 0)) = (knL 9).tail := by
  have hf := knL_fi 8 8 (Nat.le_refl _)
  have hnu : nuP (knL 8) 0 = 0 := by rfl
  have hg : (knL 8).getD 0 fr0 = ⟨0, pgL (pgB 1 0), true, 0⟩ := rfl
  have hE : evE D (⟨0, pgL (pgB 1 0), true, 0⟩ : Fr) = 0 := by simp [evE, hw.says]
  have ht : tkE D 8 (knL 8) = 0 := by
    unfold tkE; rw [if_neg (by rw [knL_len]; omega), hnu, if_pos (by rw [knL_len]; omega), hg, hE]
  have e1 : usE D 8 (knL 8) 8 false = 0 := by unfold usE; rw [if_neg hf, if_pos ht, if_neg (by simp)]
  refine ⟨e1, ?_, ?_⟩
  · unfold usD; rw [if_neg hf, if_pos ht, if_neg (by simp)]; unfold tkD; rw [if_neg (by rw [knL_len]; omega), hnu, if_pos (by rw [knL_len]; omega), hg]
    simp [evD]
  · unfold ptL; rw [if_pos e1]; unfold usL; rw [if_neg hf, if_pos e1, lastUp_snoc]
    unfold tkL; rw [if_neg (by rw [knL_len]; omega), hnu, if_pos (by rw [knL_len]; omega), hg, if_pos hE]
    rfl

/-- The state behind k pages. -/
def knD (D : Dv) (k : Nat) : Dv := if k < 9 then D else writeD D 0 (pgL (pgB 1 0))
def knS (k : Nat) : List Fr := if k < 9 then knL k else (knL 9).tail

theorem kn_all {D : Dv} (hw : Well D) (k : Nat) (h : k < 9) : usD (knD D k) 8 (knS k) k false = knD D (k + 1) ∧ ptL (knD D k) 8 (knS k) k (pgL (pgB ((k : Int) + 1) 0)) = knS (k + 1) := by
  have e1 : knD D k = D := by unfold knD; rw [if_pos h]
  have e2 : knS k = knL k := by unfold knS; rw [if_pos h]
  rw [e1, e2]
  by_cases h8 : k < 8
  · obtain ⟨_, a, b⟩ := kn_step D k h8
    rw [a, b]
    unfold knD knS
    rw [if_pos (by omega), if_pos (by omega)]
    exact ⟨rfl, rfl⟩
  · have : k = 8 := by omega
    subst this
    obtain ⟨_, a, b⟩ := kn_last hw
    exact ⟨a.trans (by unfold knD; rw [if_neg (by omega)]), b.trans (by unfold knS; rw [if_neg (by omega)])⟩

theorem kn_unpin : unE (knL 9).tail 0 = 10 ∧ unL (knL 9).tail 0 = (knL 9).tail := by
  have : pinB (knL 9).tail 0 = false := by rfl
  unfold unE unL
  rw [this]
  exact ⟨rfl, rfl⟩
theorem kn_byte : (pgL (pgB 1 0)).getD 0 0 = 1 := by
  rw [pgL_at _ _ (by omega)]; rfl

set_option maxRecDepth 20000 in
set_option maxHeartbeats 4000000 in
theorem walk  (w : World) :
    Calls Try.prog 3 #[] w fun e w' => e = .returned (.bool true) ∧ Below w.heap.size w w' := by
  have hn := fun (w1 : World) => new_yes 16 w1 (by omega) (by omega)
  rw [show ((16 : Nat) : Int) = 16 from rfl] at hn
  have hwl : Well (newD (List.replicate (16 * 256) 0)) := Well.new _
  have hdn : (newD (List.replicate (16 * 256) 0)).n = 16 := by simp only [newD, List.length_replicate]
  have hdo : (newD (List.replicate (16 * 256) 0)).ops = 0 := rfl
  have hds : (newD (List.replicate (16 * 256) 0)).since = [] := rfl
  obtain ⟨D0, hD0⟩ : ∃ D0, newD (List.replicate (16 * 256) 0) = D0 := ⟨_, rfl⟩
  rw [hD0] at hn hwl hdn hdo hds
  clear hD0
  have HN : Hid _ := hn
  clear hn
  go_enter Try.func3, Try.ntmps3
  go_wp2_with fail
  refine (awake9_any w).mono ?_
  rintro x w1 ⟨rfl, hb1⟩
  have HB1 : Hid (Below w.heap.size w w1) := hb1
  clear hb1
  go_wp2_with fail
  refine (HN.out w1).mono ?_
  clear HN
  rintro x w2 ⟨d, Fd, rfl, hd2, hb2, hFd⟩
  have hok := hd2.1
  have HD2 : Hid (Dev w2 d Fd D0) := hd2
  have HB2 : Hid (Below w.heap.size w w2) := HB1.out.trans (hb2.mono HB1.out.size)
  have HFd : Hid (∀ k, Fd k → w1.heap.size ≤ k) := hFd
  clear hd2 hb2 hFd
  go_wp2_with fail
  refine (pNew_no (some ⟨d, 0, none⟩) 7 w2 (by omega)).mono ?_
  rintro x w3 ⟨rfl, rfl⟩
  go_wp2_with fail
  refine (pNew_no none 8 w2 (.inl rfl)).mono ?_
  rintro x w3 ⟨rfl, rfl⟩
  have hpn := pNew_yes HD2.out 8 (by omega) (by omega)
  rw [show ((8 : Nat) : Int) = 8 from rfl] at hpn
  go_wp2_with fail
  refine hpn.mono ?_
  clear hpn
  rintro x w3 ⟨p, F, rfl, hp3, hb3, hF3, _⟩
  have HP3 : Hid (Pool w3 p d F D0 8 []) := hp3
  have HB3 : Hid (Below w.heap.size w w3) := HB2.out.trans (hb3.mono HB2.out.size)
  have HF3 : Hid (∀ k, F k → w.heap.size ≤ k) := fun k hk => by
    rcases hF3 k hk with e1 | e1
    · have := HFd.out k e1; have := HB1.out.size; omega
    · have := HB2.out.size; omega
  clear hp3 hb3 hF3 HD2 HB2 HFd HB1
  go_wp2_with fail
  go_loopw [9] (fun i wr => ∃ (k : Nat) (F' : Nat → Prop), k ≤ 9 ∧ i = .int .i64 k ∧ Hid (Pool wr p d F' (knD D0 k) 8 (knS k)) ∧ Hid (∀ j, F' j → w.heap.size ≤ j) ∧ Hid (Below w.heap.size w wr)) (fun i _ => 9 - (intOf i).toNat)
  case atStart => exact ⟨0, F, by omega, rfl, HP3.out, HF3.out, HB3.out⟩
  case round =>
    obtain ⟨k, F', hk, rfl, HP, HF, HB⟩ := hrel
    clear HP3 HF3 HB3
    by_cases hlt : k < 9
    · have hby := fun (w1 : World) => page_any ((k : Int) + 1) 0 w1
      have HY : Hid _ := hby
      clear hby
      go_wp2_with fail
      refine (HY.out wr).mono ?_
      clear HY
      rintro x w4 ⟨rfl, ho4, hb4⟩
      have hp4 := HP.out.below hb4
      have hgF : ¬ F' wr.heap.size := fun e1 => by have := HP.out.lt _ e1; omega
      have hwo := writeD_ops D0 0 (pgL (pgB 1 0))
      have hkD : (knD D0 k).ops ≤ 1 ∧ (knD D0 k).since.length ≤ 1 ∧ (knD D0 k).n = 16 := by
        unfold knD
        rw [if_pos hlt, hdo, hds]
        exact ⟨by omega, by simp, hdn⟩
      have hput := Put_any hp4 (by omega) (by omega) k (by omega) wr.heap.size 0 256 _ (pgs_len _ _) (ho4.row' (pgs_bys _ _)).2 hgF
      obtain ⟨a1, a2⟩ := kn_all hwl k hlt
      rw [a1, a2] at hput
      obtain ⟨E, hE⟩ : ∃ E, usE (knD D0 k) 8 (knS k) k false = E := ⟨_, rfl⟩
      rw [hE] at hput
      have HB4 : Hid (Below w.heap.size w w4) := HB.out.trans (hb4.mono HB.out.size)
      clear ho4 hb4 hp4 hgF hwo hkD a1 a2 hE
      go_wp2_with fail
      refine hput.mono ?_
      clear hput
      rintro x w5 ⟨rfl, F5, hp5, st5⟩
      have sb5 := st5.below HB4.out.size HF.out
      have HP5 : Hid (Pool w5 p d F5 (knD D0 (k + 1)) 8 (knS (k + 1))) := hp5
      have HF5 : Hid (∀ j, F5 j → w.heap.size ≤ j) := sb5.2
      have HB5 : Hid (Below w.heap.size w w5) := HB4.out.trans sb5.1
      clear hp5 st5 sb5 HP HF HB HB4
      go_wp2
      go_roundw
      case rel => exact ⟨k + 1, F5, by omega, by go_num, HP5.out, HF5.out, HB5.out⟩
      case measure => simp [intOf]; omega
    · have hk9 : k = 9 := by omega
      subst hk9
      have hwo := writeD_ops D0 0 (pgL (pgB 1 0))
      have eD : knD D0 9 = writeD D0 0 (pgL (pgB 1 0)) := by unfold knD; rw [if_neg (by omega)]
      have eL : knS 9 = (knL 9).tail := by unfold knS; rw [if_neg (by omega)]
      rw [eD, eL] at HP
      have hrd := Pool_read HP.out (by omega) 0 (by rw [writeD_n]; omega)
      rw [show ((0 : Nat) : Int) = 0 from rfl] at hrd
      have hnow : pageOf (writeD D0 0 (pgL (pgB 1 0))).now 0 = pgL (pgB 1 0) := by
        have := hok.now
        rw [hwl.writeNow, pageOf_onto (by omega) (by omega) (pgs_len _ _), if_pos rfl]
      have ht := (hwl.write 0 (pgL (pgB 1 0))).tells
      clear HP eD eL hwo
      go_wp2_with fail
      refine hrd.mono ?_
      clear hrd
      rintro x w6 ⟨hx, hp6, hc6⟩
      unfold ReadEnd at hx
      rw [if_pos ht, hnow] at hx
      obtain ⟨g, c, rfl, ho6⟩ := hx
      have HB6 : Hid (Below w.heap.size w w6) := HB.out.trans ((hc6.mono HB.out.size (fun _ _ e => e)).below HF.out)
      have hrow := (ho6.row' (pgs_bys 1 0)).2
      have hc0 := hrow.cells 0 (by rw [pgs_len]; omega)
      rw [kn_byte] at hc0
      have hre := Resident_any hp6
      rw [show (pgsP (knL 9).tail fitA).length = 8 by rw [pgsP_len]; rfl] at hre
      have HP6 : Hid (Pool w6 p d F' (readD (writeD D0 0 (pgL (pgB 1 0)))) 8 (knL 9).tail) := hp6
      have hcl : g < w6.heap.size := ho6.lt2.2
      clear ho6 hc6 hp6 hnow ht HB hrow
      go_wp2_with fail
      refine hre.mono ?_
      clear hre
      rintro x w7 ⟨a7, c7, rfl, _, hb7⟩
      have hc1 : w7.cell? ⟨g, 0, none⟩ = some (.int .u8 1) := (hb7.cell (p := ⟨g, 0, none⟩) hcl).trans hc0
      have hun := Unpin_any (HP6.out.below hb7) (by decide) 0 (by decide)
      rw [kn_unpin.1, kn_unpin.2] at hun
      have HB7 : Hid (Below w.heap.size w w7) := HB6.out.trans (hb7.mono HB6.out.size)
      clear hb7 HP6 hc0
      go_wp2_with fail
      refine hun.mono ?_
      clear hun
      rintro x w8 ⟨rfl, _, hc8⟩
      have HB8 : Hid (Below w.heap.size w w8) := HB7.out.trans ((hc8.mono HB7.out.size (fun _ _ e => e)).below HF.out)
      clear hc8
      go_wp2
      go_ret
      exact ⟨rfl, HB8.out⟩

/-! ### THE ROW's STEP: WRITTEN OUT: LEAVE IT -/
set_option maxRecDepth 100000 in
theorem lifted (os : Os) (started : os.Started) (H : Type) (enc : TypeId × Value → H) :
    ReturnsInHanded {} Try.checked os 3 .any (Rows.poolKnownSpec.pre6 enc Try.prog Try.f3 Rows.poolKnownRow.domain false) (Rows.poolKnownSpec.post enc Try.prog Try.f3 false true false false) := by
  refine returnsInHanded_of_change (C := Try.checked) own started (by kernel_rfl) Try.func3
    (ChangeSpec.witness6 (enc := enc) (C := Try.checked) false ⟨#[], #[], []⟩ 8 (by kernel_rfl) (by kernel_rfl) (by kernel_rfl) (by kernel_rfl)) ?_
  intro W base args ds gs before hval0 hW hcnd _
  have hval : ∀ (j : Nat) t v, Try.f3.params[j]? = some t → args[j]? = some v → Value.okWide Try.prog W .any base t v := hval0
  have hW' := hW
  obtain ⟨p, q, hA0, hV, rfl, hfz, hnd⟩ := hW
  have hA : DataW.TrodAll enc Try.prog W 0 (fun _ => true) true Try.f3.params.toList args.toList ds p := hA0
  rw [Try.params3] at hA hval
  obtain ⟨rfl, rfl, rfl⟩ := trodAll_none hA
  obtain ⟨rfl, rfl⟩ := trodVars_none hV
  clear hA0 hval0
  simp only [List.append_nil] at hW'
  refine (walk  W).mono fun e W' ⟨he, bel⟩ => ?_
  subst he
  exact ⟨_, rfl, _, _, _, [], [], [], hW', trodAll_mk1 (shut_bool Try.underlying4 _), trodAll_mk0, rfl, bel.frame _, fun h => by cases h⟩

theorem over : Rows.poolKnownRow.holds Try.pinned (OpenSpec.ofChange Rows.poolKnownSpec) :=
  OpenClaim.holds_of_wide 3 Try.f3 rfl rfl rfl rfl rfl rfl rfl ⟨rfl, rfl, rfl, rfl, rfl⟩ rfl rfl rfl rfl rfl (by kernel_rfl) Try.func3 (by kernel_rfl)
    (of_decide_eq_true (by kernel_rfl)) (by unfold Func.isWrapper; first | (rw [if_pos (by decide +kernel)]; kernel_rfl) | (rw [if_neg (by decide +kernel)]; exact ⟨rfl, rfl⟩))
    (fun os started H enc _ => lifted os started H enc)

/-- ████ THE STATEMENT ████ -/
theorem proved : Rows.PoolKnownSaid :=
  over
#print axioms proved
end Go.Proofs.Ytojckbhbnalkeaa.poolKnown
