/- The examples of chapter 5: the call returns true, and nothing that was there has turned. -/
import Derived.Test.YtanpgfmcgdofgaaRows
import Derived.Test.YtanpgfmcgdofgaaRows
import Derived.Test.YtanpgfmcgdofgaaGs
import Derived.WalkKit
import Derived.ProofKit
import Derived.OpenShut
import Derived.ShutString
namespace Go.Proofs.Ytanpgfmcgdofgaa.deviceKnown
open Go.ChangeShapes Go.WideShapes Go.ChangeAt Go.RowKit
open Go.Proofs.Ytanpgfmcgdofgaa.Oct
open Go.ChangeMaps (open_string shut_string)
set_option linter.unusedVariables false      -- a walk need not use every 'w<i>' (that an integer argument fits its kind)

theorem own : ownKnob Try.prog.godebug = none := by kernel_rfl

theorem wk_out : wk.out = [] := by rw [wk_eq]; rfl
theorem wk_fuse : wk.fuse = -1 := by rw [wk_eq]; rfl
theorem wk_ops : wk.ops = 1 := by rw [wk_eq]; rfl
theorem wk_dead : wk.dead = false := by rw [wk_eq]; rfl
def kn2 : Dv := outD wk [1]
def kn3 : Dv := syncD kn2
def kn4 : Dv := fuseD kn3 0
def kn5 : Dv := writeD kn4 3 ones
theorem kn2_says : saysD kn2 = 7 := by simp [saysD, kn2, outD, oc, wk_out, wk_fuse, wk_dead]
theorem kn3_eq : kn3 = opD kn2 := by simp [kn3, syncD, kn2, outD, oc, wk_out, wk_fuse, wk_dead]
theorem kn3_dead : kn3.dead = false := by rw [kn3_eq]; exact wk_dead
theorem kn4_eq : kn4 = { kn3 with fuse := 0 } := by simp [kn4, fuseD, kn3_dead]; omega
theorem kn4_dead : kn4.dead = false := by rw [kn4_eq]; exact kn3_dead
theorem kn4_fuse : kn4.fuse = 0 := by rw [kn4_eq]
theorem kn4_says : saysD kn4 = 7 := by simp [saysD, kn4_dead, kn4_fuse]
theorem kn5_eq : kn5 = wrD (dieD kn4) 3 ones := by simp [kn5, writeD, kn4_dead, kn4_fuse]
theorem kn5_dead : kn5.dead = true := by rw [kn5_eq]; rfl
theorem kn5_tells : tellsD kn5 = false := by simp [tellsD, kn5_dead]
theorem kn2_ops : kn2.ops = 1 := wk_ops
theorem kn4_ops : kn4.ops = 2 := by rw [kn4_eq, kn3_eq]; show kn2.ops + 1 = 2; rw [kn2_ops]
theorem kn5_ops : kn5.ops = 3 := by rw [kn5_eq]; show kn4.ops + 1 = 3; rw [kn4_ops]
theorem kn4_since : kn4.since = [(2, ones)] := by rw [kn4_eq, kn3_eq]; exact wk_since
theorem kn5_since : kn5.since = [(2, ones), (3, ones)] := by rw [kn5_eq]; simp only [wrD, dieD, kn4_since, List.cons_append, List.nil_append]
theorem kn5_sure : kn5.sure = List.replicate (8 * 256) 0 := by rw [kn5_eq]; simp only [wrD, dieD, kn4_eq, kn3_eq, opD, kn2, outD, wk_sure]
theorem kn5_page : pageOf (crashD kn5 []).now 3 = ones := by
  unfold crashD
  rw [kn5_since, kn5_sure]
  simp only [newD, List.length_cons, List.length_nil, Nat.zero_add, fallK, Nat.not_lt_zero, if_false, List.getD_cons_zero, List.getD_cons_succ]
  exact onto_page (by rw [onto_len, List.length_replicate]; omega) ones_len
theorem kn_len (c : List Int) : (crashD wk c).now.length = 8 * 256 := by rw [wk_fall, onto_len, List.length_replicate]
theorem kn_63 : (pageOf (crashD wk [1]).now 2).getD 63 0 = 1 := by
  rw [pageOf_at _ _ _ (by omega), wk_fall, onto_at _ _ _ _ _ (by rw [List.length_replicate]; omega), if_pos (by decide)]
  exact pgL_at _ _ (by omega)
theorem kn_64 : (pageOf (crashD wk [1]).now 2).getD 64 0 = 0 := by
  rw [pageOf_at _ _ _ (by omega), wk_fall, onto_at _ _ _ _ _ (by rw [List.length_replicate]; omega), if_neg (by decide), rep_at]

set_option maxRecDepth 20000 in
set_option maxHeartbeats 8000000 in
theorem walk  (w : World) :
    Calls Try.prog 3 #[] w fun e w' => e = .returned (.bool true) ∧ Below w.heap.size w w' := by
  go_enter Try.func3, Try.ntmps3
  go_wp2_with fail
  refine (awake_any w).mono ?_
  rintro e w1 ⟨rfl, hb1⟩
  have HB1 : Hid (Below w.heap.size w w1) := hb1
  clear hb1
  have hn := new_yes 8 w1 (by omega) (by omega)
  rw [show ((8 : Nat) : Int) = 8 from rfl] at hn
  go_wp2_with fail
  refine hn.mono ?_
  clear hn
  rintro e w2 ⟨p, F, rfl, hd2, hb2, hF⟩
  have HB2 : Hid (Below w.heap.size w w2) := HB1.out.trans (hb2.mono HB1.out.size)
  have HD2 : Hid (Dev w2 p F (newD (List.replicate (8 * 256) 0))) := hd2
  have HF : Hid (∀ k, F k → w.heap.size ≤ k) := fun k hk => Nat.le_trans HB1.out.size (hF k hk)
  clear hd2 hb2 hF HB1
  go_wp2_with fail
  refine (new_no 7 w2 (by decide)).mono ?_
  rintro e w3 ⟨rfl, rfl⟩
  go_wp2_with fail
  refine (ones_any w2).mono ?_
  rintro e w4 ⟨rfl, ho4, hb4⟩
  have hw := write_any (HD2.out.below hb4) (by simp [newD]) (by simp [newD]) 2 (by simp [newD]) _ _ ones (ho4.row' ones_bys).2 ones_len
  rw [newD_says, show ((2 : Nat) : Int) = 2 from rfl] at hw
  have HB4 : Hid (Below w.heap.size w w4) := HB2.out.trans (hb4.mono HB2.out.size)
  clear ho4 hb4 HD2 HB2
  go_wp2_with fail
  refine hw.mono ?_
  clear hw
  rintro e w5 ⟨rfl, F5, hd5, hst5⟩
  obtain ⟨hb5, hF5⟩ := hst5.below HB4.out.size HF.out
  have HB5 : Hid (Below w.heap.size w w5) := HB4.out.trans hb5
  have HF5 : Hid (∀ k, F5 k → w.heap.size ≤ k) := hF5
  have HD5 : Hid (Dev w5 p F5 wk) := hd5
  clear hd5 hst5 hb5 hF5 HB4 HF
  have hb6 : Below w5.heap.size w5 (w5.alloc (.cells #[.int .u8 1] 5)) := (Below.refl _ w5).alloc (Nat.le_refl _) _
  have hr6 := row_new w5 [1] 5 (bysOf (by decide)) (by simp [maxLen])
  have hcr := crash_any (HD5.out.below hb6) (by rw [wk_since]; simp) _ _ [1] hr6
  have HB6 : Hid (Below w5.heap.size w5 (w5.alloc (.cells #[.int .u8 1] 5))) := hb6
  clear hb6 hr6
  go_wp2_with fail
  refine hcr.mono ?_
  clear hcr
  rintro e w7 ⟨q7, F7, rfl, hd7, hb7, hF7⟩
  have hrd := read_any hd7 (by simp [crashD, newD]) 2 (by have := hd7.1.n8; omega)
  rw [show ((2 : Nat) : Int) = 2 from rfl] at hrd
  clear hd7
  go_wp2_with fail
  refine hrd.mono ?_
  clear hrd
  rintro e w8 ⟨hre, _, hch8⟩
  obtain ⟨ga, ca, rfl, hoa, hb8⟩ := crashRead hb7 hF7 hre (newD_tells _) hch8
  have HOA : Hid (Own w5.heap.size w8 (.slice (some ⟨ga, 0, none⟩) 256 ca) (pageOf (crashD wk [1]).now 2)) := owns_base hoa (fun k hk => by have := World.ownsRow.lt hoa k hk; simp at this; omega)
  have HB8 : Hid (Below w5.heap.size w5 w8) := HB6.out.trans (hb8.mono (by simp))
  clear hb7 hF7 hre hch8 hoa hb8 HB6
  have HD8 : Hid (Dev w8 p F5 wk) := HD5.out.below HB8.out
  have lga := HOA.out.lt2
  have hna : ¬ F5 ga := fun e => by have := HD5.out.2.1 ga e; omega
  have HNA : Hid (¬ F5 ga) := hna
  clear hna HD5
  have hb9 : Below w8.heap.size w8 (w8.alloc (.cells #[.int .u8 1] 5)) := (Below.refl _ w8).alloc (Nat.le_refl _) _
  have hr9 := row_new w8 [1] 5 (bysOf (by decide)) (by simp [maxLen])
  have hout := outcomes_any (HD8.out.below hb9) _ _ [1] hr9 (fun e => by cases e) (by rw [wk_out]; simp)
  have HB9 : Hid (Below w8.heap.size w8 (w8.alloc (.cells #[.int .u8 1] 5))) := hb9
  clear hb9 hr9 HD8
  go_wp2_with fail
  refine hout.mono ?_
  clear hout
  rintro e w10 ⟨rfl, F10, hd10, hst10⟩
  have s8 := HB8.out.size
  have s5 := HB5.out.size
  have hc10 : w10.heap[ga]? = w8.heap[ga]? := (hst10.1.block ga (by simp; omega) HNA.out).trans (HB9.out.block ga lga.2)
  have HOA10 : Hid (Own w5.heap.size w10 (.slice (some ⟨ga, 0, none⟩) 256 ca) (pageOf (crashD wk [1]).now 2)) := HOA.out.kept hc10
  obtain ⟨hb10, hF10⟩ := hst10.below (B := w.heap.size) (by simp; omega) HF5.out
  have HN10 : Hid (¬ F10 ga) := fun e => by rcases hst10.2 ga e with h | h; exact HNA.out h; simp at h; omega
  have HB10 : Hid (Below w.heap.size w w10) := ((HB5.out.trans (HB8.out.mono s5)).trans (HB9.out.mono (by omega))).trans hb10
  have HF10 : Hid (∀ k, F10 k → w.heap.size ≤ k) := hF10
  have HD10 : Hid (Dev w10 p F10 kn2) := hd10
  have l10 := HOA10.out.lt2
  clear hd10 hst10 hb10 hF10 HF5 HB9 HB8 HB5 HOA HNA hc10 lga s8 s5
  have hsy := sync_any HD10.out (by rw [kn2_ops]; omega)
  rw [kn2_says] at hsy
  go_wp2_with fail
  refine hsy.mono ?_
  clear hsy
  rintro e w11 ⟨rfl, hd11, hc11⟩
  have HD11 : Hid (Dev w11 p F10 kn3) := hd11
  have HO11 : Hid (Own w5.heap.size w11 (.slice (some ⟨ga, 0, none⟩) 256 ca) (pageOf (crashD wk [1]).now 2)) := HOA10.out.kept (hc11.block ga l10.2 HN10.out)
  have HB11 : Hid (Below w.heap.size w w11) := HB10.out.trans ((hc11.mono HB10.out.size (fun _ _ e => e)).below HF10.out)
  have l11 := HO11.out.lt2
  clear hd11 hc11 HD10 HOA10 HB10 l10
  have hfu := fuse_any HD11.out 0 (by omega) (by omega)
  go_wp2_with fail
  refine hfu.mono ?_
  clear hfu
  rintro e w12 ⟨rfl, hd12, hc12⟩
  have HD12 : Hid (Dev w12 p F10 kn4) := hd12
  have HO12 : Hid (Own w5.heap.size w12 (.slice (some ⟨ga, 0, none⟩) 256 ca) (pageOf (crashD wk [1]).now 2)) := HO11.out.kept (hc12.block ga l11.2 HN10.out)
  have HB12 : Hid (Below w.heap.size w w12) := HB11.out.trans ((hc12.mono HB11.out.size (fun _ _ e => e)).below HF10.out)
  have l12 := HO12.out.lt2
  clear hd12 hc12 HD11 HO11 HB11 l11
  go_wp2_with fail
  refine (ones_any w12).mono ?_
  rintro e w13 ⟨rfl, ho13, hb13⟩
  have hd13 := HD12.out.below hb13
  have hw := write_any hd13 (by rw [kn4_ops]; omega) (by rw [kn4_since]; simp) 3 (by have := hd13.1.n8; omega) _ _ ones (ho13.row' ones_bys).2 ones_len
  rw [kn4_says, show ((3 : Nat) : Int) = 3 from rfl] at hw
  have HO13 : Hid (Own w5.heap.size w13 (.slice (some ⟨ga, 0, none⟩) 256 ca) (pageOf (crashD wk [1]).now 2)) := HO12.out.kept (hb13.block ga l12.2)
  have HB13 : Hid (Below w.heap.size w w13) := HB12.out.trans (hb13.mono HB12.out.size)
  have l13 := HO13.out.lt2
  clear hd13 ho13 hb13 HD12 HO12 HB12 l12
  go_wp2_with fail
  refine hw.mono ?_
  clear hw
  rintro e w14 ⟨rfl, F14, hd14, hst14⟩
  have HO14 : Hid (Own w5.heap.size w14 (.slice (some ⟨ga, 0, none⟩) 256 ca) (pageOf (crashD wk [1]).now 2)) := HO13.out.kept (hst14.1.block ga l13.2 HN10.out)
  obtain ⟨hb14, hF14⟩ := hst14.below HB13.out.size HF10.out
  have HN14 : Hid (¬ F14 ga) := fun e => by rcases hst14.2 ga e with h | h; exact HN10.out h; omega
  have HB14 : Hid (Below w.heap.size w w14) := HB13.out.trans hb14
  have HF14 : Hid (∀ k, F14 k → w.heap.size ≤ k) := hF14
  have HD14 : Hid (Dev w14 p F14 kn5) := hd14
  have l14 := HO14.out.lt2
  clear hd14 hst14 hb14 hF14 HB13 HO13 HN10 HF10 l13
  have hrd := read_any HD14.out (by rw [kn5_ops]; omega) 3 (by have := HD14.out.1.n8; omega)
  rw [show ((3 : Nat) : Int) = 3 from rfl] at hrd
  go_wp2_with fail
  refine hrd.mono ?_
  clear hrd
  rintro e w15 ⟨hre, hd15, hc15⟩
  unfold ReadEnd at hre
  rw [if_neg (by rw [kn5_tells]; simp)] at hre
  subst hre
  rw [show readD kn5 = kn5 by simp [readD, kn5_dead]] at hd15
  have HO15 : Hid (Own w5.heap.size w15 (.slice (some ⟨ga, 0, none⟩) 256 ca) (pageOf (crashD wk [1]).now 2)) := HO14.out.kept (hc15.block ga l14.2 HN14.out)
  have HB15 : Hid (Below w.heap.size w w15) := HB14.out.trans ((hc15.mono HB14.out.size (fun _ _ e => e)).below HF14.out)
  have HD15 : Hid (Dev w15 p F14 kn5) := hd15
  have l15 := HO15.out.lt2
  clear hd15 hc15 HD14 HO14 HB14 l14
  have hcr := crash_any HD15.out (by rw [kn5_since]; simp) none 0 [] (row_nil w15)
  go_wp2_with fail
  refine hcr.mono ?_
  clear hcr
  rintro e w16 ⟨q16, F16, rfl, hd16, hb16, hF16⟩
  have hrd := read_any hd16 (by simp [crashD, newD]) 3 (by have := hd16.1.n8; omega)
  rw [show ((3 : Nat) : Int) = 3 from rfl] at hrd
  clear hd16
  go_wp2_with fail
  refine hrd.mono ?_
  clear hrd
  rintro e w17 ⟨hre, _, hch17⟩
  obtain ⟨gb, cb, rfl, hob, hb17⟩ := crashRead hb16 hF16 hre (newD_tells _) hch17
  rw [kn5_page] at hob
  have HO17 : Hid (Own w5.heap.size w17 (.slice (some ⟨ga, 0, none⟩) 256 ca) (pageOf (crashD wk [1]).now 2)) := HO15.out.kept (hb17.block ga l15.2)
  have HB17 : Hid (Below w.heap.size w w17) := HB15.out.trans (hb17.mono HB15.out.size)
  have HOB : Hid (Own w15.heap.size w17 (.slice (some ⟨gb, 0, none⟩) 256 cb) ones) := hob
  have hdead := dead_any (HD15.out.below hb17)
  rw [kn5_dead] at hdead
  have hpl : (pageOf (crashD wk [1]).now 2).length = 256 := pageOf_len (by rw [kn_len]; omega)
  have a63 := (own_at' HO17.out 63 (by omega)).2.1
  have a64 := (own_at' HO17.out 64 (by omega)).2.1
  rw [kn_63] at a63
  rw [kn_64] at a64
  clear hob hb16 hF16 hre hch17 hb17 HD15 HO15 HB15 l15 hpl HN14 HF14
  go_wp2_with fail
  refine hdead.mono ?_
  clear hdead
  rintro e w18 ⟨rfl, rfl⟩
  go_wp2_with fail
  refine (ones_any w17).mono ?_
  rintro e w19 ⟨rfl, ho19, hb19⟩
  have hsm := same_any _ _ _ _ ones ones w19 (HOB.out.rowB ones_bys hb19) (ho19.row' ones_bys).2
  rw [ones_len, show sameB ones ones = true by simp [sameB]] at hsm
  have HB19 : Hid (Below w.heap.size w w19) := HB17.out.trans (hb19.mono HB17.out.size)
  clear ho19 hb19
  go_wp2_with fail
  refine hsm.mono ?_
  rintro e w20 ⟨rfl, hb20⟩
  have HB20 : Hid (Below w.heap.size w w20) := HB19.out.trans (hb20.mono HB19.out.size)
  clear hsm hb20
  go_wp2
  go_ret
  exact ⟨rfl, HB20.out⟩

/-! ### THE ROW's STEP: WRITTEN OUT: LEAVE IT -/
set_option maxRecDepth 100000 in
theorem lifted (os : Os) (started : os.Started) (H : Type) (enc : TypeId × Value → H) :
    ReturnsInHanded {} Try.checked os 3 .any (Rows.deviceKnownSpec.pre6 enc Try.prog Try.f3 Rows.deviceKnownRow.domain false) (Rows.deviceKnownSpec.post enc Try.prog Try.f3 false true false false) := by
  refine returnsInHanded_of_change (C := Try.checked) own started (by kernel_rfl) Try.func3
    (ChangeSpec.witness6 (enc := enc) (C := Try.checked) false ⟨#[], #[], []⟩ 8 (by kernel_rfl) (by kernel_rfl) (by kernel_rfl) (by kernel_rfl)) ?_
  intro W base args ds gs before hval0 hW hcnd _
  have hval : ∀ (j : Nat) t v, Try.f3.params[j]? = some t → args[j]? = some v → Value.okWide Try.prog W .any base t v := hval0
  have hW' := hW
  obtain ⟨p, q, hA0, hV, rfl, hfz, hnd⟩ := hW
  have hA : DataW.TrodAll enc Try.prog W 0 (fun _ => true) true Try.f3.params.toList args.toList ds p := hA0
  rw [Try.params3] at hA hval
  obtain ⟨rfl, rfl, rfl⟩ := trodAll_none hA
  obtain ⟨rfl, rfl⟩ := trodVars_none hV
  clear hA0 hval0
  simp only [List.append_nil] at hW'
  refine (walk  W).mono fun e W' ⟨he, bel⟩ => ?_
  subst he
  exact ⟨_, rfl, _, _, _, [], [], [], hW', trodAll_mk1 (shut_bool Try.underlying4 _), trodAll_mk0, rfl, bel.frame _, fun h => by cases h⟩

theorem over : Rows.deviceKnownRow.holds Try.pinned (OpenSpec.ofChange Rows.deviceKnownSpec) :=
  OpenClaim.holds_of_wide 3 Try.f3 rfl rfl rfl rfl rfl rfl rfl ⟨rfl, rfl, rfl, rfl, rfl⟩ rfl rfl rfl rfl rfl (by kernel_rfl) Try.func3 (by kernel_rfl)
    (of_decide_eq_true (by kernel_rfl)) (by unfold Func.isWrapper; first | (rw [if_pos (by decide +kernel)]; kernel_rfl) | (rw [if_neg (by decide +kernel)]; exact ⟨rfl, rfl⟩))
    (fun os started H enc _ => lifted os started H enc)

/-- ████ THE STATEMENT ████ -/
theorem proved : Rows.DeviceKnownSaid :=
  over
#print axioms proved
end Go.Proofs.Ytanpgfmcgdofgaa.deviceKnown
