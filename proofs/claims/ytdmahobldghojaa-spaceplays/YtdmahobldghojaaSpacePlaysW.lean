/- The walk: Whatever is taken, given up, committed, doubted, aborted and cloned: each answer and each page are as the document asks. -/
import Derived.Test.YtdmahobldghojaaSi
import Derived.WalkKit
import Derived.Deep.CutBlock
import Derived.Deep.DeepCutAuto
import Derived.Deep.RegionLawGrows
import Derived.Deep.RegionHeld3
import Derived.ProofKit
import Derived.OpenShut
import Derived.ShutString
import Derived.ChangeOld
import Derived.Below
namespace Go.Proofs.Ytdmahobldghojaa.spacePlays
open Go.ChangeShapes Go.WideShapes Go.ChangeAt Go.RowKit
open Go.Proofs.Ytdmahobldghojaa.Oct
set_option linter.unusedVariables false


set_option maxHeartbeats 16000000 in
set_option maxRecDepth 100000 in
theorem walk {Sp : World → Nat → (Nat → Prop) → List Int → Prop} (X : SpC Sp) (a0 : Int) (a1 : Option Addr) (cap1 : Nat) (l1 : List D2) (w : World) (w0 : -9223372036854775808 ≤ a0 ∧ a0 ≤ 9223372036854775807) (w1 : IsD2 w a1 cap1 l1) :
    Calls Try.prog 4 #[.int .i64 a0, .slice a1 l1.length cap1] w fun e w' => e = .returned (.bool true) ∧ Below w.heap.size w w' := by
  have HL : Hid (IsD2 w a1 cap1 l1) := w1
  clear w1
  go_enter Try.func4, Try.ntmps4
  go_wp2_with fail
  refine (awake10 X w).mono ?_
  rintro x w1 ⟨rfl, hb1⟩
  have HB1 : Hid (Below w.heap.size w w1) := hb1
  have hlen0 : l1.length ≤ maxLen := Nat.le_trans HL.out.1 HL.out.2.1
  unfold maxLen at hlen0
  clear hb1
  by_cases hbig : 100 < a0
  · go_wp2
    go_ret
    exact ⟨rfl, HB1.out⟩
  by_cases hlen : 300 < l1.length
  · go_wp2
    go_ret
    exact ⟨rfl, HB1.out⟩
  clear hlen0
  by_cases hpg : 8 ≤ a0
  rotate_left
  · have hn := X.new_no a0 w1 w0 (by omega)
    go_wp2_with fail
    refine hn.mono ?_
    clear hn
    rintro x w2 ⟨rfl, hb2⟩
    have HB2 : Hid (Below w.heap.size w w2) := HB1.out.trans (hb2.mono HB1.out.size)
    have hr := rNewSpace_no a0 w2 (by omega)
    clear hb2
    go_wp2_with fail
    refine hr.mono ?_
    clear hr
    rintro x w3 ⟨rfl, rfl⟩
    go_wp2
    go_ret
    exact ⟨rfl, HB2.out⟩
  obtain ⟨N, rfl⟩ := Int.eq_ofNat_of_zero_le (show 0 ≤ a0 by omega)
  have h8 : 8 ≤ N := by omega
  have h1 : N ≤ 100 := by omega
  have hn := X.new_yes N w1 h8 (by omega)
  clear w0 hbig hpg
  go_wp2_with fail
  refine hn.mono ?_
  clear hn
  rintro x w2 ⟨s, F, rfl, h2, hb2, hF2⟩
  have hr := rNewSpace_yes N w2 h8 (by omega)
  have HB2 : Hid (Below w.heap.size w w2) := HB1.out.trans (hb2.mono HB1.out.size)
  have H2 : Hid (Sp w2 s F (newS N)) := h2
  have HF2 : Hid (∀ k, F k → w.heap.size ≤ k) := fun k hk => Nat.le_trans HB1.out.size (hF2 k hk)
  clear h2 hb2 hF2 HB1
  go_wp2_with fail
  refine hr.mono ?_
  clear hr
  rintro x w3 ⟨m, G, rfl, h3, hb3, hG3⟩
  have HQ : Hid (∃ F G S, S.length = N ∧ Qs Sp w w3 s m F G S) := ⟨F, G, newS N, newS_len N, X.below H2.out hb3, h3, HF2.out, fun k hk => Nat.le_trans HB2.out.size (hG3 k hk), fun k hf hg => by have := X.lt H2.out k hf; have := hG3 k hg; omega, HB2.out.trans (hb3.mono HB2.out.size)⟩
  clear h3 hb3 hG3 H2 HB2 HF2
  go_wp2_with fail
  go_loopw [5, 9] (fun sv i wr => ∃ (k : Nat) (s : Nat), k ≤ l1.length ∧ sv = .pointer (some ⟨s, 0, none⟩) ∧ i = .int .i64 k ∧ ∃ F G S, S.length = N ∧ Qs Sp w wr s m F G S) (fun _ i _ => l1.length - (intOf i).toNat)
  case atStart =>
    obtain ⟨F, G, S, h⟩ := HQ.out
    exact ⟨0, s, Nat.zero_le _, rfl, rfl, _, _, _, h⟩
  case round =>
    clear HQ
    obtain ⟨k, s, hk, rfl, rfl, F, G, S, hS, hP⟩ := hrel
    by_cases hlt : k < l1.length
    · obtain ⟨bb, off, rfl, hde⟩ := HL.out.at k hlt
      obtain ⟨dd, hdd⟩ : ∃ dd, l1.getD k noD2 = dd := ⟨_, rfl⟩
      rw [hdd] at hde
      obtain ⟨x0, x1, ⟨u1, u2⟩, ⟨v1, v2⟩⟩ := hde.below hP.bel
      obtain ⟨o, ho⟩ : ∃ o, dd.do' = o := ⟨_, rfl⟩
      obtain ⟨pg, hpg⟩ : ∃ pg, dd.page = pg := ⟨_, rfl⟩
      rw [ho] at x0 u1 u2
      rw [hpg] at x1 v1 v2
      clear ho hpg hdd hde
      have hb5 : Below wr.heap.size wr (wr.alloc (.cells #[.int .i64 o, .int .i64 pg] 36)) := (Below.refl _ wr).alloc (Nat.le_refl _) _
      have HP5 : Hid (Qs Sp w (wr.alloc (.cells #[.int .i64 o, .int .i64 pg] 36)) s m F G S) := hP.below X hb5
      obtain ⟨ab, hab⟩ : ∃ ab, wr.heap.size = ab := ⟨_, rfl⟩
      have hn5 := heap_alloc_new wr (.cells #[.int .i64 o, .int .i64 pg] 36)
      rw [hab] at hn5
      have HNF : Hid (¬ F ab) := fun e => by have := X.lt hP.a ab e; omega
      have HNG : Hid (¬ G ab) := fun e => by have := hP.b.lt ab e; omega
      obtain ⟨wd, hwd⟩ : ∃ wd, wr.alloc (.cells #[.int .i64 o, .int .i64 pg] 36) = wd := ⟨_, rfl⟩
      rw [hwd] at HP5 hn5
      have m0 : wd.cell? ⟨ab, 0, none⟩ = some (.int .i64 o) := by rw [cell_of_row wd ab 0 _ _ (0, 0) hn5]; rfl
      have m1 : wd.cell? ⟨ab, 1, none⟩ = some (.int .i64 pg) := by rw [cell_of_row wd ab 1 _ _ (0, 0) hn5]; rfl
      have lab : ab < wd.heap.size := heap_lt hn5
      clear hb5 hP hn5
      go_upto_block 2 with fail
      go_cut [5, 11] (fun s5 s11 wx => ∃ s F G S, s5 = .pointer (some ⟨s, 0, none⟩) ∧ s11 = .bool true ∧ S.length = N ∧ Qs Sp w wx s m F G S ∧ wx.cell? ⟨ab, 1, none⟩ = some (.int .i64 pg))
      case first =>
        by_cases h4d : o ≤ 4
        · have hu := X.alloc HP5.out.a
          obtain ⟨na, hna⟩ : ∃ na, alN S = na := ⟨_, rfl⟩
          obtain ⟨ea, hea⟩ : ∃ ea, alE S = ea := ⟨_, rfl⟩
          rw [hna, hea] at hu
          go_wp2_with fail
          refine hu.mono ?_
          clear hu
          rintro x w6 ⟨rfl, F6, h6, st6⟩
          have hr := rAlloc_any (HP5.out.mid st6)
          rw [hna, hea] at hr
          clear hna hea
          have m1' := (st6.1.cell (p := ⟨ab, 1, none⟩) lab HNF.out).trans m1
          have lab' : ab < w6.heap.size := Nat.lt_of_lt_of_le lab st6.1.size
          have H6 : Hid _ := h6
          have HS6 : Hid _ := st6
          clear h6 st6 m0 m1
          go_wp2_with fail
          refine hr.mono ?_
          clear hr
          rintro x w7 ⟨rfl, h7, hc7⟩
          have HPz : Hid (Qs Sp w w7 s m F6 G (alL S)) := HP5.out.both X H6.out HS6.out h7 hc7
          have HS : Hid ((alL S).length = N) := (alL_len S).trans hS
          have HC : Hid (w7.cell? ⟨ab, 1, none⟩ = some (.int .i64 pg)) := (hc7.cell (p := ⟨ab, 1, none⟩) lab' HNG.out).trans m1'
          clear h7 hc7
          go_wp2
          go_meet
          exact ⟨_, _, _, _, rfl, by first | rfl | simp, HS.out, HPz.out, HC.out⟩
        by_cases h8d : o ≤ 8
        · have hu := X.give HP5.out.a pg ⟨v1, v2⟩
          obtain ⟨ea, hea⟩ : ∃ ea, gvE S pg = ea := ⟨_, rfl⟩
          rw [hea] at hu
          go_wp2_with fail
          refine hu.mono ?_
          clear hu
          rintro x w6 ⟨rfl, F6, h6, st6⟩
          have hr := rGive_any (HP5.out.mid st6) pg
          rw [hea] at hr
          clear hea
          have m1' := (st6.1.cell (p := ⟨ab, 1, none⟩) lab HNF.out).trans m1
          have lab' : ab < w6.heap.size := Nat.lt_of_lt_of_le lab st6.1.size
          have H6 : Hid _ := h6
          have HS6 : Hid _ := st6
          clear h6 st6 m0 m1
          go_wp2_with fail
          refine hr.mono ?_
          clear hr
          rintro x w7 ⟨rfl, h7, hc7⟩
          have HPz : Hid (Qs Sp w w7 s m F6 G (gvL S pg)) := HP5.out.both X H6.out HS6.out h7 hc7
          have HS : Hid ((gvL S pg).length = N) := (gvL_len S pg).trans hS
          have HC : Hid (w7.cell? ⟨ab, 1, none⟩ = some (.int .i64 pg)) := (hc7.cell (p := ⟨ab, 1, none⟩) lab' HNG.out).trans m1'
          clear h7 hc7
          go_wp2
          go_meet
          exact ⟨_, _, _, _, rfl, by first | rfl | simp, HS.out, HPz.out, HC.out⟩
        by_cases h9d : o = 9
        · subst h9d
          have hu := X.commit HP5.out.a
          go_wp2_with fail
          refine hu.mono ?_
          clear hu
          rintro x w6 ⟨rfl, F6, h6, st6⟩
          have hr := rCommit_any (HP5.out.mid st6)
          have m1' := (st6.1.cell (p := ⟨ab, 1, none⟩) lab HNF.out).trans m1
          have lab' : ab < w6.heap.size := Nat.lt_of_lt_of_le lab st6.1.size
          have H6 : Hid _ := h6
          have HS6 : Hid _ := st6
          clear h6 st6 m0 m1
          go_wp2_with fail
          refine hr.mono ?_
          clear hr
          rintro x w7 ⟨rfl, h7, hc7⟩
          have HPz : Hid (Qs Sp w w7 s m F6 G (trS 1 0 S)) := HP5.out.both X H6.out HS6.out h7 hc7
          have HS : Hid ((trS 1 0 S).length = N) := (trS_len 1 0 S).trans hS
          have HC : Hid (w7.cell? ⟨ab, 1, none⟩ = some (.int .i64 pg)) := (hc7.cell (p := ⟨ab, 1, none⟩) lab' HNG.out).trans m1'
          clear h7 hc7
          go_wp2
          go_meet
          exact ⟨_, _, _, _, rfl, by first | rfl | simp, HS.out, HPz.out, HC.out⟩
        by_cases h10d : o = 10
        · subst h10d
          have hu := X.doubt HP5.out.a
          go_wp2_with fail
          refine hu.mono ?_
          clear hu
          rintro x w6 ⟨rfl, F6, h6, st6⟩
          have hr := rDoubt_any (HP5.out.mid st6)
          have m1' := (st6.1.cell (p := ⟨ab, 1, none⟩) lab HNF.out).trans m1
          have lab' : ab < w6.heap.size := Nat.lt_of_lt_of_le lab st6.1.size
          have H6 : Hid _ := h6
          have HS6 : Hid _ := st6
          clear h6 st6 m0 m1
          go_wp2_with fail
          refine hr.mono ?_
          clear hr
          rintro x w7 ⟨rfl, h7, hc7⟩
          have HPz : Hid (Qs Sp w w7 s m F6 G (trS 1 3 S)) := HP5.out.both X H6.out HS6.out h7 hc7
          have HS : Hid ((trS 1 3 S).length = N) := (trS_len 1 3 S).trans hS
          have HC : Hid (w7.cell? ⟨ab, 1, none⟩ = some (.int .i64 pg)) := (hc7.cell (p := ⟨ab, 1, none⟩) lab' HNG.out).trans m1'
          clear h7 hc7
          go_wp2
          go_meet
          exact ⟨_, _, _, _, rfl, by first | rfl | simp, HS.out, HPz.out, HC.out⟩
        by_cases h11d : o = 11
        · subst h11d
          have hu := X.abort HP5.out.a
          go_wp2_with fail
          refine hu.mono ?_
          clear hu
          rintro x w6 ⟨rfl, F6, h6, st6⟩
          have hr := rAbort_any (HP5.out.mid st6)
          have m1' := (st6.1.cell (p := ⟨ab, 1, none⟩) lab HNF.out).trans m1
          have lab' : ab < w6.heap.size := Nat.lt_of_lt_of_le lab st6.1.size
          have H6 : Hid _ := h6
          have HS6 : Hid _ := st6
          clear h6 st6 m0 m1
          go_wp2_with fail
          refine hr.mono ?_
          clear hr
          rintro x w7 ⟨rfl, h7, hc7⟩
          have HPz : Hid (Qs Sp w w7 s m F6 G (trS 0 1 S)) := HP5.out.both X H6.out HS6.out h7 hc7
          have HS : Hid ((trS 0 1 S).length = N) := (trS_len 0 1 S).trans hS
          have HC : Hid (w7.cell? ⟨ab, 1, none⟩ = some (.int .i64 pg)) := (hc7.cell (p := ⟨ab, 1, none⟩) lab' HNG.out).trans m1'
          clear h7 hc7
          go_wp2
          go_meet
          exact ⟨_, _, _, _, rfl, by first | rfl | simp, HS.out, HPz.out, HC.out⟩
        have e9 : (o == 9) = false := by simp; omega
        have e10 : (o == 10) = false := by simp; omega
        have e11 : (o == 11) = false := by simp; omega
        have hge : 12 ≤ o := by omega
        have hu := X.clone HP5.out.a
        clear h4d h8d h9d h10d h11d
        go_wp2_with fail
        refine hu.mono ?_
        clear hu
        rintro x w6 ⟨s', F', rfl, h6, hb6, l6⟩
        have ha := X.alloc (X.below HP5.out.a hb6)
        have m1' := (hb6.cell (p := ⟨ab, 1, none⟩) lab).trans m1
        have lab' : ab < w6.heap.size := Nat.lt_of_lt_of_le lab hb6.size
        have H6 : Hid _ := h6
        have HB6 : Hid _ := hb6
        have HL6 : Hid _ := l6
        clear h6 hb6 l6 m0 m1
        go_wp2_with fail
        refine ha.mono ?_
        clear ha
        rintro x w7 ⟨rfl, F7, h7, st7⟩
        have hcm := X.commit h7
        have m1'' := (st7.1.cell (p := ⟨ab, 1, none⟩) lab' HNF.out).trans m1'
        have lab'' : ab < w7.heap.size := Nat.lt_of_lt_of_le lab' st7.1.size
        have HNF7 : Hid (¬ F7 ab) := fun e => by
          rcases st7.2 ab e with e | e
          · exact HNF.out e
          · omega
        have HS7 : Hid _ := st7
        clear h7 st7 m1'
        go_wp2_with fail
        refine hcm.mono ?_
        clear hcm
        rintro x w8 ⟨rfl, F8, h8', st8⟩
        have HPz : Hid (Qs Sp w w8 s' m F' G S) := HP5.out.cloned X H6.out HB6.out HL6.out HS7.out st8
        have HS : Hid (S.length = N) := hS
        have HC : Hid (w8.cell? ⟨ab, 1, none⟩ = some (.int .i64 pg)) := (st8.1.cell (p := ⟨ab, 1, none⟩) lab'' HNF7.out).trans m1''
        clear h8' st8 m1''
        go_wp2
        go_meet
        exact ⟨_, _, _, _, rfl, by first | rfl | simp, HS.out, HPz.out, HC.out⟩
      case rest =>
        obtain ⟨s, F, G, S, rfl, rfl, hS, hPz, hc⟩ := hcut
        have HPz : Hid (Qs Sp w wc s m F G S) := hPz
        have HPzd : Hid (Qs Sp w wc.drew s m F G S) := hPz.below X ⟨rfl, rfl, rfl, Nat.le_refl _, fun _ _ => rfl⟩
        have HCzd : Hid (wc.drew.cell? ⟨ab, 1, none⟩ = some (.int .i64 pg)) := hc
        have LABzd : Hid (ab < wc.drew.heap.size) := block_lt_of_cell hc
        have HS : Hid (S.length = N) := hS
        have HV : Hid (-9223372036854775808 ≤ pg ∧ pg ≤ 9223372036854775807) := ⟨v1, v2⟩
        obtain ⟨cn, hcn⟩ : ∃ cn, S.count 0 = cn := ⟨_, rfl⟩
        have HCN : Hid (S.count 0 = cn) := hcn
        obtain ⟨iz, hiz⟩ : ∃ iz, isB S pg 2 = iz := ⟨_, rfl⟩
        have HIS : Hid (isB S pg 2 = iz) := hiz
        obtain ⟨nb, hnb⟩ : ∃ nb, (S.length + 7) / 8 = nb := ⟨_, rfl⟩
        have HNB : Hid ((S.length + 7) / 8 = nb) := hnb
        have HBL : Hid ((bitL S).length = nb) := (bitL_len S).trans hnb
        have tok1 : True := trivial
        clear hPz hcn hiz hnb
        by_cases p0 : 0 ≤ pg
        · by_cases p1 : pg < (N : Int)
          · obtain ⟨i0, hi0⟩ : ∃ i0, isB S pg 0 = i0 := ⟨_, rfl⟩
            have HI0 : Hid (isB S pg 0 = i0) := hi0
            have HUS : Hid ((inB S pg && !isB S pg 0) = !i0) := by show _ = _; unfold inB; rw [hi0, decide_eq_true p0, decide_eq_true (p := pg < (S.length : Int)) (by omega)]; rfl
            clear hi0 hS
            go_wp2_with fail
            go_region_held3 (fun w' => w'.cell? ⟨ab, 1, none⟩ = some (.int .i64 pg)) (first | go_keep | assumption) (first | (go_at_call 13; refine (X.free HPzd.out.a).mono ?_; rintro e wa ⟨rfl, hba⟩; have HPwa : Hid (Qs Sp w wa s m F G S) := HPzd.out.below X hba; have c1wa : wa.cell? ⟨ab, 1, none⟩ = some (.int .i64 pg) := (hba.cell (p := ⟨ab, 1, none⟩) LABzd.out).trans HCzd.out; have HCwa : Hid (wa.cell? ⟨ab, 1, none⟩ = some (.int .i64 pg)) := c1wa; have LABwa : Hid (ab < wa.heap.size) := Nat.lt_of_lt_of_le LABzd.out (hba.size); rw [HCN.out]; clear hba) | (go_at_call 23; refine (rCount_any HPwa.out.b 0).mono ?_; rintro e wa2 ⟨rfl, rfl⟩; rw [HCN.out]) | (go_at_call 24; refine (X.own HPwa.out.a pg HV.out).mono ?_; rintro e wb ⟨rfl, hbb⟩; have HPwb : Hid (Qs Sp w wb s m F G S) := HPwa.out.below X hbb; have c1wb : wb.cell? ⟨ab, 1, none⟩ = some (.int .i64 pg) := (hbb.cell (p := ⟨ab, 1, none⟩) LABwa.out).trans HCwa.out; have HCwb : Hid (wb.cell? ⟨ab, 1, none⟩ = some (.int .i64 pg)) := c1wb; have LABwb : Hid (ab < wb.heap.size) := Nat.lt_of_lt_of_le LABwa.out (hbb.size); rw [HIS.out]; clear hbb) | (go_at_call 25; have _t := tok1; clear tok1; refine (rIs_any HPwb.out.b pg 2).mono ?_; rintro e wb2 ⟨rfl, rfl⟩; rw [HIS.out]) | (go_at_call 26; refine (X.used HPwb.out.a pg HV.out).mono ?_; rintro e wd' ⟨rfl, hbd⟩; have HPwd' : Hid (Qs Sp w wd' s m F G S) := HPwb.out.below X hbd; have c1wd' : wd'.cell? ⟨ab, 1, none⟩ = some (.int .i64 pg) := (hbd.cell (p := ⟨ab, 1, none⟩) LABwb.out).trans HCwb.out; have HCwd' : Hid (wd'.cell? ⟨ab, 1, none⟩ = some (.int .i64 pg)) := c1wd'; have LABwd' : Hid (ab < wd'.heap.size) := Nat.lt_of_lt_of_le LABwb.out (hbd.size); rw [HUS.out]; clear hbd) | (go_at_call 25; refine (rIs_any HPwd'.out.b pg 0).mono ?_; rintro e wb3 ⟨rfl, rfl⟩; rw [HI0.out]) | (go_at_call 28; refine (X.bits HPwd'.out.a).mono ?_; rintro e wi ⟨gi, ci, rfl, hoi, hbi⟩; rw [HNB.out] at hoi ⊢; have HOI : Hid (Own 0 wi (.slice (some ⟨gi, 0, none⟩) nb ci) (bitL S)) := hoi.zero; have HPwi : Hid (Qs Sp w wi s m F G S) := HPwd'.out.below X hbi; have c1wi : wi.cell? ⟨ab, 1, none⟩ = some (.int .i64 pg) := (hbi.cell (p := ⟨ab, 1, none⟩) LABwd'.out).trans HCwd'.out; have HCwi : Hid (wi.cell? ⟨ab, 1, none⟩ = some (.int .i64 pg)) := c1wi; have LABwi : Hid (ab < wi.heap.size) := Nat.lt_of_lt_of_le LABwd'.out (hbi.size); clear hoi hbi) | (go_at_call 29; refine (rBits_any HPwi.out.b).mono ?_; rintro e wj ⟨gj, cj, rfl, hoj, hbj⟩; rw [HNB.out] at hoj ⊢; have HOJ : Hid (Own 0 wj (.slice (some ⟨gj, 0, none⟩) nb cj) (bitL S)) := hoj.zero; have HOI2 : Hid (Own 0 wj (.slice (some ⟨gi, 0, none⟩) nb ci) (bitL S)) := own_kpb HOI.out hbj; have HPwj : Hid (Qs Sp w wj s m F G S) := HPwi.out.below X hbj; have c1wj : wj.cell? ⟨ab, 1, none⟩ = some (.int .i64 pg) := (hbj.cell (p := ⟨ab, 1, none⟩) LABwi.out).trans HCwi.out; have HCwj : Hid (wj.cell? ⟨ab, 1, none⟩ = some (.int .i64 pg)) := c1wj; have LABwj : Hid (ab < wj.heap.size) := Nat.lt_of_lt_of_le LABwi.out (hbj.size); clear hoj hbj) | (go_at_call 27; refine (same_g HOI2.out HOJ.out (bitL_bys S) HBL.out).mono ?_; rintro e wk ⟨rfl, hbk⟩; have HPwk : Hid (Qs Sp w wk s m F G S) := HPwj.out.below X hbk; have c1wk : wk.cell? ⟨ab, 1, none⟩ = some (.int .i64 pg) := (hbk.cell (p := ⟨ab, 1, none⟩) LABwj.out).trans HCwj.out; have HCwk : Hid (wk.cell? ⟨ab, 1, none⟩ = some (.int .i64 pg)) := c1wk; have LABwk : Hid (ab < wk.heap.size) := Nat.lt_of_lt_of_le LABwj.out (hbk.size); clear hbk))
            go_wp2
            go_roundw
            case rel => exact ⟨k + 1, _, by omega, rfl, by go_num, _, _, _, HS.out, HPwk.out⟩
            case measure => simp [intOf]; omega
          · have HUS : Hid ((inB S pg && !isB S pg 0) = false) := by show _ = _; unfold inB; rw [decide_eq_false (p := pg < (S.length : Int)) (by omega)]; simp
            have q1 : (pg < (N : Int)) = False := eq_false p1
            clear hS p1
            go_wp2_with fail
            refine wp_region_held_drew (S := (fun w' => w'.cell? ⟨ab, 1, none⟩ = some (.int .i64 pg))) (by kernel_rfl) ?_ (fun hHeld => ?_)
            · (first | go_keep | assumption)
            refine wpAnyH_take (i := 0) (v := ?_) rfl (by kernel_rfl) (by kernel_rfl) (by kernel_rfl) (fun _ _ _ h => h) (Or.inl ⟨by rfl, ?_⟩) (by assumption) ?_
            rotate_left
            · (first | (intro w hSw; (try dsimp only at hSw); go_simp; done) | (intro w hSw; (try dsimp only at hSw); go_simp; with_reducible rfl))
            simp only [List.getElem_toArray, List.getElem_cons_zero, Act.put, List.setIfInBounds_toArray, List.set_cons_zero, List.set_cons_succ]
            refine wpAnyH_take (i := 1) (v := ?_) rfl (by kernel_rfl) (by kernel_rfl) (by kernel_rfl) (fun _ _ _ h => h) (Or.inl ⟨by rfl, ?_⟩) (by assumption) ?_
            rotate_left
            · (first | (intro w hSw; (try dsimp only at hSw); go_simp; done) | (intro w hSw; (try dsimp only at hSw); go_simp; with_reducible rfl))
            simp only [List.getElem_toArray, List.getElem_cons_succ, List.getElem_cons_zero, Act.put, List.setIfInBounds_toArray, List.set_cons_zero, List.set_cons_succ]
            refine wpAnyH_take (i := 2) (v := ?_) rfl (by kernel_rfl) (by kernel_rfl) (by kernel_rfl) (fun _ _ _ h => h) (Or.inl ⟨by rfl, ?_⟩) (by assumption) ?_
            rotate_left
            · (first | (intro w hSw; (try dsimp only at hSw); go_simp; done) | (intro w hSw; (try dsimp only at hSw); go_simp; with_reducible rfl))
            simp only [List.getElem_toArray, List.getElem_cons_succ, List.getElem_cons_zero, Act.put, List.setIfInBounds_toArray, List.set_cons_zero, List.set_cons_succ]
            refine wpAnyH_take (i := 3) (v := ?_) rfl (by kernel_rfl) (by kernel_rfl) (by kernel_rfl) (fun _ _ _ h => h) (Or.inl ⟨by rfl, ?_⟩) (by assumption) ?_
            rotate_left
            · (first | (intro w hSw; (try dsimp only at hSw); go_simp; done) | (intro w hSw; (try dsimp only at hSw); go_simp; with_reducible rfl))
            simp only [List.getElem_toArray, List.getElem_cons_succ, List.getElem_cons_zero, Act.put, List.setIfInBounds_toArray, List.set_cons_zero, List.set_cons_succ]
            refine wpAnyH_take (i := 5) (v := ?_) rfl (by kernel_rfl) (by kernel_rfl) (by kernel_rfl) (fun _ _ _ h => h) (Or.inl ⟨by rfl, ?_⟩) (by assumption) ?_
            rotate_left
            · (first | (intro w hSw; (try dsimp only at hSw); go_simp; done) | (intro w hSw; (try dsimp only at hSw); go_simp; with_reducible rfl))
            simp only [List.getElem_toArray, List.getElem_cons_succ, List.getElem_cons_zero, Act.put, List.setIfInBounds_toArray, List.set_cons_zero, List.set_cons_succ]
            refine wpAnyH_ready (rs := [4]) (by kernel_rfl) (by simp) ?_
            refine AllReadyH.cons rfl (fun K hK => ?_) AllReadyH.nil
            go_simp
            (refine (X.free HPzd.out.a).mono ?_; rintro e wa ⟨rfl, hba⟩; have HPwa : Hid (Qs Sp w wa s m F G S) := HPzd.out.below X hba; have c1wa : wa.cell? ⟨ab, 1, none⟩ = some (.int .i64 pg) := (hba.cell (p := ⟨ab, 1, none⟩) LABzd.out).trans HCzd.out; have HCwa : Hid (wa.cell? ⟨ab, 1, none⟩ = some (.int .i64 pg)) := c1wa; have LABwa : Hid (ab < wa.heap.size) := Nat.lt_of_lt_of_le LABzd.out (hba.size); rw [HCN.out]; clear hba)
            go_wp2_with fail
            refine hK.out _ _ ?_ (fun hHeld2 => ?_)
            · (first | go_keep | assumption)
            clear hK K hHeld
            have hHeld := hHeld2
            clear hHeld2
            refine wpAnyH_ready (rs := [6]) (by kernel_rfl) (by simp) ?_
            refine AllReadyH.cons rfl (fun K hK => ?_) AllReadyH.nil
            go_simp
            (refine (rCount_any HPwa.out.b 0).mono ?_; rintro e wa2 ⟨rfl, rfl⟩; rw [HCN.out])
            go_wp2_with fail
            refine hK.out _ _ ?_ (fun hHeld2 => ?_)
            · (first | go_keep | assumption)
            clear hK K hHeld
            have hHeld := hHeld2
            clear hHeld2
            refine wpAnyH_take (i := 7) (v := ?_) rfl (by kernel_rfl) (by kernel_rfl) (by kernel_rfl) (fun _ _ _ h => h) (Or.inl ⟨by rfl, ?_⟩) (by assumption) ?_
            rotate_left
            · (first | (intro w hSw; (try dsimp only at hSw); go_simp; done) | (intro w hSw; (try dsimp only at hSw); go_simp; with_reducible rfl))
            simp only [List.getElem_toArray, List.getElem_cons_succ, List.getElem_cons_zero, Act.put, List.setIfInBounds_toArray, List.set_cons_zero, List.set_cons_succ]
            refine wpAnyH_take (i := 8) (v := ?_) rfl (by kernel_rfl) (by kernel_rfl) (by kernel_rfl) (fun _ _ _ h => h) (Or.inl ⟨by rfl, ?_⟩) (by assumption) ?_
            rotate_left
            · (first | (intro w hSw; (try dsimp only at hSw); go_simp; done) | (intro w hSw; (try dsimp only at hSw); go_simp; with_reducible rfl))
            simp only [List.getElem_toArray, List.getElem_cons_succ, List.getElem_cons_zero, Act.put, List.setIfInBounds_toArray, List.set_cons_zero, List.set_cons_succ]
            refine wpAnyH_take (i := 9) (v := ?_) rfl (by kernel_rfl) (by kernel_rfl) (by kernel_rfl) (fun _ _ _ h => h) (Or.inl ⟨by rfl, ?_⟩) (by assumption) ?_
            rotate_left
            · (first | (intro w hSw; (try dsimp only at hSw); go_simp; done) | (intro w hSw; (try dsimp only at hSw); go_simp; with_reducible rfl))
            simp only [List.getElem_toArray, List.getElem_cons_succ, List.getElem_cons_zero, Act.put, List.setIfInBounds_toArray, List.set_cons_zero, List.set_cons_succ]
            refine wpAnyH_take (i := 10) (v := ?_) rfl (by kernel_rfl) (by kernel_rfl) (by kernel_rfl) (fun _ _ _ h => h) (Or.inl ⟨by rfl, ?_⟩) (by assumption) ?_
            rotate_left
            · (first | (intro w hSw; (try dsimp only at hSw); go_simp; done) | (intro w hSw; (try dsimp only at hSw); go_simp; with_reducible rfl))
            simp only [List.getElem_toArray, List.getElem_cons_succ, List.getElem_cons_zero, Act.put, List.setIfInBounds_toArray, List.set_cons_zero, List.set_cons_succ]
            refine wpAnyH_take (i := 11) (v := ?_) rfl (by kernel_rfl) (by kernel_rfl) (by kernel_rfl) (fun _ _ _ h => h) (Or.inl ⟨by rfl, ?_⟩) (by assumption) ?_
            rotate_left
            · (first | (intro w hSw; (try dsimp only at hSw); go_simp; done) | (intro w hSw; (try dsimp only at hSw); go_simp; with_reducible rfl))
            simp only [List.getElem_toArray, List.getElem_cons_succ, List.getElem_cons_zero, Act.put, List.setIfInBounds_toArray, List.set_cons_zero, List.set_cons_succ]
            refine wpAnyH_take (i := 12) (v := ?_) rfl (by kernel_rfl) (by kernel_rfl) (by kernel_rfl) (fun _ _ _ h => h) (Or.inl ⟨by rfl, ?_⟩) (by assumption) ?_
            rotate_left
            · (first | (intro w hSw; (try dsimp only at hSw); go_simp; done) | (intro w hSw; (try dsimp only at hSw); go_simp; with_reducible rfl))
            simp only [List.getElem_toArray, List.getElem_cons_succ, List.getElem_cons_zero, Act.put, List.setIfInBounds_toArray, List.set_cons_zero, List.set_cons_succ]
            refine wpAnyH_take (i := 14) (v := ?_) rfl (by kernel_rfl) (by kernel_rfl) (by kernel_rfl) (fun _ _ _ h => h) (Or.inl ⟨by rfl, ?_⟩) (by assumption) ?_
            rotate_left
            · (first | (intro w hSw; (try dsimp only at hSw); go_simp; done) | (intro w hSw; (try dsimp only at hSw); go_simp; with_reducible rfl))
            simp only [List.getElem_toArray, List.getElem_cons_succ, List.getElem_cons_zero, Act.put, List.setIfInBounds_toArray, List.set_cons_zero, List.set_cons_succ]
            refine wpAnyH_take (i := 15) (v := ?_) rfl (by kernel_rfl) (by kernel_rfl) (by kernel_rfl) (fun _ _ _ h => h) (Or.inl ⟨by rfl, ?_⟩) (by assumption) ?_
            rotate_left
            · (first | (intro w hSw; (try dsimp only at hSw); go_simp; done) | (intro w hSw; (try dsimp only at hSw); go_simp; with_reducible rfl))
            simp only [List.getElem_toArray, List.getElem_cons_succ, List.getElem_cons_zero, Act.put, List.setIfInBounds_toArray, List.set_cons_zero, List.set_cons_succ]
            refine wpAnyH_take (i := 16) (v := ?_) rfl (by kernel_rfl) (by kernel_rfl) (by kernel_rfl) (fun _ _ _ h => h) (Or.inl ⟨by rfl, ?_⟩) (by assumption) ?_
            rotate_left
            · (first | (intro w hSw; (try dsimp only at hSw); go_simp; done) | (intro w hSw; (try dsimp only at hSw); go_simp; with_reducible rfl))
            simp only [List.getElem_toArray, List.getElem_cons_succ, List.getElem_cons_zero, Act.put, List.setIfInBounds_toArray, List.set_cons_zero, List.set_cons_succ]
            refine wpAnyH_ready (rs := [13]) (by kernel_rfl) (by simp) ?_
            refine AllReadyH.cons rfl (fun K hK => ?_) AllReadyH.nil
            go_simp
            (refine (X.own HPwa.out.a pg HV.out).mono ?_; rintro e wb ⟨rfl, hbb⟩; have HPwb : Hid (Qs Sp w wb s m F G S) := HPwa.out.below X hbb; have c1wb : wb.cell? ⟨ab, 1, none⟩ = some (.int .i64 pg) := (hbb.cell (p := ⟨ab, 1, none⟩) LABwa.out).trans HCwa.out; have HCwb : Hid (wb.cell? ⟨ab, 1, none⟩ = some (.int .i64 pg)) := c1wb; have LABwb : Hid (ab < wb.heap.size) := Nat.lt_of_lt_of_le LABwa.out (hbb.size); rw [HIS.out]; clear hbb)
            go_wp2_with fail
            refine hK.out _ _ ?_ (fun hHeld2 => ?_)
            · (first | go_keep | assumption)
            clear hK K hHeld
            have hHeld := hHeld2
            clear hHeld2
            refine wpAnyH_ready (rs := [17]) (by kernel_rfl) (by simp) ?_
            refine AllReadyH.cons rfl (fun K hK => ?_) AllReadyH.nil
            go_simp
            (refine (rIs_any HPwb.out.b pg 2).mono ?_; rintro e wb2 ⟨rfl, rfl⟩; rw [HIS.out])
            go_wp2_with fail
            refine hK.out _ _ ?_ (fun hHeld2 => ?_)
            · (first | go_keep | assumption)
            clear hK K hHeld
            have hHeld := hHeld2
            clear hHeld2
            refine wpAnyH_take (i := 18) (v := ?_) rfl (by kernel_rfl) (by kernel_rfl) (by kernel_rfl) (fun _ _ _ h => h) (Or.inl ⟨by rfl, ?_⟩) (by assumption) ?_
            rotate_left
            · (first | (intro w hSw; (try dsimp only at hSw); go_simp; done) | (intro w hSw; (try dsimp only at hSw); go_simp; with_reducible rfl))
            simp only [List.getElem_toArray, List.getElem_cons_succ, List.getElem_cons_zero, Act.put, List.setIfInBounds_toArray, List.set_cons_zero, List.set_cons_succ]
            refine wpAnyH_take (i := 19) (v := ?_) rfl (by kernel_rfl) (by kernel_rfl) (by kernel_rfl) (fun _ _ _ h => h) (Or.inl ⟨by rfl, ?_⟩) (by assumption) ?_
            rotate_left
            · (first | (intro w hSw; (try dsimp only at hSw); go_simp; done) | (intro w hSw; (try dsimp only at hSw); go_simp; with_reducible rfl))
            simp only [List.getElem_toArray, List.getElem_cons_succ, List.getElem_cons_zero, Act.put, List.setIfInBounds_toArray, List.set_cons_zero, List.set_cons_succ]
            refine wpAnyH_take (i := 20) (v := ?_) rfl (by kernel_rfl) (by kernel_rfl) (by kernel_rfl) (fun _ _ _ h => h) (Or.inl ⟨by rfl, ?_⟩) (by assumption) ?_
            rotate_left
            · (first | (intro w hSw; (try dsimp only at hSw); go_simp; done) | (intro w hSw; (try dsimp only at hSw); go_simp; with_reducible rfl))
            simp only [List.getElem_toArray, List.getElem_cons_succ, List.getElem_cons_zero, Act.put, List.setIfInBounds_toArray, List.set_cons_zero, List.set_cons_succ]
            refine wpAnyH_take (i := 21) (v := ?_) rfl (by kernel_rfl) (by kernel_rfl) (by kernel_rfl) (fun _ _ _ h => h) (Or.inl ⟨by rfl, ?_⟩) (by assumption) ?_
            rotate_left
            · (first | (intro w hSw; (try dsimp only at hSw); go_simp; done) | (intro w hSw; (try dsimp only at hSw); go_simp; with_reducible rfl))
            simp only [List.getElem_toArray, List.getElem_cons_succ, List.getElem_cons_zero, Act.put, List.setIfInBounds_toArray, List.set_cons_zero, List.set_cons_succ]
            refine wpAnyH_take (i := 22) (v := ?_) rfl (by kernel_rfl) (by kernel_rfl) (by kernel_rfl) (fun _ _ _ h => h) (Or.inl ⟨by rfl, ?_⟩) (by assumption) ?_
            rotate_left
            · (first | (intro w hSw; (try dsimp only at hSw); go_simp; done) | (intro w hSw; (try dsimp only at hSw); go_simp; with_reducible rfl))
            simp only [List.getElem_toArray, List.getElem_cons_succ, List.getElem_cons_zero, Act.put, List.setIfInBounds_toArray, List.set_cons_zero, List.set_cons_succ]
            refine wpAnyH_take (i := 23) (v := ?_) rfl (by kernel_rfl) (by kernel_rfl) (by kernel_rfl) (fun _ _ _ h => h) (Or.inl ⟨by rfl, ?_⟩) (by assumption) ?_
            rotate_left
            · (first | (intro w hSw; (try dsimp only at hSw); go_simp; done) | (intro w hSw; (try dsimp only at hSw); go_simp; with_reducible rfl))
            simp only [List.getElem_toArray, List.getElem_cons_succ, List.getElem_cons_zero, Act.put, List.setIfInBounds_toArray, List.set_cons_zero, List.set_cons_succ]
            refine wpAnyH_take (i := 25) (v := ?_) rfl (by kernel_rfl) (by kernel_rfl) (by kernel_rfl) (fun _ _ _ h => h) (Or.inl ⟨by rfl, ?_⟩) (by assumption) ?_
            rotate_left
            · (first | (intro w hSw; (try dsimp only at hSw); go_simp; done) | (intro w hSw; (try dsimp only at hSw); go_simp; with_reducible rfl))
            simp only [List.getElem_toArray, List.getElem_cons_succ, List.getElem_cons_zero, Act.put, List.setIfInBounds_toArray, List.set_cons_zero, List.set_cons_succ]
            refine wpAnyH_take (i := 26) (v := ?_) rfl (by kernel_rfl) (by kernel_rfl) (by kernel_rfl) (fun _ _ _ h => h) (Or.inl ⟨by rfl, ?_⟩) (by assumption) ?_
            rotate_left
            · (first | (intro w hSw; (try dsimp only at hSw); go_simp; done) | (intro w hSw; (try dsimp only at hSw); go_simp; with_reducible rfl))
            simp only [List.getElem_toArray, List.getElem_cons_succ, List.getElem_cons_zero, Act.put, List.setIfInBounds_toArray, List.set_cons_zero, List.set_cons_succ]
            refine wpAnyH_take (i := 27) (v := ?_) rfl (by kernel_rfl) (by kernel_rfl) (by kernel_rfl) (fun _ _ _ h => h) (Or.inl ⟨by rfl, ?_⟩) (by assumption) ?_
            rotate_left
            · (first | (intro w hSw; (try dsimp only at hSw); go_simp; done) | (intro w hSw; (try dsimp only at hSw); go_simp; with_reducible rfl))
            simp only [List.getElem_toArray, List.getElem_cons_succ, List.getElem_cons_zero, Act.put, List.setIfInBounds_toArray, List.set_cons_zero, List.set_cons_succ]
            refine wpAnyH_ready (rs := [24]) (by kernel_rfl) (by simp) ?_
            refine AllReadyH.cons rfl (fun K hK => ?_) AllReadyH.nil
            go_simp
            (refine (X.used HPwb.out.a pg HV.out).mono ?_; rintro e wd' ⟨rfl, hbd⟩; have HPwd' : Hid (Qs Sp w wd' s m F G S) := HPwb.out.below X hbd; have c1wd' : wd'.cell? ⟨ab, 1, none⟩ = some (.int .i64 pg) := (hbd.cell (p := ⟨ab, 1, none⟩) LABwb.out).trans HCwb.out; have HCwd' : Hid (wd'.cell? ⟨ab, 1, none⟩ = some (.int .i64 pg)) := c1wd'; have LABwd' : Hid (ab < wd'.heap.size) := Nat.lt_of_lt_of_le LABwb.out (hbd.size); rw [HUS.out]; clear hbd)
            go_wp2_with fail
            refine hK.out _ _ ?_ (fun hHeld2 => ?_)
            · (first | go_keep | assumption)
            clear hK K hHeld
            have hHeld := hHeld2
            clear hHeld2
            refine wpAnyH_take (i := 28) (v := ?_) rfl (by kernel_rfl) (by kernel_rfl) (by kernel_rfl) (fun _ _ _ h => h) (Or.inl ⟨by rfl, ?_⟩) (by assumption) ?_
            rotate_left
            · (first | (intro w hSw; (try dsimp only at hSw); go_simp; done) | (intro w hSw; (try dsimp only at hSw); go_simp; with_reducible rfl))
            simp only [List.getElem_toArray, List.getElem_cons_succ, List.getElem_cons_zero, Act.put, List.setIfInBounds_toArray, List.set_cons_zero, List.set_cons_succ]
            refine wpAnyH_take (i := 29) (v := ?_) rfl (by kernel_rfl) (by kernel_rfl) (by kernel_rfl) (fun _ _ _ h => h) (Or.inl ⟨by rfl, ?_⟩) (by assumption) ?_
            rotate_left
            · (first | (intro w hSw; (try dsimp only at hSw); go_simp; done) | (intro w hSw; (try dsimp only at hSw); go_simp; with_reducible rfl))
            simp only [List.getElem_toArray, List.getElem_cons_succ, List.getElem_cons_zero, Act.put, List.setIfInBounds_toArray, List.set_cons_zero, List.set_cons_succ]
            refine wpAnyH_take (i := 30) (v := ?_) rfl (by kernel_rfl) (by kernel_rfl) (by kernel_rfl) (fun _ _ _ h => h) (Or.inl ⟨by rfl, ?_⟩) (by assumption) ?_
            rotate_left
            · (first | (intro w hSw; (try dsimp only at hSw); go_simp; done) | (intro w hSw; (try dsimp only at hSw); go_simp; with_reducible rfl))
            simp only [List.getElem_toArray, List.getElem_cons_succ, List.getElem_cons_zero, Act.put, List.setIfInBounds_toArray, List.set_cons_zero, List.set_cons_succ]
            refine wpAnyH_take (i := 31) (v := ?_) rfl (by kernel_rfl) (by kernel_rfl) (by kernel_rfl) (fun _ _ _ h => h) (Or.inl ⟨by rfl, ?_⟩) (by assumption) ?_
            rotate_left
            · (first | (intro w hSw; (try dsimp only at hSw); go_simp; done) | (intro w hSw; (try dsimp only at hSw); go_simp; with_reducible rfl))
            simp only [List.getElem_toArray, List.getElem_cons_succ, List.getElem_cons_zero, Act.put, List.setIfInBounds_toArray, List.set_cons_zero, List.set_cons_succ]
            refine wpAnyH_take (i := 32) (v := ?_) rfl (by kernel_rfl) (by kernel_rfl) (by kernel_rfl) (fun _ _ _ h => h) (Or.inl ⟨by rfl, ?_⟩) (by assumption) ?_
            rotate_left
            · (first | (intro w hSw; (try dsimp only at hSw); go_simp; done) | (intro w hSw; (try dsimp only at hSw); go_simp; with_reducible rfl))
            simp only [List.getElem_toArray, List.getElem_cons_succ, List.getElem_cons_zero, Act.put, List.setIfInBounds_toArray, List.set_cons_zero, List.set_cons_succ]
            refine wpAnyH_take (i := 33) (v := ?_) rfl (by kernel_rfl) (by kernel_rfl) (by kernel_rfl) (fun _ _ _ h => h) (Or.inl ⟨by rfl, ?_⟩) (by assumption) ?_
            rotate_left
            · (first | (intro w hSw; (try dsimp only at hSw); go_simp; done) | (intro w hSw; (try dsimp only at hSw); go_simp; with_reducible rfl))
            simp only [List.getElem_toArray, List.getElem_cons_succ, List.getElem_cons_zero, Act.put, List.setIfInBounds_toArray, List.set_cons_zero, List.set_cons_succ]
            refine wpAnyH_take (i := 34) (v := ?_) rfl (by kernel_rfl) (by kernel_rfl) (by kernel_rfl) (fun _ _ _ h => h) (Or.inl ⟨by rfl, ?_⟩) (by assumption) ?_
            rotate_left
            · (first | (intro w hSw; (try dsimp only at hSw); go_simp; done) | (intro w hSw; (try dsimp only at hSw); go_simp; with_reducible rfl))
            simp only [List.getElem_toArray, List.getElem_cons_succ, List.getElem_cons_zero, Act.put, List.setIfInBounds_toArray, List.set_cons_zero, List.set_cons_succ]
            refine wpAnyH_take (i := 35) (v := undef) rfl (by kernel_rfl) (by kernel_rfl) (by kernel_rfl) (fun _ _ _ h => h) (Or.inr ⟨by rfl, rfl⟩) (by assumption) ?_
            simp only [List.getElem_toArray, List.getElem_cons_succ, List.getElem_cons_zero, Act.put, List.setIfInBounds_toArray, List.set_cons_zero, List.set_cons_succ]
            refine wpAnyH_take (i := 36) (v := undef) rfl (by kernel_rfl) (by kernel_rfl) (by kernel_rfl) (fun _ _ _ h => h) (Or.inr ⟨by rfl, rfl⟩) (by assumption) ?_
            simp only [List.getElem_toArray, List.getElem_cons_succ, List.getElem_cons_zero, Act.put, List.setIfInBounds_toArray, List.set_cons_zero, List.set_cons_succ]
            refine wpAnyH_take (i := 37) (v := undef) rfl (by kernel_rfl) (by kernel_rfl) (by kernel_rfl) (fun _ _ _ h => h) (Or.inr ⟨by rfl, rfl⟩) (by assumption) ?_
            simp only [List.getElem_toArray, List.getElem_cons_succ, List.getElem_cons_zero, Act.put, List.setIfInBounds_toArray, List.set_cons_zero, List.set_cons_succ]
            refine wpAnyH_take (i := 38) (v := undef) rfl (by kernel_rfl) (by kernel_rfl) (by kernel_rfl) (fun _ _ _ h => h) (Or.inr ⟨by rfl, rfl⟩) (by assumption) ?_
            simp only [List.getElem_toArray, List.getElem_cons_succ, List.getElem_cons_zero, Act.put, List.setIfInBounds_toArray, List.set_cons_zero, List.set_cons_succ]
            refine wpAnyH_take (i := 39) (v := undef) rfl (by kernel_rfl) (by kernel_rfl) (by kernel_rfl) (fun _ _ _ h => h) (Or.inr ⟨by rfl, rfl⟩) (by assumption) ?_
            simp only [List.getElem_toArray, List.getElem_cons_succ, List.getElem_cons_zero, Act.put, List.setIfInBounds_toArray, List.set_cons_zero, List.set_cons_succ]
            refine wpAnyH_take (i := 40) (v := ?_) rfl (by kernel_rfl) (by kernel_rfl) (by kernel_rfl) (fun _ _ _ h => h) (Or.inl ⟨by rfl, ?_⟩) (by assumption) ?_
            rotate_left
            · (first | (intro w hSw; (try dsimp only at hSw); go_simp; done) | (intro w hSw; (try dsimp only at hSw); go_simp; with_reducible rfl))
            simp only [List.getElem_toArray, List.getElem_cons_succ, List.getElem_cons_zero, Act.put, List.setIfInBounds_toArray, List.set_cons_zero, List.set_cons_succ]
            refine wpAnyH_take (i := 41) (v := ?_) rfl (by kernel_rfl) (by kernel_rfl) (by kernel_rfl) (fun _ _ _ h => h) (Or.inl ⟨by rfl, ?_⟩) (by assumption) ?_
            rotate_left
            · (first | (intro w hSw; (try dsimp only at hSw); go_simp; done) | (intro w hSw; (try dsimp only at hSw); go_simp; with_reducible rfl))
            simp only [List.getElem_toArray, List.getElem_cons_succ, List.getElem_cons_zero, Act.put, List.setIfInBounds_toArray, List.set_cons_zero, List.set_cons_succ]
            refine wpAnyH_take (i := 42) (v := ?_) rfl (by kernel_rfl) (by kernel_rfl) (by kernel_rfl) (fun _ _ _ h => h) (Or.inl ⟨by rfl, ?_⟩) (by assumption) ?_
            rotate_left
            · (first | (intro w hSw; (try dsimp only at hSw); go_simp; done) | (intro w hSw; (try dsimp only at hSw); go_simp; with_reducible rfl))
            simp only [List.getElem_toArray, List.getElem_cons_succ, List.getElem_cons_zero, Act.put, List.setIfInBounds_toArray, List.set_cons_zero, List.set_cons_succ]
            refine wpAnyH_take (i := 43) (v := ?_) rfl (by kernel_rfl) (by kernel_rfl) (by kernel_rfl) (fun _ _ _ h => h) (Or.inl ⟨by rfl, ?_⟩) (by assumption) ?_
            rotate_left
            · (first | (intro w hSw; (try dsimp only at hSw); go_simp; done) | (intro w hSw; (try dsimp only at hSw); go_simp; with_reducible rfl))
            simp only [List.getElem_toArray, List.getElem_cons_succ, List.getElem_cons_zero, Act.put, List.setIfInBounds_toArray, List.set_cons_zero, List.set_cons_succ]
            refine wpAnyH_take (i := 44) (v := ?_) rfl (by kernel_rfl) (by kernel_rfl) (by kernel_rfl) (fun _ _ _ h => h) (Or.inl ⟨by rfl, ?_⟩) (by assumption) ?_
            rotate_left
            · (first | (intro w hSw; (try dsimp only at hSw); go_simp; done) | (intro w hSw; (try dsimp only at hSw); go_simp; with_reducible rfl))
            simp only [List.getElem_toArray, List.getElem_cons_succ, List.getElem_cons_zero, Act.put, List.setIfInBounds_toArray, List.set_cons_zero, List.set_cons_succ]
            refine wpAnyH_take (i := 46) (v := ?_) rfl (by kernel_rfl) (by kernel_rfl) (by kernel_rfl) (fun _ _ _ h => h) (Or.inl ⟨by rfl, ?_⟩) (by assumption) ?_
            rotate_left
            · (first | (intro w hSw; (try dsimp only at hSw); go_simp; done) | (intro w hSw; (try dsimp only at hSw); go_simp; with_reducible rfl))
            simp only [List.getElem_toArray, List.getElem_cons_succ, List.getElem_cons_zero, Act.put, List.setIfInBounds_toArray, List.set_cons_zero, List.set_cons_succ]
            refine wpAnyH_ready (rs := [45]) (by kernel_rfl) (by simp) ?_
            refine AllReadyH.cons rfl (fun K hK => ?_) AllReadyH.nil
            go_simp
            (refine (X.bits HPwd'.out.a).mono ?_; rintro e wi ⟨gi, ci, rfl, hoi, hbi⟩; rw [HNB.out] at hoi ⊢; have HOI : Hid (Own 0 wi (.slice (some ⟨gi, 0, none⟩) nb ci) (bitL S)) := hoi.zero; have HPwi : Hid (Qs Sp w wi s m F G S) := HPwd'.out.below X hbi; have c1wi : wi.cell? ⟨ab, 1, none⟩ = some (.int .i64 pg) := (hbi.cell (p := ⟨ab, 1, none⟩) LABwd'.out).trans HCwd'.out; have HCwi : Hid (wi.cell? ⟨ab, 1, none⟩ = some (.int .i64 pg)) := c1wi; have LABwi : Hid (ab < wi.heap.size) := Nat.lt_of_lt_of_le LABwd'.out (hbi.size); clear hoi hbi)
            go_wp2_with fail
            refine hK.out _ _ ?_ (fun hHeld2 => ?_)
            · (first | go_keep | assumption)
            clear hK K hHeld
            have hHeld := hHeld2
            clear hHeld2
            refine wpAnyH_ready (rs := [47]) (by kernel_rfl) (by simp) ?_
            refine AllReadyH.cons rfl (fun K hK => ?_) AllReadyH.nil
            go_simp
            (refine (rBits_any HPwi.out.b).mono ?_; rintro e wj ⟨gj, cj, rfl, hoj, hbj⟩; rw [HNB.out] at hoj ⊢; have HOJ : Hid (Own 0 wj (.slice (some ⟨gj, 0, none⟩) nb cj) (bitL S)) := hoj.zero; have HOI2 : Hid (Own 0 wj (.slice (some ⟨gi, 0, none⟩) nb ci) (bitL S)) := own_kpb HOI.out hbj; have HPwj : Hid (Qs Sp w wj s m F G S) := HPwi.out.below X hbj; have c1wj : wj.cell? ⟨ab, 1, none⟩ = some (.int .i64 pg) := (hbj.cell (p := ⟨ab, 1, none⟩) LABwi.out).trans HCwi.out; have HCwj : Hid (wj.cell? ⟨ab, 1, none⟩ = some (.int .i64 pg)) := c1wj; have LABwj : Hid (ab < wj.heap.size) := Nat.lt_of_lt_of_le LABwi.out (hbj.size); clear hoj hbj)
            go_wp2_with fail
            refine hK.out _ _ ?_ (fun hHeld2 => ?_)
            · (first | go_keep | assumption)
            clear hK K hHeld
            have hHeld := hHeld2
            clear hHeld2
            refine wpAnyH_ready (rs := [48]) (by kernel_rfl) (by simp) ?_
            refine AllReadyH.cons rfl (fun K hK => ?_) AllReadyH.nil
            go_simp
            (refine (same_g HOI2.out HOJ.out (bitL_bys S) HBL.out).mono ?_; rintro e wk ⟨rfl, hbk⟩; have HPwk : Hid (Qs Sp w wk s m F G S) := HPwj.out.below X hbk; have c1wk : wk.cell? ⟨ab, 1, none⟩ = some (.int .i64 pg) := (hbk.cell (p := ⟨ab, 1, none⟩) LABwj.out).trans HCwj.out; have HCwk : Hid (wk.cell? ⟨ab, 1, none⟩ = some (.int .i64 pg)) := c1wk; have LABwk : Hid (ab < wk.heap.size) := Nat.lt_of_lt_of_le LABwj.out (hbk.size); clear hbk)
            go_wp2_with fail
            refine hK.out _ _ ?_ (fun hHeld2 => ?_)
            · (first | go_keep | assumption)
            clear hK K hHeld
            have hHeld := hHeld2
            clear hHeld2
            refine wpAnyH_take (i := 49) (v := ?_) rfl (by kernel_rfl) (by kernel_rfl) (by kernel_rfl) (fun _ _ _ h => h) (Or.inl ⟨by rfl, ?_⟩) (by assumption) ?_
            rotate_left
            · (first | (intro w hSw; (try dsimp only at hSw); go_simp; done) | (intro w hSw; (try dsimp only at hSw); go_simp; with_reducible rfl))
            simp only [List.getElem_toArray, List.getElem_cons_succ, List.getElem_cons_zero, Act.put, List.setIfInBounds_toArray, List.set_cons_zero, List.set_cons_succ]
            refine wpAnyH_take (i := 50) (v := ?_) rfl (by kernel_rfl) (by kernel_rfl) (by kernel_rfl) (fun _ _ _ h => h) (Or.inl ⟨by rfl, ?_⟩) (by assumption) ?_
            rotate_left
            · (first | (intro w hSw; (try dsimp only at hSw); go_simp; done) | (intro w hSw; (try dsimp only at hSw); go_simp; with_reducible rfl))
            simp only [List.getElem_toArray, List.getElem_cons_succ, List.getElem_cons_zero, Act.put, List.setIfInBounds_toArray, List.set_cons_zero, List.set_cons_succ]
            refine wpAnyH_done (by kernel_rfl) ?_ _
            go_wp2
            go_roundw
            case rel => exact ⟨k + 1, _, by omega, rfl, by go_num, _, _, _, HS.out, HPwk.out⟩
            case measure => simp [intOf]; omega
        · have HUS : Hid ((inB S pg && !isB S pg 0) = false) := by show _ = _; unfold inB; rw [decide_eq_false p0]; simp
          have q0 : (0 ≤ pg) = False := eq_false p0
          clear hS p0
          go_wp2_with fail
          refine wp_region_held_drew (S := (fun w' => w'.cell? ⟨ab, 1, none⟩ = some (.int .i64 pg))) (by kernel_rfl) ?_ (fun hHeld => ?_)
          · (first | go_keep | assumption)
          refine wpAnyH_take (i := 0) (v := ?_) rfl (by kernel_rfl) (by kernel_rfl) (by kernel_rfl) (fun _ _ _ h => h) (Or.inl ⟨by rfl, ?_⟩) (by assumption) ?_
          rotate_left
          · (first | (intro w hSw; (try dsimp only at hSw); go_simp; done) | (intro w hSw; (try dsimp only at hSw); go_simp; with_reducible rfl))
          simp only [List.getElem_toArray, List.getElem_cons_zero, Act.put, List.setIfInBounds_toArray, List.set_cons_zero, List.set_cons_succ]
          refine wpAnyH_take (i := 1) (v := ?_) rfl (by kernel_rfl) (by kernel_rfl) (by kernel_rfl) (fun _ _ _ h => h) (Or.inl ⟨by rfl, ?_⟩) (by assumption) ?_
          rotate_left
          · (first | (intro w hSw; (try dsimp only at hSw); go_simp; done) | (intro w hSw; (try dsimp only at hSw); go_simp; with_reducible rfl))
          simp only [List.getElem_toArray, List.getElem_cons_succ, List.getElem_cons_zero, Act.put, List.setIfInBounds_toArray, List.set_cons_zero, List.set_cons_succ]
          refine wpAnyH_take (i := 2) (v := ?_) rfl (by kernel_rfl) (by kernel_rfl) (by kernel_rfl) (fun _ _ _ h => h) (Or.inl ⟨by rfl, ?_⟩) (by assumption) ?_
          rotate_left
          · (first | (intro w hSw; (try dsimp only at hSw); go_simp; done) | (intro w hSw; (try dsimp only at hSw); go_simp; with_reducible rfl))
          simp only [List.getElem_toArray, List.getElem_cons_succ, List.getElem_cons_zero, Act.put, List.setIfInBounds_toArray, List.set_cons_zero, List.set_cons_succ]
          refine wpAnyH_take (i := 3) (v := ?_) rfl (by kernel_rfl) (by kernel_rfl) (by kernel_rfl) (fun _ _ _ h => h) (Or.inl ⟨by rfl, ?_⟩) (by assumption) ?_
          rotate_left
          · (first | (intro w hSw; (try dsimp only at hSw); go_simp; done) | (intro w hSw; (try dsimp only at hSw); go_simp; with_reducible rfl))
          simp only [List.getElem_toArray, List.getElem_cons_succ, List.getElem_cons_zero, Act.put, List.setIfInBounds_toArray, List.set_cons_zero, List.set_cons_succ]
          refine wpAnyH_take (i := 5) (v := ?_) rfl (by kernel_rfl) (by kernel_rfl) (by kernel_rfl) (fun _ _ _ h => h) (Or.inl ⟨by rfl, ?_⟩) (by assumption) ?_
          rotate_left
          · (first | (intro w hSw; (try dsimp only at hSw); go_simp; done) | (intro w hSw; (try dsimp only at hSw); go_simp; with_reducible rfl))
          simp only [List.getElem_toArray, List.getElem_cons_succ, List.getElem_cons_zero, Act.put, List.setIfInBounds_toArray, List.set_cons_zero, List.set_cons_succ]
          refine wpAnyH_ready (rs := [4]) (by kernel_rfl) (by simp) ?_
          refine AllReadyH.cons rfl (fun K hK => ?_) AllReadyH.nil
          go_simp
          (refine (X.free HPzd.out.a).mono ?_; rintro e wa ⟨rfl, hba⟩; have HPwa : Hid (Qs Sp w wa s m F G S) := HPzd.out.below X hba; have c1wa : wa.cell? ⟨ab, 1, none⟩ = some (.int .i64 pg) := (hba.cell (p := ⟨ab, 1, none⟩) LABzd.out).trans HCzd.out; have HCwa : Hid (wa.cell? ⟨ab, 1, none⟩ = some (.int .i64 pg)) := c1wa; have LABwa : Hid (ab < wa.heap.size) := Nat.lt_of_lt_of_le LABzd.out (hba.size); rw [HCN.out]; clear hba)
          go_wp2_with fail
          refine hK.out _ _ ?_ (fun hHeld2 => ?_)
          · (first | go_keep | assumption)
          clear hK K hHeld
          have hHeld := hHeld2
          clear hHeld2
          refine wpAnyH_ready (rs := [6]) (by kernel_rfl) (by simp) ?_
          refine AllReadyH.cons rfl (fun K hK => ?_) AllReadyH.nil
          go_simp
          (refine (rCount_any HPwa.out.b 0).mono ?_; rintro e wa2 ⟨rfl, rfl⟩; rw [HCN.out])
          go_wp2_with fail
          refine hK.out _ _ ?_ (fun hHeld2 => ?_)
          · (first | go_keep | assumption)
          clear hK K hHeld
          have hHeld := hHeld2
          clear hHeld2
          refine wpAnyH_take (i := 7) (v := ?_) rfl (by kernel_rfl) (by kernel_rfl) (by kernel_rfl) (fun _ _ _ h => h) (Or.inl ⟨by rfl, ?_⟩) (by assumption) ?_
          rotate_left
          · (first | (intro w hSw; (try dsimp only at hSw); go_simp; done) | (intro w hSw; (try dsimp only at hSw); go_simp; with_reducible rfl))
          simp only [List.getElem_toArray, List.getElem_cons_succ, List.getElem_cons_zero, Act.put, List.setIfInBounds_toArray, List.set_cons_zero, List.set_cons_succ]
          refine wpAnyH_take (i := 8) (v := ?_) rfl (by kernel_rfl) (by kernel_rfl) (by kernel_rfl) (fun _ _ _ h => h) (Or.inl ⟨by rfl, ?_⟩) (by assumption) ?_
          rotate_left
          · (first | (intro w hSw; (try dsimp only at hSw); go_simp; done) | (intro w hSw; (try dsimp only at hSw); go_simp; with_reducible rfl))
          simp only [List.getElem_toArray, List.getElem_cons_succ, List.getElem_cons_zero, Act.put, List.setIfInBounds_toArray, List.set_cons_zero, List.set_cons_succ]
          refine wpAnyH_take (i := 9) (v := ?_) rfl (by kernel_rfl) (by kernel_rfl) (by kernel_rfl) (fun _ _ _ h => h) (Or.inl ⟨by rfl, ?_⟩) (by assumption) ?_
          rotate_left
          · (first | (intro w hSw; (try dsimp only at hSw); go_simp; done) | (intro w hSw; (try dsimp only at hSw); go_simp; with_reducible rfl))
          simp only [List.getElem_toArray, List.getElem_cons_succ, List.getElem_cons_zero, Act.put, List.setIfInBounds_toArray, List.set_cons_zero, List.set_cons_succ]
          refine wpAnyH_take (i := 10) (v := ?_) rfl (by kernel_rfl) (by kernel_rfl) (by kernel_rfl) (fun _ _ _ h => h) (Or.inl ⟨by rfl, ?_⟩) (by assumption) ?_
          rotate_left
          · (first | (intro w hSw; (try dsimp only at hSw); go_simp; done) | (intro w hSw; (try dsimp only at hSw); go_simp; with_reducible rfl))
          simp only [List.getElem_toArray, List.getElem_cons_succ, List.getElem_cons_zero, Act.put, List.setIfInBounds_toArray, List.set_cons_zero, List.set_cons_succ]
          refine wpAnyH_take (i := 11) (v := ?_) rfl (by kernel_rfl) (by kernel_rfl) (by kernel_rfl) (fun _ _ _ h => h) (Or.inl ⟨by rfl, ?_⟩) (by assumption) ?_
          rotate_left
          · (first | (intro w hSw; (try dsimp only at hSw); go_simp; done) | (intro w hSw; (try dsimp only at hSw); go_simp; with_reducible rfl))
          simp only [List.getElem_toArray, List.getElem_cons_succ, List.getElem_cons_zero, Act.put, List.setIfInBounds_toArray, List.set_cons_zero, List.set_cons_succ]
          refine wpAnyH_take (i := 12) (v := ?_) rfl (by kernel_rfl) (by kernel_rfl) (by kernel_rfl) (fun _ _ _ h => h) (Or.inl ⟨by rfl, ?_⟩) (by assumption) ?_
          rotate_left
          · (first | (intro w hSw; (try dsimp only at hSw); go_simp; done) | (intro w hSw; (try dsimp only at hSw); go_simp; with_reducible rfl))
          simp only [List.getElem_toArray, List.getElem_cons_succ, List.getElem_cons_zero, Act.put, List.setIfInBounds_toArray, List.set_cons_zero, List.set_cons_succ]
          refine wpAnyH_take (i := 14) (v := ?_) rfl (by kernel_rfl) (by kernel_rfl) (by kernel_rfl) (fun _ _ _ h => h) (Or.inl ⟨by rfl, ?_⟩) (by assumption) ?_
          rotate_left
          · (first | (intro w hSw; (try dsimp only at hSw); go_simp; done) | (intro w hSw; (try dsimp only at hSw); go_simp; with_reducible rfl))
          simp only [List.getElem_toArray, List.getElem_cons_succ, List.getElem_cons_zero, Act.put, List.setIfInBounds_toArray, List.set_cons_zero, List.set_cons_succ]
          refine wpAnyH_take (i := 15) (v := ?_) rfl (by kernel_rfl) (by kernel_rfl) (by kernel_rfl) (fun _ _ _ h => h) (Or.inl ⟨by rfl, ?_⟩) (by assumption) ?_
          rotate_left
          · (first | (intro w hSw; (try dsimp only at hSw); go_simp; done) | (intro w hSw; (try dsimp only at hSw); go_simp; with_reducible rfl))
          simp only [List.getElem_toArray, List.getElem_cons_succ, List.getElem_cons_zero, Act.put, List.setIfInBounds_toArray, List.set_cons_zero, List.set_cons_succ]
          refine wpAnyH_take (i := 16) (v := ?_) rfl (by kernel_rfl) (by kernel_rfl) (by kernel_rfl) (fun _ _ _ h => h) (Or.inl ⟨by rfl, ?_⟩) (by assumption) ?_
          rotate_left
          · (first | (intro w hSw; (try dsimp only at hSw); go_simp; done) | (intro w hSw; (try dsimp only at hSw); go_simp; with_reducible rfl))
          simp only [List.getElem_toArray, List.getElem_cons_succ, List.getElem_cons_zero, Act.put, List.setIfInBounds_toArray, List.set_cons_zero, List.set_cons_succ]
          refine wpAnyH_ready (rs := [13]) (by kernel_rfl) (by simp) ?_
          refine AllReadyH.cons rfl (fun K hK => ?_) AllReadyH.nil
          go_simp
          (refine (X.own HPwa.out.a pg HV.out).mono ?_; rintro e wb ⟨rfl, hbb⟩; have HPwb : Hid (Qs Sp w wb s m F G S) := HPwa.out.below X hbb; have c1wb : wb.cell? ⟨ab, 1, none⟩ = some (.int .i64 pg) := (hbb.cell (p := ⟨ab, 1, none⟩) LABwa.out).trans HCwa.out; have HCwb : Hid (wb.cell? ⟨ab, 1, none⟩ = some (.int .i64 pg)) := c1wb; have LABwb : Hid (ab < wb.heap.size) := Nat.lt_of_lt_of_le LABwa.out (hbb.size); rw [HIS.out]; clear hbb)
          go_wp2_with fail
          refine hK.out _ _ ?_ (fun hHeld2 => ?_)
          · (first | go_keep | assumption)
          clear hK K hHeld
          have hHeld := hHeld2
          clear hHeld2
          refine wpAnyH_ready (rs := [17]) (by kernel_rfl) (by simp) ?_
          refine AllReadyH.cons rfl (fun K hK => ?_) AllReadyH.nil
          go_simp
          (refine (rIs_any HPwb.out.b pg 2).mono ?_; rintro e wb2 ⟨rfl, rfl⟩; rw [HIS.out])
          go_wp2_with fail
          refine hK.out _ _ ?_ (fun hHeld2 => ?_)
          · (first | go_keep | assumption)
          clear hK K hHeld
          have hHeld := hHeld2
          clear hHeld2
          refine wpAnyH_take (i := 18) (v := ?_) rfl (by kernel_rfl) (by kernel_rfl) (by kernel_rfl) (fun _ _ _ h => h) (Or.inl ⟨by rfl, ?_⟩) (by assumption) ?_
          rotate_left
          · (first | (intro w hSw; (try dsimp only at hSw); go_simp; done) | (intro w hSw; (try dsimp only at hSw); go_simp; with_reducible rfl))
          simp only [List.getElem_toArray, List.getElem_cons_succ, List.getElem_cons_zero, Act.put, List.setIfInBounds_toArray, List.set_cons_zero, List.set_cons_succ]
          refine wpAnyH_take (i := 19) (v := ?_) rfl (by kernel_rfl) (by kernel_rfl) (by kernel_rfl) (fun _ _ _ h => h) (Or.inl ⟨by rfl, ?_⟩) (by assumption) ?_
          rotate_left
          · (first | (intro w hSw; (try dsimp only at hSw); go_simp; done) | (intro w hSw; (try dsimp only at hSw); go_simp; with_reducible rfl))
          simp only [List.getElem_toArray, List.getElem_cons_succ, List.getElem_cons_zero, Act.put, List.setIfInBounds_toArray, List.set_cons_zero, List.set_cons_succ]
          refine wpAnyH_take (i := 20) (v := ?_) rfl (by kernel_rfl) (by kernel_rfl) (by kernel_rfl) (fun _ _ _ h => h) (Or.inl ⟨by rfl, ?_⟩) (by assumption) ?_
          rotate_left
          · (first | (intro w hSw; (try dsimp only at hSw); go_simp; done) | (intro w hSw; (try dsimp only at hSw); go_simp; with_reducible rfl))
          simp only [List.getElem_toArray, List.getElem_cons_succ, List.getElem_cons_zero, Act.put, List.setIfInBounds_toArray, List.set_cons_zero, List.set_cons_succ]
          refine wpAnyH_take (i := 21) (v := ?_) rfl (by kernel_rfl) (by kernel_rfl) (by kernel_rfl) (fun _ _ _ h => h) (Or.inl ⟨by rfl, ?_⟩) (by assumption) ?_
          rotate_left
          · (first | (intro w hSw; (try dsimp only at hSw); go_simp; done) | (intro w hSw; (try dsimp only at hSw); go_simp; with_reducible rfl))
          simp only [List.getElem_toArray, List.getElem_cons_succ, List.getElem_cons_zero, Act.put, List.setIfInBounds_toArray, List.set_cons_zero, List.set_cons_succ]
          refine wpAnyH_take (i := 22) (v := ?_) rfl (by kernel_rfl) (by kernel_rfl) (by kernel_rfl) (fun _ _ _ h => h) (Or.inl ⟨by rfl, ?_⟩) (by assumption) ?_
          rotate_left
          · (first | (intro w hSw; (try dsimp only at hSw); go_simp; done) | (intro w hSw; (try dsimp only at hSw); go_simp; with_reducible rfl))
          simp only [List.getElem_toArray, List.getElem_cons_succ, List.getElem_cons_zero, Act.put, List.setIfInBounds_toArray, List.set_cons_zero, List.set_cons_succ]
          refine wpAnyH_take (i := 23) (v := ?_) rfl (by kernel_rfl) (by kernel_rfl) (by kernel_rfl) (fun _ _ _ h => h) (Or.inl ⟨by rfl, ?_⟩) (by assumption) ?_
          rotate_left
          · (first | (intro w hSw; (try dsimp only at hSw); go_simp; done) | (intro w hSw; (try dsimp only at hSw); go_simp; with_reducible rfl))
          simp only [List.getElem_toArray, List.getElem_cons_succ, List.getElem_cons_zero, Act.put, List.setIfInBounds_toArray, List.set_cons_zero, List.set_cons_succ]
          refine wpAnyH_take (i := 25) (v := ?_) rfl (by kernel_rfl) (by kernel_rfl) (by kernel_rfl) (fun _ _ _ h => h) (Or.inl ⟨by rfl, ?_⟩) (by assumption) ?_
          rotate_left
          · (first | (intro w hSw; (try dsimp only at hSw); go_simp; done) | (intro w hSw; (try dsimp only at hSw); go_simp; with_reducible rfl))
          simp only [List.getElem_toArray, List.getElem_cons_succ, List.getElem_cons_zero, Act.put, List.setIfInBounds_toArray, List.set_cons_zero, List.set_cons_succ]
          refine wpAnyH_take (i := 26) (v := ?_) rfl (by kernel_rfl) (by kernel_rfl) (by kernel_rfl) (fun _ _ _ h => h) (Or.inl ⟨by rfl, ?_⟩) (by assumption) ?_
          rotate_left
          · (first | (intro w hSw; (try dsimp only at hSw); go_simp; done) | (intro w hSw; (try dsimp only at hSw); go_simp; with_reducible rfl))
          simp only [List.getElem_toArray, List.getElem_cons_succ, List.getElem_cons_zero, Act.put, List.setIfInBounds_toArray, List.set_cons_zero, List.set_cons_succ]
          refine wpAnyH_take (i := 27) (v := ?_) rfl (by kernel_rfl) (by kernel_rfl) (by kernel_rfl) (fun _ _ _ h => h) (Or.inl ⟨by rfl, ?_⟩) (by assumption) ?_
          rotate_left
          · (first | (intro w hSw; (try dsimp only at hSw); go_simp; done) | (intro w hSw; (try dsimp only at hSw); go_simp; with_reducible rfl))
          simp only [List.getElem_toArray, List.getElem_cons_succ, List.getElem_cons_zero, Act.put, List.setIfInBounds_toArray, List.set_cons_zero, List.set_cons_succ]
          refine wpAnyH_ready (rs := [24]) (by kernel_rfl) (by simp) ?_
          refine AllReadyH.cons rfl (fun K hK => ?_) AllReadyH.nil
          go_simp
          (refine (X.used HPwb.out.a pg HV.out).mono ?_; rintro e wd' ⟨rfl, hbd⟩; have HPwd' : Hid (Qs Sp w wd' s m F G S) := HPwb.out.below X hbd; have c1wd' : wd'.cell? ⟨ab, 1, none⟩ = some (.int .i64 pg) := (hbd.cell (p := ⟨ab, 1, none⟩) LABwb.out).trans HCwb.out; have HCwd' : Hid (wd'.cell? ⟨ab, 1, none⟩ = some (.int .i64 pg)) := c1wd'; have LABwd' : Hid (ab < wd'.heap.size) := Nat.lt_of_lt_of_le LABwb.out (hbd.size); rw [HUS.out]; clear hbd)
          go_wp2_with fail
          refine hK.out _ _ ?_ (fun hHeld2 => ?_)
          · (first | go_keep | assumption)
          clear hK K hHeld
          have hHeld := hHeld2
          clear hHeld2
          refine wpAnyH_take (i := 28) (v := ?_) rfl (by kernel_rfl) (by kernel_rfl) (by kernel_rfl) (fun _ _ _ h => h) (Or.inl ⟨by rfl, ?_⟩) (by assumption) ?_
          rotate_left
          · (first | (intro w hSw; (try dsimp only at hSw); go_simp; done) | (intro w hSw; (try dsimp only at hSw); go_simp; with_reducible rfl))
          simp only [List.getElem_toArray, List.getElem_cons_succ, List.getElem_cons_zero, Act.put, List.setIfInBounds_toArray, List.set_cons_zero, List.set_cons_succ]
          refine wpAnyH_take (i := 29) (v := undef) rfl (by kernel_rfl) (by kernel_rfl) (by kernel_rfl) (fun _ _ _ h => h) (Or.inr ⟨by rfl, rfl⟩) (by assumption) ?_
          simp only [List.getElem_toArray, List.getElem_cons_succ, List.getElem_cons_zero, Act.put, List.setIfInBounds_toArray, List.set_cons_zero, List.set_cons_succ]
          refine wpAnyH_take (i := 30) (v := undef) rfl (by kernel_rfl) (by kernel_rfl) (by kernel_rfl) (fun _ _ _ h => h) (Or.inr ⟨by rfl, rfl⟩) (by assumption) ?_
          simp only [List.getElem_toArray, List.getElem_cons_succ, List.getElem_cons_zero, Act.put, List.setIfInBounds_toArray, List.set_cons_zero, List.set_cons_succ]
          refine wpAnyH_take (i := 31) (v := undef) rfl (by kernel_rfl) (by kernel_rfl) (by kernel_rfl) (fun _ _ _ h => h) (Or.inr ⟨by rfl, rfl⟩) (by assumption) ?_
          simp only [List.getElem_toArray, List.getElem_cons_succ, List.getElem_cons_zero, Act.put, List.setIfInBounds_toArray, List.set_cons_zero, List.set_cons_succ]
          refine wpAnyH_take (i := 32) (v := undef) rfl (by kernel_rfl) (by kernel_rfl) (by kernel_rfl) (fun _ _ _ h => h) (Or.inr ⟨by rfl, rfl⟩) (by assumption) ?_
          simp only [List.getElem_toArray, List.getElem_cons_succ, List.getElem_cons_zero, Act.put, List.setIfInBounds_toArray, List.set_cons_zero, List.set_cons_succ]
          refine wpAnyH_take (i := 33) (v := ?_) rfl (by kernel_rfl) (by kernel_rfl) (by kernel_rfl) (fun _ _ _ h => h) (Or.inl ⟨by rfl, ?_⟩) (by assumption) ?_
          rotate_left
          · (first | (intro w hSw; (try dsimp only at hSw); go_simp; done) | (intro w hSw; (try dsimp only at hSw); go_simp; with_reducible rfl))
          simp only [List.getElem_toArray, List.getElem_cons_succ, List.getElem_cons_zero, Act.put, List.setIfInBounds_toArray, List.set_cons_zero, List.set_cons_succ]
          refine wpAnyH_take (i := 34) (v := ?_) rfl (by kernel_rfl) (by kernel_rfl) (by kernel_rfl) (fun _ _ _ h => h) (Or.inl ⟨by rfl, ?_⟩) (by assumption) ?_
          rotate_left
          · (first | (intro w hSw; (try dsimp only at hSw); go_simp; done) | (intro w hSw; (try dsimp only at hSw); go_simp; with_reducible rfl))
          simp only [List.getElem_toArray, List.getElem_cons_succ, List.getElem_cons_zero, Act.put, List.setIfInBounds_toArray, List.set_cons_zero, List.set_cons_succ]
          refine wpAnyH_take (i := 35) (v := undef) rfl (by kernel_rfl) (by kernel_rfl) (by kernel_rfl) (fun _ _ _ h => h) (Or.inr ⟨by rfl, rfl⟩) (by assumption) ?_
          simp only [List.getElem_toArray, List.getElem_cons_succ, List.getElem_cons_zero, Act.put, List.setIfInBounds_toArray, List.set_cons_zero, List.set_cons_succ]
          refine wpAnyH_take (i := 36) (v := undef) rfl (by kernel_rfl) (by kernel_rfl) (by kernel_rfl) (fun _ _ _ h => h) (Or.inr ⟨by rfl, rfl⟩) (by assumption) ?_
          simp only [List.getElem_toArray, List.getElem_cons_succ, List.getElem_cons_zero, Act.put, List.setIfInBounds_toArray, List.set_cons_zero, List.set_cons_succ]
          refine wpAnyH_take (i := 37) (v := undef) rfl (by kernel_rfl) (by kernel_rfl) (by kernel_rfl) (fun _ _ _ h => h) (Or.inr ⟨by rfl, rfl⟩) (by assumption) ?_
          simp only [List.getElem_toArray, List.getElem_cons_succ, List.getElem_cons_zero, Act.put, List.setIfInBounds_toArray, List.set_cons_zero, List.set_cons_succ]
          refine wpAnyH_take (i := 38) (v := undef) rfl (by kernel_rfl) (by kernel_rfl) (by kernel_rfl) (fun _ _ _ h => h) (Or.inr ⟨by rfl, rfl⟩) (by assumption) ?_
          simp only [List.getElem_toArray, List.getElem_cons_succ, List.getElem_cons_zero, Act.put, List.setIfInBounds_toArray, List.set_cons_zero, List.set_cons_succ]
          refine wpAnyH_take (i := 39) (v := undef) rfl (by kernel_rfl) (by kernel_rfl) (by kernel_rfl) (fun _ _ _ h => h) (Or.inr ⟨by rfl, rfl⟩) (by assumption) ?_
          simp only [List.getElem_toArray, List.getElem_cons_succ, List.getElem_cons_zero, Act.put, List.setIfInBounds_toArray, List.set_cons_zero, List.set_cons_succ]
          refine wpAnyH_take (i := 40) (v := ?_) rfl (by kernel_rfl) (by kernel_rfl) (by kernel_rfl) (fun _ _ _ h => h) (Or.inl ⟨by rfl, ?_⟩) (by assumption) ?_
          rotate_left
          · (first | (intro w hSw; (try dsimp only at hSw); go_simp; done) | (intro w hSw; (try dsimp only at hSw); go_simp; with_reducible rfl))
          simp only [List.getElem_toArray, List.getElem_cons_succ, List.getElem_cons_zero, Act.put, List.setIfInBounds_toArray, List.set_cons_zero, List.set_cons_succ]
          refine wpAnyH_take (i := 41) (v := ?_) rfl (by kernel_rfl) (by kernel_rfl) (by kernel_rfl) (fun _ _ _ h => h) (Or.inl ⟨by rfl, ?_⟩) (by assumption) ?_
          rotate_left
          · (first | (intro w hSw; (try dsimp only at hSw); go_simp; done) | (intro w hSw; (try dsimp only at hSw); go_simp; with_reducible rfl))
          simp only [List.getElem_toArray, List.getElem_cons_succ, List.getElem_cons_zero, Act.put, List.setIfInBounds_toArray, List.set_cons_zero, List.set_cons_succ]
          refine wpAnyH_take (i := 42) (v := ?_) rfl (by kernel_rfl) (by kernel_rfl) (by kernel_rfl) (fun _ _ _ h => h) (Or.inl ⟨by rfl, ?_⟩) (by assumption) ?_
          rotate_left
          · (first | (intro w hSw; (try dsimp only at hSw); go_simp; done) | (intro w hSw; (try dsimp only at hSw); go_simp; with_reducible rfl))
          simp only [List.getElem_toArray, List.getElem_cons_succ, List.getElem_cons_zero, Act.put, List.setIfInBounds_toArray, List.set_cons_zero, List.set_cons_succ]
          refine wpAnyH_take (i := 43) (v := ?_) rfl (by kernel_rfl) (by kernel_rfl) (by kernel_rfl) (fun _ _ _ h => h) (Or.inl ⟨by rfl, ?_⟩) (by assumption) ?_
          rotate_left
          · (first | (intro w hSw; (try dsimp only at hSw); go_simp; done) | (intro w hSw; (try dsimp only at hSw); go_simp; with_reducible rfl))
          simp only [List.getElem_toArray, List.getElem_cons_succ, List.getElem_cons_zero, Act.put, List.setIfInBounds_toArray, List.set_cons_zero, List.set_cons_succ]
          refine wpAnyH_take (i := 44) (v := ?_) rfl (by kernel_rfl) (by kernel_rfl) (by kernel_rfl) (fun _ _ _ h => h) (Or.inl ⟨by rfl, ?_⟩) (by assumption) ?_
          rotate_left
          · (first | (intro w hSw; (try dsimp only at hSw); go_simp; done) | (intro w hSw; (try dsimp only at hSw); go_simp; with_reducible rfl))
          simp only [List.getElem_toArray, List.getElem_cons_succ, List.getElem_cons_zero, Act.put, List.setIfInBounds_toArray, List.set_cons_zero, List.set_cons_succ]
          refine wpAnyH_take (i := 46) (v := ?_) rfl (by kernel_rfl) (by kernel_rfl) (by kernel_rfl) (fun _ _ _ h => h) (Or.inl ⟨by rfl, ?_⟩) (by assumption) ?_
          rotate_left
          · (first | (intro w hSw; (try dsimp only at hSw); go_simp; done) | (intro w hSw; (try dsimp only at hSw); go_simp; with_reducible rfl))
          simp only [List.getElem_toArray, List.getElem_cons_succ, List.getElem_cons_zero, Act.put, List.setIfInBounds_toArray, List.set_cons_zero, List.set_cons_succ]
          refine wpAnyH_ready (rs := [45]) (by kernel_rfl) (by simp) ?_
          refine AllReadyH.cons rfl (fun K hK => ?_) AllReadyH.nil
          go_simp
          (refine (X.bits HPwd'.out.a).mono ?_; rintro e wi ⟨gi, ci, rfl, hoi, hbi⟩; rw [HNB.out] at hoi ⊢; have HOI : Hid (Own 0 wi (.slice (some ⟨gi, 0, none⟩) nb ci) (bitL S)) := hoi.zero; have HPwi : Hid (Qs Sp w wi s m F G S) := HPwd'.out.below X hbi; have c1wi : wi.cell? ⟨ab, 1, none⟩ = some (.int .i64 pg) := (hbi.cell (p := ⟨ab, 1, none⟩) LABwd'.out).trans HCwd'.out; have HCwi : Hid (wi.cell? ⟨ab, 1, none⟩ = some (.int .i64 pg)) := c1wi; have LABwi : Hid (ab < wi.heap.size) := Nat.lt_of_lt_of_le LABwd'.out (hbi.size); clear hoi hbi)
          go_wp2_with fail
          refine hK.out _ _ ?_ (fun hHeld2 => ?_)
          · (first | go_keep | assumption)
          clear hK K hHeld
          have hHeld := hHeld2
          clear hHeld2
          refine wpAnyH_ready (rs := [47]) (by kernel_rfl) (by simp) ?_
          refine AllReadyH.cons rfl (fun K hK => ?_) AllReadyH.nil
          go_simp
          (refine (rBits_any HPwi.out.b).mono ?_; rintro e wj ⟨gj, cj, rfl, hoj, hbj⟩; rw [HNB.out] at hoj ⊢; have HOJ : Hid (Own 0 wj (.slice (some ⟨gj, 0, none⟩) nb cj) (bitL S)) := hoj.zero; have HOI2 : Hid (Own 0 wj (.slice (some ⟨gi, 0, none⟩) nb ci) (bitL S)) := own_kpb HOI.out hbj; have HPwj : Hid (Qs Sp w wj s m F G S) := HPwi.out.below X hbj; have c1wj : wj.cell? ⟨ab, 1, none⟩ = some (.int .i64 pg) := (hbj.cell (p := ⟨ab, 1, none⟩) LABwi.out).trans HCwi.out; have HCwj : Hid (wj.cell? ⟨ab, 1, none⟩ = some (.int .i64 pg)) := c1wj; have LABwj : Hid (ab < wj.heap.size) := Nat.lt_of_lt_of_le LABwi.out (hbj.size); clear hoj hbj)
          go_wp2_with fail
          refine hK.out _ _ ?_ (fun hHeld2 => ?_)
          · (first | go_keep | assumption)
          clear hK K hHeld
          have hHeld := hHeld2
          clear hHeld2
          refine wpAnyH_ready (rs := [48]) (by kernel_rfl) (by simp) ?_
          refine AllReadyH.cons rfl (fun K hK => ?_) AllReadyH.nil
          go_simp
          (refine (same_g HOI2.out HOJ.out (bitL_bys S) HBL.out).mono ?_; rintro e wk ⟨rfl, hbk⟩; have HPwk : Hid (Qs Sp w wk s m F G S) := HPwj.out.below X hbk; have c1wk : wk.cell? ⟨ab, 1, none⟩ = some (.int .i64 pg) := (hbk.cell (p := ⟨ab, 1, none⟩) LABwj.out).trans HCwj.out; have HCwk : Hid (wk.cell? ⟨ab, 1, none⟩ = some (.int .i64 pg)) := c1wk; have LABwk : Hid (ab < wk.heap.size) := Nat.lt_of_lt_of_le LABwj.out (hbk.size); clear hbk)
          go_wp2_with fail
          refine hK.out _ _ ?_ (fun hHeld2 => ?_)
          · (first | go_keep | assumption)
          clear hK K hHeld
          have hHeld := hHeld2
          clear hHeld2
          refine wpAnyH_take (i := 49) (v := ?_) rfl (by kernel_rfl) (by kernel_rfl) (by kernel_rfl) (fun _ _ _ h => h) (Or.inl ⟨by rfl, ?_⟩) (by assumption) ?_
          rotate_left
          · (first | (intro w hSw; (try dsimp only at hSw); go_simp; done) | (intro w hSw; (try dsimp only at hSw); go_simp; with_reducible rfl))
          simp only [List.getElem_toArray, List.getElem_cons_succ, List.getElem_cons_zero, Act.put, List.setIfInBounds_toArray, List.set_cons_zero, List.set_cons_succ]
          refine wpAnyH_take (i := 50) (v := ?_) rfl (by kernel_rfl) (by kernel_rfl) (by kernel_rfl) (fun _ _ _ h => h) (Or.inl ⟨by rfl, ?_⟩) (by assumption) ?_
          rotate_left
          · (first | (intro w hSw; (try dsimp only at hSw); go_simp; done) | (intro w hSw; (try dsimp only at hSw); go_simp; with_reducible rfl))
          simp only [List.getElem_toArray, List.getElem_cons_succ, List.getElem_cons_zero, Act.put, List.setIfInBounds_toArray, List.set_cons_zero, List.set_cons_succ]
          refine wpAnyH_done (by kernel_rfl) ?_ _
          go_wp2
          go_roundw
          case rel => exact ⟨k + 1, _, by omega, rfl, by go_num, _, _, _, HS.out, HPwk.out⟩
          case measure => simp [intOf]; omega
    · have e : k = l1.length := by omega
      subst e
      have HB : Hid (Below w.heap.size w wr) := hP.bel
      clear hP
      go_wp2
      go_ret
      exact ⟨rfl, HB.out⟩

end Go.Proofs.Ytdmahobldghojaa.spacePlays
