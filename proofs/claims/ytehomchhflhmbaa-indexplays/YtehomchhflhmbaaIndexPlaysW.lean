/- The walk: Whatever is seen, forgotten, edited: how much is seen, where lines begin and on which line a place is are those of the bytes. -/
import Derived.Test.YtehomchhflhmbaaXnf
import Derived.WalkKit
import Derived.ProofKit
import Derived.OpenShut
import Derived.ShutString
import Derived.ChangeOld
import Derived.Below
namespace Go.Proofs.Ytehomchhflhmbaa.indexPlays
open Go.ChangeShapes Go.WideShapes Go.ChangeAt Go.RowKit
open Go.Proofs.Ytehomchhflhmbaa.Oct
set_option linter.unusedVariables false


set_option maxHeartbeats 4000000 in
set_option maxRecDepth 100000 in
theorem walk {Ix : World → Nat → (Nat → Prop) → List Int → Prop} (X : IxC Ix) (a0 : Option Addr) (cap0 : Nat) (l0 : List Int) (a1 : Option Addr) (cap1 : Nat) (l1 : List Dx) (a2 : Int) (w : World) (w0 : Row w a0 cap0 l0) (n0 : a0 = none → cap0 = 0) (w1 : IsDxs w a1 cap1 l1) (w2 : -9223372036854775808 ≤ a2 ∧ a2 ≤ 9223372036854775807) :
    Calls Try.prog 4 #[.slice a0 l0.length cap0, .slice a1 l1.length cap1, .int .i64 a2] w fun e w' => e = .returned (.bool true) ∧ Below w.heap.size w w' := by
  have HR0 : Hid (Row w a0 cap0 l0) := w0
  have HL : Hid (IsDxs w a1 cap1 l1) := w1
  have HW2 : Hid (-9223372036854775808 ≤ a2 ∧ a2 ≤ 9223372036854775807) := w2
  have hc0 := w0.2.1
  have hm0 := w0.2.2.1
  have hc1 := w1.1
  have hm1 := w1.2.1
  unfold maxLen at hm0 hm1
  clear w0 w1 n0 w2
  obtain ⟨n, hn⟩ : ∃ n, l0.length = n := ⟨_, rfl⟩
  obtain ⟨m, hm⟩ : ∃ m, l1.length = m := ⟨_, rfl⟩
  have HN : Hid (l0.length = n ∧ l1.length = m) := ⟨hn, hm⟩
  have hrm := fun w' (hb : Below w.heap.size w w') => room_any a0 n cap0 a1 cap1 l1 w' (by omega) (HL.out.below hb) m hm
  have hcp := fun w' (hb : Below w.heap.size w w') => copy_any a0 cap0 l0 w' (HR0.out.below hb)
  rw [hn] at hc0 hcp ⊢
  rw [hm] at hc1 ⊢
  clear hn hm
  cases hb : rmB n l1 with
  | false =>
    rw [hb] at hrm
    go_enter Try.func4, Try.ntmps4
    go_wp2_with (first
      | (go_at_call 7; refine (awake16 X w).mono ?_; rintro e w1 ⟨rfl, hb0⟩
         have hrm1 := hrm w1 hb0
         have H0 : Hid (Below w.heap.size w w1) := hb0
         clear hb0 hrm hcp)
      | (go_at_call 14; refine hrm1.mono ?_; clear hrm1; rintro e w' ⟨rfl, rfl⟩))
    go_ret
    exact ⟨rfl, H0.out⟩
  | true =>
    rw [hb] at hrm
    obtain ⟨hn3, hm1x⟩ := rmB_len hb
    have hm100 : m ≤ 100 := by have := HN.out.2; omega
    have HRM : Hid (rmB n l1 = true) := hb
    clear hb hm1x
    go_enter Try.func4, Try.ntmps4
    go_wp2_with (first
      | (go_at_call 7; refine (awake16 X w).mono ?_; rintro e w1 ⟨rfl, hb0⟩
         have hrm1 := hrm w1 hb0
         have hnw := X.new w1
         have H0 : Hid (Below w.heap.size w w1) := hb0
         clear hb0 hrm)
      | (go_at_call 14; refine hrm1.mono ?_; clear hrm1; rintro e w' ⟨rfl, rfl⟩)
      | (go_at_call 8; refine hnw.mono ?_; clear hnw; rintro e w2 ⟨s, F, rfl, h1, hb1, hF⟩
         have H1 : Hid (IxL Ix w w2 s F []) := ⟨h1, fun k hk => Nat.le_trans H0.out.size (hF k hk), H0.out.trans (hb1.mono H0.out.size)⟩
         have hcp1 := hcp w2 H1.out.b (by omega)
         clear h1 hb1 hF hcp)
      | (go_at_call 15; refine hcp1.mono ?_; clear hcp1; rintro e w3 ⟨v, rfl, ho, hb3⟩
         obtain ⟨ab, cb, rfl, g1, g2, g3⟩ := own_parts ho HR0.out.1
         have H3 : Hid (∃ F, PlI Ix w w3 s F ab cb l0 0) := ⟨F, H1.out.keep X hb3, g1, g2, fun x hx => ⟨fun hf => by have := (g3 x hx).1; have := X.lt H1.out.a _ hf; omega, (g3 x hx).2⟩, Nat.zero_le _⟩
         clear ho hb3 g1 g2 g3 H1
         rw [HN.out.1]))
    go_loopg [0, 8, 9] m (fun gh vb vs vi wr => ∃ (i p nb : Nat) (zs : List Int) (a : Option Addr) (cap : Nat), i ≤ m ∧ gh = m - i ∧ vi = .int .i64 (i : Int) ∧ vs = .int .i64 (p : Int) ∧ vb = .slice a nb cap ∧ nb ≤ 3000 + 200 * i ∧ p ≤ nb ∧ Hid (zs.length = nb ∧ ∃ F, PlI Ix w wr s F a cap zs p))
    case atStart => exact ⟨0, 0, n, l0, _, _, Nat.zero_le _, rfl, rfl, rfl, rfl, by omega, Nat.zero_le _, HN.out.1, H3.out⟩
    case round =>
      clear H3
      obtain ⟨i, p, nb, zs, a, cap, hi, hgk, rfl, rfl, rfl, hnb, hp, H4⟩ := hrel
      have HGK : Hid (gk = m - i) := hgk
      clear hgk
      obtain ⟨hz, F1, h4⟩ := H4.out
      clear H4
      have hcc := h4.r.2.1
      have hcm := h4.r.2.2.1
      unfold maxLen at hcm
      rw [hz] at hcc
      have HZ : Hid (zs.length = nb) := hz
      clear hz
      by_cases him : i < m
      · obtain ⟨bb, off, rfl, hde⟩ := HL.out.at i (by have := HN.out.2; omega)
        have hd200 := rmB_at HRM.out (i := i) (by have := HN.out.2; omega)
        obtain ⟨dd, hdd⟩ : ∃ dd, l1.getD i noDx = dd := ⟨_, rfl⟩
        rw [hdd] at hde hd200
        obtain ⟨dl, hdl⟩ : ∃ dl, dd.b.length = dl := ⟨_, rfl⟩
        have HD : Hid (DxAt w bb (off + i * 4) dd ∧ dd.b.length = dl) := ⟨hde, hdl⟩
        obtain ⟨x0, x1, x2, x3, xr, xn, ⟨u1, u2⟩, ⟨v1, v2⟩, ⟨t1, t2⟩⟩ := hde.below h4.x.b
        have hrc := xr.2.1
        have hrk := xr.2.2.1
        unfold maxLen at hrk
        rw [hdl] at x3 hd200 hrc
        obtain ⟨o, ho⟩ : ∃ o, dd.do' = o := ⟨_, rfl⟩
        obtain ⟨q, hq⟩ : ∃ q, dd.p = q := ⟨_, rfl⟩
        obtain ⟨t, ht⟩ : ∃ t, dd.n = t := ⟨_, rfl⟩
        obtain ⟨ba, hba⟩ : ∃ ba, dd.ba = ba := ⟨_, rfl⟩
        obtain ⟨bc, hbc⟩ : ∃ bc, dd.bc = bc := ⟨_, rfl⟩
        obtain ⟨ys, hys⟩ : ∃ ys, dd.b = ys := ⟨_, rfl⟩
        have HY : Hid (Row w ba bc ys ∧ ys.length = dl ∧ (ba = none → bc = 0)) := by
          rw [← hba, ← hbc, ← hys]
          exact ⟨hde.row, hdl, hde.nil⟩
        rw [ho] at x0 u1 u2
        rw [hq] at x1 v1 v2
        rw [ht] at x2 t1 t2
        rw [hba, hbc] at x3
        rw [hbc] at hrc hrk
        have hic : i < cap1 := by omega
        clear hdd hde hdl ho hq ht hba hbc hys xr xn
        have hb5 : Below wr.heap.size wr (wr.alloc (.cells #[.int .i64 o, .int .i64 q, .int .i64 t, .slice ba dl bc] 35)) := (Below.refl _ wr).alloc (Nat.le_refl _) _
        have hn5 := heap_alloc_new wr (.cells #[.int .i64 o, .int .i64 q, .int .i64 t, .slice ba dl bc] 35)
        have HP : Hid (PlI Ix w (wr.alloc (.cells #[.int .i64 o, .int .i64 q, .int .i64 t, .slice ba dl bc] 35)) s F1 a cap zs p ∧ ¬ F1 wr.heap.size) := ⟨h4.keep X hb5, fun e => by have := X.lt h4.x.a _ e; omega⟩
        obtain ⟨wd, hwd⟩ : ∃ wd, wr.alloc (.cells #[.int .i64 o, .int .i64 q, .int .i64 t, .slice ba dl bc] 35) = wd := ⟨_, rfl⟩
        obtain ⟨ab, hab⟩ : ∃ ab, wr.heap.size = ab := ⟨_, rfl⟩
        rw [hwd, hab] at HP hn5
        have m0 : wd.cell? ⟨ab, 0, none⟩ = some (.int .i64 o) := by rw [cell_of_row wd ab 0 _ _ (0, 0) hn5]; rfl
        have m1 : wd.cell? ⟨ab, 1, none⟩ = some (.int .i64 q) := by rw [cell_of_row wd ab 1 _ _ (0, 0) hn5]; rfl
        have m2 : wd.cell? ⟨ab, 2, none⟩ = some (.int .i64 t) := by rw [cell_of_row wd ab 2 _ _ (0, 0) hn5]; rfl
        have m3 : wd.cell? ⟨ab, 3, none⟩ = some (.slice ba dl bc) := by rw [cell_of_row wd ab 3 _ _ (0, 0) hn5]; rfl
        have lab : ab < wd.heap.size := heap_lt hn5
        have HM : Hid (∀ F' w', Step F1 F' wd w' → w'.cell? ⟨ab, 1, none⟩ = some (.int .i64 q) ∧ w'.cell? ⟨ab, 2, none⟩ = some (.int .i64 t) ∧ w'.cell? ⟨ab, 3, none⟩ = some (.slice ba dl bc) ∧ ab < w'.heap.size) := fun F' w' st => ⟨(st.1.cell lab HP.out.2).trans m1, (st.1.cell lab HP.out.2).trans m2, (st.1.cell lab HP.out.2).trans m3, Nat.lt_of_lt_of_le lab st.1.size⟩
        have HX : Hid (PlI Ix w wd s F1 a cap zs p) := HP.out.1
        clear hb5 h4 hn5 HP
        go_upto_block 2 with fail
        go_cut [0, 8] (fun vb vs wx => ∃ (p' nb' cap' : Nat) (a' : Option Addr) (zs' : List Int), vs = .int .i64 (p' : Int) ∧ vb = .slice a' nb' cap' ∧ nb' ≤ 3000 + 200 * (i + 1) ∧ p' ≤ nb' ∧ wx.cell? ⟨ab, 1, none⟩ = some (.int .i64 q) ∧ wx.cell? ⟨ab, 2, none⟩ = some (.int .i64 t) ∧ Hid (zs'.length = nb' ∧ ∃ F, PlI Ix w wx s F a' cap' zs' p'))
        case first =>
          by_cases h2 : o ≤ 2
          · go_wp2_with fail
            all_goals (
              refine (HX.out.rest X (by have := HZ.out; omega) _ _ _ (by have := HZ.out; omega) (by omega) (fun h => ⟨?_, ?_⟩)).mono ?_
              · first | rfl | (exfalso; omega)
              · first | rfl | omega
              rintro e w5 ⟨rfl, F', h5, st5⟩
              obtain ⟨c1, c2, -, -⟩ := HM.out F' w5 st5
              have H5 : Hid _ := h5
              clear h5 st5 m0 m1 m2 m3
              go_wp2
              go_meet
              refine ⟨_, nb, cap, a, zs, ?_, ?_, by omega, ?_, c1, c2, HZ.out, F', H5.out⟩
              · first | rfl | (congr 1; omega)
              · first | rfl | (congr 1; omega)
              · omega)
          by_cases h3 : o = 3
          · subst h3
            have hct := fun m' hm' => HX.out.cut X q ⟨v1, v2⟩ m' hm'
            by_cases hq : 0 ≤ q ∧ q ≤ (p : Int)
            · obtain ⟨q', rfl⟩ : ∃ q' : Nat, q = (q' : Int) := ⟨q.toNat, by omega⟩
              have hc2 := hct q' (.inl ⟨hq.1, hq.2, rfl⟩)
              clear hct
              go_wp2_with fail
              refine hc2.mono ?_
              clear hc2
              rintro e w5 ⟨rfl, F', h5, st5⟩
              obtain ⟨c1, c2, -, -⟩ := HM.out F' w5 st5
              have H5 : Hid _ := h5
              clear h5 st5 m0 m1 m2 m3
              go_wp2
              go_meet
              exact ⟨q', nb, cap, a, zs, rfl, rfl, by omega, by omega, c1, c2, HZ.out, F', H5.out⟩
            · have hc2 := hct p (.inr ⟨hq, rfl⟩)
              clear hct
              go_wp2_with fail
              refine hc2.mono ?_
              clear hc2
              rintro e w5 ⟨rfl, F', h5, st5⟩
              obtain ⟨c1, c2, -, -⟩ := HM.out F' w5 st5
              have H5 : Hid _ := h5
              clear h5 st5 m0 m1 m2 m3
              have hqs : q < 0 ∨ (0 ≤ q ∧ (p : Int) < q) := by omega
              rcases hqs with hqs | ⟨hqs, hqt⟩
              all_goals (
                go_wp2
                go_meet
                exact ⟨p, nb, cap, a, zs, rfl, rfl, by omega, by omega, c1, c2, HZ.out, F', H5.out⟩)
          have hys : ys = [] ∨ Apart F1 ba := HX.out.x.apart HY.out.1
          have hyr : Row wd ba bc ys := HY.out.1.below HX.out.x.b
          by_cases h4 : q < 0 ∨ t < 0 ∨ (p : Int) < q
          · have hed := HX.out.edit0 X (by have := HZ.out; omega) q t ⟨v1, v2⟩ ⟨t1, t2⟩ ba bc ys dl hyr HY.out.2.1 hys (by omega) h4
            clear hys hyr
            go_wp2_with fail
            refine hed.mono ?_
            clear hed
            rintro e w5 ⟨rfl, F', h5, st5⟩
            obtain ⟨c1, c2, -, -⟩ := HM.out F' w5 st5
            have H5 : Hid _ := h5
            clear h5 st5 m0 m1 m2 m3
            have hqs : q < 0 ∨ (0 ≤ q ∧ t < 0) ∨ (0 ≤ q ∧ 0 ≤ t ∧ (p : Int) < q) := by omega
            rcases hqs with hqs | ⟨hqs, hqt⟩ | ⟨hqs, hqt, hqu⟩
            all_goals (
              go_wp2
              go_meet
              exact ⟨p, nb, cap, a, zs, rfl, rfl, by omega, by omega, c1, c2, HZ.out, F', H5.out⟩)
          obtain ⟨q', rfl⟩ : ∃ q' : Nat, q = (q' : Int) := ⟨q.toNat, by omega⟩
          by_cases h5 : (p : Int) - q' < t
          · have hed := HX.out.edit1 X (by have := HZ.out; omega) q' t (by omega) ba bc ys dl hyr HY.out.2.1 hys (by omega) (by omega) h5
            clear hys hyr
            go_wp2_with fail
            refine hed.mono ?_
            clear hed
            rintro e w5 ⟨rfl, F', h5, st5⟩
            obtain ⟨c1, c2, -, -⟩ := HM.out F' w5 st5
            have H5 : Hid _ := h5
            clear h5 st5 m0 m1 m2 m3
            go_wp2
            go_meet
            exact ⟨q', nb, cap, a, zs, rfl, rfl, by omega, by omega, c1, c2, HZ.out, F', H5.out⟩
          obtain ⟨t', rfl⟩ : ∃ t' : Nat, t = (t' : Int) := ⟨t.toNat, by omega⟩
          have hed := HX.out.edit2 X (by have := HZ.out; omega) q' t' ba bc ys dl hyr HY.out.2.1 hys (by omega) (by omega)
          clear hys hyr
          go_wp2_with fail
          refine hed.mono ?_
          clear hed
          rintro e w5 ⟨rfl, F', h5, st5, r5, a5⟩
          obtain ⟨c1, c2, c3, c4⟩ := HM.out F' w5 st5
          have hcp := copy_any a cap _ w5.drew ((r5.take' q' cap (by have := HZ.out; omega) (by omega) (Nat.le_refl _)).ch (F := fun _ => False) (Ch.refl _ _ _).drew (fun _ _ h => h)) (by rw [List.length_take]; omega)
          rw [show (zs.take q').length = q' from by rw [List.length_take]; have := HZ.out; omega] at hcp
          have H5 : Hid (IxL Ix w w5 s F' ((zs.take q' ++ ys ++ zs.drop (q' + t')).take (p + dl - t')) ∧ Row w5 a cap zs ∧ (∀ x, a = some x → ¬ F' x.block ∧ x.block < w5.heap.size) ∧ (∀ k, F' k → k < w5.heap.size) ∧ (a = none → cap = 0)) := ⟨h5, r5, a5, fun k hk => X.lt h5.a k hk, HX.out.n⟩
          clear h5 st5 r5 a5 m0 m1 m2 m3
          have hqc : q' ≤ cap := by omega
          have hbt : Bys (zs.take q') := fun z hz => H5.out.2.1.1 z (List.mem_of_mem_take hz)
          have htl : (zs.take q').length = q' := by rw [List.length_take]; have := HZ.out; omega
          go_wp2_with fail
          go_region_held3 (fun w' => w'.cell? ⟨ab, 1, none⟩ = some (.int .i64 (q' : Int)) ∧ w'.cell? ⟨ab, 3, none⟩ = some (.slice ba dl bc)) (first | go_keep | exact ⟨by assumption, by assumption⟩) (first | (go_at_call 15; refine hcp.mono ?_; clear hcp; rintro e w6 ⟨v, rfl, ho, hb6⟩; have d1 := (hb6.cell (p := ⟨ab, 1, none⟩) c4).trans c1; have d2 := (hb6.cell (p := ⟨ab, 2, none⟩) c4).trans c2; have d3 := (hb6.cell (p := ⟨ab, 3, none⟩) c4).trans c3; have d4 : ab < w6.heap.size := Nat.lt_of_lt_of_le c4 hb6.size; have hr6 : Row w6 ba bc ys := HY.out.1.below ((H5.out.1.b.drew).trans (hb6.mono H5.out.1.b.size)); obtain ⟨a6, c6, hv6, -, -, -⟩ := own_parts ho hbt; rw [htl] at hv6; subst hv6; have H6 : Hid (Own w5.heap.size w6 (.slice a6 q' c6) (zs.take q') ∧ Below w5.heap.size w5 w6) := ⟨ho, (Below.refl _ _).drew.trans hb6⟩; clear c1 c2 c3 ho hb6) | (have _t := d3; clear _t; refine step_append_row (by rfl) (.tmp 69) (.tmp 71) (by rfl) w5.heap.size _ (zs.take q') (by rfl) H6.out.1 ba ys dl bc (by rfl) HY.out.2.1 hr6 HY.out.2.2 (by rw [htl, HY.out.2.1]; omega) H6.out.2.size ?_; intro v7 w7 ho7 hb7; have e1 := (hb7.cell (p := ⟨ab, 1, none⟩) c4).trans d1; have e2 := (hb7.cell (p := ⟨ab, 2, none⟩) c4).trans d2; have e3 := (hb7.cell (p := ⟨ab, 3, none⟩) c4).trans d3; have hbb : Bys (zs.take q' ++ ys) := hbt.app HY.out.1.1; have hll : (zs.take q' ++ ys).length = q' + dl := (by rw [List.length_append, htl, HY.out.2.1]); obtain ⟨a7, c7, hv7, -, -, -⟩ := own_parts ho7 hbb; rw [hll] at hv7; subst hv7; have H7 : Hid (Own w5.heap.size w7 (.slice a7 (q' + dl) c7) (zs.take q' ++ ys) ∧ Below w5.heap.size w5 w7) := ⟨ho7, H6.out.2.trans hb7⟩; clear d1 d2 d3 d4 ho7 hb7 hr6 hbb hll))
          obtain ⟨r2, r3⟩ := row_rest (H5.out.2.1.below H7.out.2) H5.out.2.2.2.2 (q' + t') (by have := HZ.out; omega)
          have hb9 : Bys (zs.take q' ++ ys ++ zs.drop (q' + t')) := (hbt.app HY.out.1.1).app fun z hz => H5.out.2.1.1 z (List.mem_of_mem_drop hz)
          have hl7 : (zs.take q' ++ ys).length = q' + dl := by rw [List.length_append, htl, HY.out.2.1]
          have hl9 : (zs.take q' ++ ys ++ zs.drop (q' + t')).length = q' + dl + (nb - (q' + t')) := by rw [List.length_append, hl7, List.length_drop, HZ.out]
          have hqt : q' + t' ≤ p := by omega
          have hqt2 : q' + t' ≤ cap := by omega
          go_wp2_with (at_builtin; refine append_rowN rfl _ _ rfl w5.heap.size _ (zs.take q' ++ ys) rfl H7.out.1 _ (zs.drop (q' + t')) _ _ rfl (by first | (rw [List.length_drop, HZ.out]; done) | (rw [List.length_drop, HZ.out]; omega)) r2 r3 (by rw [hl7, List.length_drop, HZ.out]; omega) H7.out.2.size ?_; intro v9 w9 ho9 hw9; obtain ⟨a9, c9, hv9, g1, g2, g3⟩ := own_parts ho9 hb9; rw [hl9] at hv9; subst hv9; have f1 := (hw9.cell (p := ⟨ab, 1, none⟩) c4).trans e1; have f2 := (hw9.cell (p := ⟨ab, 2, none⟩) c4).trans e2; have f3 := (hw9.cell (p := ⟨ab, 3, none⟩) c4).trans e3; have H9 : Hid (PlI Ix w w9 s F' a9 c9 (zs.take q' ++ ys ++ zs.drop (q' + t')) (p + dl - t')) := ⟨H5.out.1.keep X (H7.out.2.trans hw9), g1, g2, fun x hx => ⟨fun hf => by have := (g3 x hx).1; have := H5.out.2.2.2.1 _ hf; omega, (g3 x hx).2⟩, by rw [hl9]; omega⟩; clear e1 e2 e3 ho9 hw9 g1 g2 g3)
          all_goals (
            go_meet
            refine ⟨p + dl - t', q' + dl + (nb - (q' + t')), _, _, zs.take q' ++ ys ++ zs.drop (q' + t'), ?_, rfl, by omega, by omega, f1, f2, hl9, F', H9.out⟩
            congr 1; omega)
        case rest =>
          clear HX HM m0 m1 m2 m3 lab
          obtain ⟨p', nb', cap', a', zs', rfl, rfl, hnb', hp', c1, c2, hz'⟩ := hcut
          obtain ⟨hz', F'', h'⟩ := hz'.out
          have hlk := looks_any X h'.x.a a' cap' nb' h'.r hz' hp' q a2 ⟨v1, v2⟩ HW2.out
          have hlk2 := fun w' (hb : Below wc.heap.size wc w') => looks_any X (h'.keep X hb).x.a a' cap' nb' (h'.r.below hb) hz' hp' (p' : Int) t (by omega) ⟨t1, t2⟩
          have lc := block_lt_of_cell c2
          have HQ : Hid (zs'.length = nb' ∧ PlI Ix w wc s F'' a' cap' zs' p') := ⟨hz', h'⟩
          clear hz' h'
          go_wp2_with (first
            | (go_at_call 17; refine hlk.mono ?_; clear hlk; rintro e w6 ⟨rfl, hb6⟩
               have d2 := (hb6.cell (p := ⟨ab, 2, none⟩) lc).trans c2
               have hlk3 := hlk2 w6 hb6
               have HQ6 : Hid (zs'.length = nb' ∧ PlI Ix w w6 s F'' a' cap' zs' p') := ⟨HQ.out.1, HQ.out.2.keep X hb6⟩
               clear hb6 hlk2)
            | (go_at_call 17; refine hlk3.mono ?_; clear hlk3; rintro e w7 ⟨rfl, hb7⟩
               have HQ7 : Hid (zs'.length = nb' ∧ ∃ F, PlI Ix w w7 s F a' cap' zs' p') := ⟨HQ6.out.1, F'', HQ6.out.2.keep X hb7⟩
               clear hb7))
          go_roundg (m - (i + 1))
          case rel => exact ⟨i + 1, p', nb', zs', a', cap', by omega, rfl, by go_num, rfl, rfl, hnb', hp', HQ7.out⟩
          case measure => have := HGK.out; omega
      · have him' : i = m := by omega
        subst him'
        have HB : Hid (Below w.heap.size w wr) := h4.x.b
        clear h4
        go_wp2
        go_ret
        exact ⟨rfl, HB.out⟩

end Go.Proofs.Ytehomchhflhmbaa.indexPlays
