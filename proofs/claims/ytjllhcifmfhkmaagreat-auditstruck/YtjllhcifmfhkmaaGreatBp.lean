/-
  The document's walker: tree, an inner page, too.
-/
import Derived.Test.YtjllhcifmfhkmaaGreatAul
import Derived.BigRegion
import Derived.Test.YtjllhcifmfhkmaaGreatVd
import Derived.Deep.LoopGhost
namespace Go.Proofs.YtjllhcifmfhkmaaGreat.Oct
open Go.RowKit

section
variable {w w' : World} {p ic : Nat} {F : Nat → Prop} {ia : Option Addr} {L : List Int} {q : Nat → Value} {W : Wk}

set_option maxHeartbeats 4000000 in
set_option maxRecDepth 20000 in
theorem tree_s (hLB : Bys L) (lv : Nat) (hlv : lv ≤ 40) (IH : TreeC p ia ic L q lv) (h : RWA w p F ia ic L q W) (hbad : W.bad = false) (hok : WkOk W) (hk0 : 0 < W.kd.length) (n : Int) (hk : kdB W n 116 = true) (root : Bool) (z : List Int) (hz : pageOf L n.toNat = z) (l : List C4) (hL : reL true z = l) (m : Nat) (hm : l.length = m) (lv1 : Nat) (hlv1 : lv + 1 = lv1) (hE : reE true z = 0) (hV : reV true z = (lv1 : Int)) (hmm : m < 2) :
    Calls Tryz.prog 45 #[.pointer (some ⟨p, 0, none⟩), .int .i64 n, .int .i64 (lv1 : Int), .bool root] w fun e w' => e = .returned (s3V (kdGo (wtr L lv false) l ({ W with kd := W.kd.set n.toNat 116, bad := true }, s30)).2) ∧ ∃ F', RWA w' p F' ia ic L q (kdGo (wtr L lv false) l ({ W with kd := W.kd.set n.toNat 116, bad := true }, s30)).1 ∧ Step F F' w w' := by
  obtain ⟨gk, ck, aP, aT, cP, cT, h⟩ := h
  have hp := page_yes (h.below hk0 (w' := w.alloc (.cells #[.int .i64 0, .int .i64 0, .int .i64 0] 98)) ((Below.refl _ w).alloc (Nat.le_refl _) _)) n 116 (by omega) hk
  rw [hz] at hp
  have HA : Hid (∀ w1, Ch (w.alloc (.cells #[.int .i64 0, .int .i64 0, .int .i64 0] 98)).heap.size F (w.alloc (.cells #[.int .i64 0, .int .i64 0, .int .i64 0] 98)) w1 → At3 w1 w.heap.size s30 ∧ Step F F w w1) := fun w1 hc => by
    refine ⟨?_, Step.of ((Ch.of F ((Below.refl _ w).alloc (Nat.le_refl _) _)).trans (hc.mono (by simp) (fun _ _ e => e)))⟩
    show w1.heap[w.heap.size]? = _
    rw [hc.block w.heap.size (by simp) (fun e => by have := h.lt _ e; omega)]
    exact heap_alloc_new w _
  have hlb := reL_bd (t := true) (page_bys hLB n.toNat)
  rw [hz, hL] at hlb
  have HOK : Hid ((WkOk W ∧ W.bad = false ∧ 0 < W.kd.length) ∧ (¬ F w.heap.size ∧ ¬ obl ia w.heap.size) ∧ Bys L ∧ (∀ x ∈ l, okC true x = true) ∧ l.length = m ∧ lv + 1 = lv1) := ⟨⟨hok, hbad, hk0⟩, ⟨fun e => by have := h.lt _ e; omega, fun e => by have := h.ilt hk0 _ e; omega⟩, hLB, hlb.2, hm, hlv1⟩
  have HFL : Hid (∀ k, F k → k < w.heap.size) := h.lt
  have HIH : Hid (TreeC p ia ic L q lv) := IH
  obtain ⟨fin, hfin⟩ : ∃ fin, kdGo (wtr L lv false) l ({ W with kd := W.kd.set n.toNat 116, bad := true }, s30) = fin := ⟨_, rfl⟩
  have HFIN : Hid (kdGo (wtr L lv false) l ({ W with kd := W.kd.set n.toNat 116, bad := true }, s30) = fin) := hfin
  rw [hfin]
  have hm20 : m ≤ 20 := by omega
  have HEV : Hid (reE true z = 0 ∧ reV true z = (lv1 : Int) ∧ reL true z = l) := ⟨hE, hV, hL⟩
  have hlvi : ((lv1 : Int) - 1) = (lv : Int) := by omega
  have hlv0 : 0 < lv1 := by omega
  have hlv2 : lv1 ≤ 50 := by omega
  obtain ⟨rb, hrb⟩ : ∃ rb, w.heap.size = rb := ⟨_, rfl⟩
  have HRB : Hid (w.heap.size = rb) := hrb
  clear h hk hok hbad hk0 hLB hlb hz hL hfin hm IH hlv1 hrb hE hV hlv
  go_enter Tryz.func45, Tryz.ntmps45
  go_wp2_with fail
  refine hp.mono ?_
  clear hp
  rintro e w1 ⟨⟨a', c', rfl, hr1, hl1, -⟩, h1, hc1⟩
  obtain ⟨h3, st⟩ := HA.out w1 hc1
  obtain ⟨-, -, -, -, c16⟩ := h1.at
  have z16 := h1.frz 16
  simp only [HOK.out.1.2.1] at c16
  rw [HRB.out] at h3 ⊢
  have hkd := rkids_v (some a') c' 256 z w1 hr1 hl1 _ HEV.out.1 l HEV.out.2.2 m HOK.out.2.2.2.2.1 _ HEV.out.2.1
  have H1 : Hid (RWA w1 p F ia ic L q { W with kd := W.kd.set n.toNat 116 } ∧ Step F F w w1 ∧ At3 w1 rb s30) := ⟨⟨_, _, _, _, _, _, h1⟩, st, h3⟩
  have hlp : p < w1.heap.size := h1.lt p h1.fp
  clear h1 hc1 h3 st hr1 hl1 HA
  go_wp2_with fail
  refine hkd.mono ?_
  clear hkd
  rintro e w2 ⟨g, c, rfl, hown, hb2⟩
  have d16 := (hb2.cell (p := ⟨p, 16, none⟩) hlp).trans c16
  have y16 := (hb2.frozen (p := ⟨p, 16, none⟩) hlp).trans z16
  have HNK : Hid (0 < (W.kd.set n.toNat 116).length) := by show 0 < _; rw [List.length_set]; exact HOK.out.1.2.2
  have H2 : Hid (RWA w2 p F ia ic L q { W with kd := W.kd.set n.toNat 116 } ∧ Ch w.heap.size F w w2 ∧ At3 w2 rb s30 ∧ RowC w2 g c l ∧ (∀ k, obl g k → ¬ F k ∧ k < w2.heap.size)) := by
    refine ⟨H1.out.1.below HNK.out hb2, H1.out.2.1.1.trans (Ch.of F (hb2.mono H1.out.2.1.1.size)), H1.out.2.2.keep (hb2.block rb H1.out.2.2.lt), (OwnC.row' hown (fun x hx => wfC_ok (HOK.out.2.2.2.1 x hx))).2.1, fun k hk => ?_⟩
    have := World.ownsRow.lt hown k (own_obl hk)
    exact ⟨fun e => by have := H1.out.1.lt k e; omega, this.2⟩
  clear hown hb2 c16 z16 H1 hlp
  go_wp2
  have HI0 : Hid (TrI w ((w2.setCell ⟨p, 16, none⟩ (.bool true)).alloc (.cells #[.int .i64 0, .int .i64 0, .int .i64 0] 98)) p F F ia ic L q (W.kd.set n.toNat 116).length lv l g rb w2.heap.size 0 { W with kd := W.kd.set n.toNat 116, bad := true } s30 fin) := by
    have hch : Ch w2.heap.size (fun x => x = p) w2 (w2.setCell ⟨p, 16, none⟩ (.bool true)) := (Ch.refl _ (fun x => x = p) w2).setCell (p := ⟨p, 16, none⟩) (.inr rfl) _
    have hnp : ¬ rb = p := fun e => by have := HFL.out p H2.out.1.fp; have := HRB.out; omega
    have := TrI.start (lv := lv) (fin := fin) (H2.out.1.setBad true) (wpk_bd HOK.out.1.1 n.toNat 116) HNK.out (H2.out.2.1.trans (hch.mono H2.out.2.1.size (fun k hk e => e ▸ H2.out.1.fp))) (H2.out.2.2.1.keep (hch.block rb H2.out.2.2.1.lt hnp)) (fun k hk => by rw [size_setCell]; exact H2.out.2.2.2.2 k hk) (H2.out.2.2.2.1.keepO (fun g hg => hch.block g (H2.out.2.2.2.2 g hg).2 (fun e => (H2.out.2.2.2.2 g hg).1 (e ▸ H2.out.1.fp)))) (by rw [← HRB.out]; exact HOK.out.2.1) HFIN.out
    rw [size_setCell] at this
    exact this
  obtain ⟨sb, hsb⟩ : ∃ sb, w2.heap.size = sb := ⟨_, rfl⟩
  have HRS : Hid (rb < sb) := by show _ < _; rw [← hsb]; exact H2.out.2.2.1.lt
  rw [hsb] at HI0 ⊢
  obtain ⟨wq, hwq⟩ : ∃ wq, (w2.setCell ⟨p, 16, none⟩ (.bool true)) = wq := ⟨_, rfl⟩
  rw [hwq] at HI0 ⊢
  clear hwq
  obtain ⟨w3, hw3⟩ : ∃ w3, wq.alloc (.cells #[.int .i64 0, .int .i64 0, .int .i64 0] 98) = w3 := ⟨_, rfl⟩
  rw [hw3] at HI0 ⊢
  clear hw3 hsb H2 d16 y16 HFIN HEV hmm
  go_loopw [14] (fun i wr => ∃ (k : Nat) (W' : Wk) (s' : S3) (F' : Nat → Prop), k ≤ m ∧ i = .int .i64 k ∧ Hid (TrI w wr p F F' ia ic L q (W.kd.set n.toNat 116).length lv l g rb sb k W' s' fin)) (fun i _ => m - (intOf i).toNat)
  case atStart => exact ⟨0, _, _, _, Nat.zero_le _, rfl, HI0.out⟩
  case round =>
    clear HI0
    obtain ⟨k, W', s', F', hk, rfl, HI⟩ := hrel
    have c16 := HI.out.rw.c16.1
    by_cases hend : W'.bad = true ∨ k = m
    · obtain ⟨x3, hfn, x1, x2⟩ := HI.out.done HNK.out (by have := HRB.out; omega) (by rcases hend with e | e; exact .inl e; exact .inr (e.trans HOK.out.2.2.2.2.1.symm))
      obtain ⟨e0, e1, e2⟩ := HI.out.s.at
      obtain ⟨r0, r1, r2⟩ := HI.out.r.at
      have t0 := HI.out.r.frz 0
      have t1 := HI.out.r.frz 1
      have t2 := HI.out.r.frz 2
      have HX : Hid (At3 (put3 wr rb s') rb s' ∧ fin = (W', s') ∧ RWA (put3 wr rb s') p F' ia ic L q W' ∧ Step F F' w (put3 wr rb s')) := ⟨x3, hfn, x1, x2⟩
      have hrs : ¬ rb = sb := by have := HRS.out; omega
      clear HI x3 hfn x1 x2
      obtain ⟨wb, hwb⟩ : ∃ wb, W'.bad = wb := ⟨_, rfl⟩
      rw [hwb] at c16 hend
      clear hwb
      by_cases hlt : k < m
      · have : wb = true := by rcases hend with e | e; exact e; omega
        subst this
        clear hend
        go_wp2
        refine bodyPost_ret (results_cell_row rfl _ _ rb _ #[.int .i64 s'.p, .int .i64 s'.b, .int .i64 s'.l] (0, 0) _ rfl HX.out.1 Tryz.underlying98 rfl (by kernel_rfl)) rfl ?_
        rw [HX.out.2.1]
        exact ⟨rfl, F', HX.out.2.2⟩
      · clear hend
        go_wp2
        refine bodyPost_ret (results_cell_row rfl _ _ rb _ #[.int .i64 s'.p, .int .i64 s'.b, .int .i64 s'.l] (0, 0) _ rfl HX.out.1 Tryz.underlying98 rfl (by kernel_rfl)) rfl ?_
        rw [HX.out.2.1]
        exact ⟨rfl, F', HX.out.2.2⟩
    · have hb' : W'.bad = false := by cases e : W'.bad with | true => exact absurd (.inl e) hend | false => rfl
      have hlt : k < m := by by_cases e : k = m; exact absurd (.inr e) hend; omega
      clear hend
      rw [hb'] at c16
      have hkl' : k < l.length := by rw [HOK.out.2.2.2.2.1]; exact hlt
      obtain ⟨b, off, hg, -, hbs, a4⟩ := HI.out.row k hkl'
      subst hg
      have hxo := HOK.out.2.2.2.1 _ (getD_mem hkl')
      have hob := okC_bd hxo
      have hk0' : 0 < W'.kd.length := by rw [HI.out.kl]; exact HNK.out
      have HC : Hid (∀ w1, Below wr.heap.size wr w1 → Calls Tryz.prog 45 #[.pointer (some ⟨p, 0, none⟩), .int .i64 (l.getD k c40).a, .int .i64 (lv : Int), .bool false] w1 fun e w' => e = .returned (s3V (wtr L lv false (l.getD k c40).a W').2) ∧ ∃ F2, RWA w' p F2 ia ic L q (wtr L lv false (l.getD k c40).a W').1 ∧ Step F' F2 w1 w') := fun w1 hb1 => HIH.out w1 F' W' (l.getD k c40).a false (HI.out.rw.below hk0' hb1) hb' HI.out.ok hk0' (by omega)
      have hwo := wtr_ok HOK.out.2.2.1 lv false (l.getD k c40).a W' HI.out.ok
      have HNX : Hid (∀ w1 w2 F2, Below wr.heap.size wr w1 → Step F' F2 w1 w2 → _) := fun w1 w2 F2 hb1 st => HI.out.next hkl' hb' hxo hb1 hwo.1 st (by have := HRS.out; omega)
      have hbd := HI.out.bd hb'
      have hlw : sb < wr.heap.size ∧ b < wr.heap.size := ⟨HI.out.s.lt, a4.lt⟩
      have HXL : Hid (0 < (wtr L lv false (l.getD k c40).a W').1.kd.length) := by show 0 < _; rw [wtr_len]; exact hk0'
      have HSN : Hid (∀ F2 w5, Step F' F2 wr w5 → ¬ F2 sb ∧ ¬ obl ia sb) := fun F2 w5 st => ⟨st.notin HI.out.s.lt HI.out.ns.1, HI.out.ns.2.1⟩
      obtain ⟨x, hx⟩ : ∃ x, l.getD k c40 = x := ⟨_, rfl⟩
      rw [hx] at HC HNX a4 hob hwo HXL
      obtain ⟨xa, xb, xc, xd⟩ := x
      obtain ⟨a40, a41, a42, a43⟩ := a4
      simp only at HC HNX a40 a41 a42 a43 hob hwo HXL
      obtain ⟨X, hX⟩ : ∃ X, wtr L lv false xa W' = X := ⟨_, rfl⟩
      rw [hX] at HC HNX hwo HXL
      obtain ⟨XW, Xs⟩ := X
      obtain ⟨xp, xq, xl⟩ := Xs
      unfold s3V at HC
      simp only at HC HNX hwo
      obtain ⟨-, ⟨wp, wb, wl⟩⟩ := hwo
      have hbL : bdL lv ≤ 2000000000 := by unfold bdL; have := HOK.out.2.2.2.2.2; omega
      obtain ⟨bl, hbl⟩ : ∃ bl, bdL lv = bl := ⟨_, rfl⟩
      rw [hbl] at wp wb wl hbL
      obtain ⟨sp, sq, sl⟩ := s'
      obtain ⟨b1, b2, b3⟩ := hbd
      simp only at wp wb wl b1 b2 b3
      clear hx hX hxo hkl' hk0' hbl
      go_wp2_with fail
      refine (HC.out wr (Below.refl _ _)).mono ?_
      rintro e w5 ⟨rfl, F2, h2, st2⟩
      obtain ⟨⟨h3', a4'⟩, hnx⟩ := HNX.out wr w5 F2 (Below.refl _ _) st2
      obtain ⟨v40, v41, v42, v43⟩ := a4' b off rfl
      simp only at v40 v41 v42 v43
      obtain ⟨e0, e1, e2⟩ := h3'.at
      simp only at e0 e1 e2
      have HNX2 : Hid _ := hnx
      have H3P : Hid (At3 w5 sb ⟨sp, sq, sl⟩) := h3'
      have ls5 : sb < w5.heap.size := h3'.lt
      have lb5 : b < w5.heap.size := block_lt_of_cell v40
      have HSN : Hid (¬ F2 sb ∧ ¬ obl ia sb) := HSN.out F2 w5 st2
      have H2 : Hid (RWA w5 p F2 ia ic L q XW ∧ wr.heap.size ≤ w5.heap.size ∧ 0 < XW.kd.length) := ⟨h2, st2.1.size, HXL.out⟩
      clear h2 st2 h3' a4' hnx HNX HC c16 a40 a41 a42 a43
      by_cases q1 : xp = xb
      · subst q1
        by_cases q2 : xq = xc
        · subst q2
          by_cases q3 : xl = xd
          · subst q3
            go_wp2
            go_quiet (fail)
            obtain ⟨w6, hw6⟩ : ∃ w6, ((w5.alloc (Obj.cells #[Value.int IntKind.i64 xp, Value.int IntKind.i64 xq, Value.int IntKind.i64 xl] 98)).drewN nq) = w6 := ⟨_, rfl⟩
            obtain ⟨HB6, hx6⟩ := sums_new w5 ⟨xp, xq, xl⟩ nq w6 hw6
            rw [hw6]
            have H6 : Hid (RWA w6 p F2 ia ic L q XW ∧ At3 w6 sb ⟨sp, sq, sl⟩) := ⟨H2.out.1.below H2.out.2.2 HB6, H3P.out.keep (HB6.block sb ls5)⟩
            obtain ⟨x0, x1, x2⟩ := hx6.at
            simp only at x0 x1 x2
            obtain ⟨d0, d1, d2⟩ := H6.out.2.at
            simp only at d0 d1 d2
            have y0 := H6.out.2.frz 0
            have y1 := H6.out.2.frz 1
            have y2 := H6.out.2.frz 2
            have z16 := H6.out.1.c16
            obtain ⟨g5, hg5⟩ : ∃ g5, w5.heap.size = g5 := ⟨_, rfl⟩
            have HG : Hid (wr.heap.size ≤ g5 ∧ Ch w5.heap.size (fun x => x = sb ∨ x = p ∨ wr.heap.size ≤ x) w5 w6) := ⟨by have := H2.out.2.1; omega, Ch.of _ HB6⟩
            rw [hg5] at x0 x1 x2 ls5 lb5 ⊢
            have np : ¬ sb = p := fun e => HSN.out.1 (e ▸ H6.out.1.fp)
            have ng : ¬ g5 = p := fun e => by have := H2.out.1.lt p H2.out.1.fp; omega
            clear hw6 HB6 hx6 e0 e1 e2 v40 v41 v42 v43 hg5 H3P 
            obtain ⟨c16, z16⟩ := z16
            go_wp2
            obtain ⟨f1, f2, f3⟩ := kid_good (y := ⟨xa, xp, xq, xl⟩) (x := ⟨xp, xq, xl⟩) H6.out.1 H6.out.2 H2.out.2.2 HSN.out.1 HSN.out.2 (by simp [kdQ]) HG.out.2
            exact ⟨⟨k + 1, _, _, F2, by omega, by go_num, HNX2.out _ f1 f2 f3⟩, by simp [intOf]; omega⟩
          · have q3' : (xl == xd) = false := by simpa using q3
            have q3'' : (xl != xd) = true := by simpa using q3
            have HQ : Hid (kdQ ⟨xp, xq, xl⟩ ⟨xa, xp, xq, xd⟩ = false) := by show kdQ _ _ = false; unfold kdQ; simp only; rw [q3']; simp
            go_wp2
            go_quiet (fail)
            obtain ⟨w6, hw6⟩ : ∃ w6, ((w5.alloc (Obj.cells #[Value.int IntKind.i64 xp, Value.int IntKind.i64 xq, Value.int IntKind.i64 xl] 98)).drewN nq) = w6 := ⟨_, rfl⟩
            obtain ⟨HB6, hx6⟩ := sums_new w5 ⟨xp, xq, xl⟩ nq w6 hw6
            rw [hw6]
            have H6 : Hid (RWA w6 p F2 ia ic L q XW ∧ At3 w6 sb ⟨sp, sq, sl⟩) := ⟨H2.out.1.below H2.out.2.2 HB6, H3P.out.keep (HB6.block sb ls5)⟩
            obtain ⟨x0, x1, x2⟩ := hx6.at
            simp only at x0 x1 x2
            obtain ⟨d0, d1, d2⟩ := H6.out.2.at
            simp only at d0 d1 d2
            have y0 := H6.out.2.frz 0
            have y1 := H6.out.2.frz 1
            have y2 := H6.out.2.frz 2
            have z16 := H6.out.1.c16
            obtain ⟨g5, hg5⟩ : ∃ g5, w5.heap.size = g5 := ⟨_, rfl⟩
            have HG : Hid (wr.heap.size ≤ g5 ∧ Ch w5.heap.size (fun x => x = sb ∨ x = p ∨ wr.heap.size ≤ x) w5 w6) := ⟨by have := H2.out.2.1; omega, Ch.of _ HB6⟩
            rw [hg5] at x0 x1 x2 ls5 lb5 ⊢
            have np : ¬ sb = p := fun e => HSN.out.1 (e ▸ H6.out.1.fp)
            have ng : ¬ g5 = p := fun e => by have := H2.out.1.lt p H2.out.1.fp; omega
            clear hw6 HB6 hx6 e0 e1 e2 v40 v41 v42 v43 hg5 H3P q3 q3' q3''
            obtain ⟨c16, z16⟩ := z16
            go_wp2
            obtain ⟨f1, f2, f3⟩ := kid_bad (y := ⟨xa, xp, xq, xd⟩) (x := ⟨xp, xq, xl⟩) H6.out.1 H6.out.2 H2.out.2.2 HSN.out.1 HSN.out.2 np HQ.out HG.out.2
            exact ⟨⟨k + 1, _, _, F2, by omega, by go_num, HNX2.out _ f1 f2 f3⟩, by simp [intOf]; omega⟩
        · have q2' : (xq == xc) = false := by simpa using q2
          have q2'' : (xq != xc) = true := by simpa using q2
          have HQ : Hid (kdQ ⟨xp, xq, xl⟩ ⟨xa, xp, xc, xd⟩ = false) := by show kdQ _ _ = false; unfold kdQ; simp only; rw [q2']; simp
          go_wp2
          go_quiet (fail)
          obtain ⟨w6, hw6⟩ : ∃ w6, ((w5.alloc (Obj.cells #[Value.int IntKind.i64 xp, Value.int IntKind.i64 xq, Value.int IntKind.i64 xl] 98)).drewN nq) = w6 := ⟨_, rfl⟩
          obtain ⟨HB6, hx6⟩ := sums_new w5 ⟨xp, xq, xl⟩ nq w6 hw6
          rw [hw6]
          have H6 : Hid (RWA w6 p F2 ia ic L q XW ∧ At3 w6 sb ⟨sp, sq, sl⟩) := ⟨H2.out.1.below H2.out.2.2 HB6, H3P.out.keep (HB6.block sb ls5)⟩
          obtain ⟨x0, x1, x2⟩ := hx6.at
          simp only at x0 x1 x2
          obtain ⟨d0, d1, d2⟩ := H6.out.2.at
          simp only at d0 d1 d2
          have y0 := H6.out.2.frz 0
          have y1 := H6.out.2.frz 1
          have y2 := H6.out.2.frz 2
          have z16 := H6.out.1.c16
          obtain ⟨g5, hg5⟩ : ∃ g5, w5.heap.size = g5 := ⟨_, rfl⟩
          have HG : Hid (wr.heap.size ≤ g5 ∧ Ch w5.heap.size (fun x => x = sb ∨ x = p ∨ wr.heap.size ≤ x) w5 w6) := ⟨by have := H2.out.2.1; omega, Ch.of _ HB6⟩
          rw [hg5] at x0 x1 x2 ls5 lb5 ⊢
          have np : ¬ sb = p := fun e => HSN.out.1 (e ▸ H6.out.1.fp)
          have ng : ¬ g5 = p := fun e => by have := H2.out.1.lt p H2.out.1.fp; omega
          clear hw6 HB6 hx6 e0 e1 e2 v40 v41 v42 v43 hg5 H3P q2 q2' q2''
          obtain ⟨c16, z16⟩ := z16
          go_wp2
          obtain ⟨f1, f2, f3⟩ := kid_bad (y := ⟨xa, xp, xc, xd⟩) (x := ⟨xp, xq, xl⟩) H6.out.1 H6.out.2 H2.out.2.2 HSN.out.1 HSN.out.2 np HQ.out HG.out.2
          exact ⟨⟨k + 1, _, _, F2, by omega, by go_num, HNX2.out _ f1 f2 f3⟩, by simp [intOf]; omega⟩
      · have q1' : (xp == xb) = false := by simpa using q1
        have q1'' : (xp != xb) = true := by simpa using q1
        have HQ : Hid (kdQ ⟨xp, xq, xl⟩ ⟨xa, xb, xc, xd⟩ = false) := by show kdQ _ _ = false; unfold kdQ; simp only; rw [q1']; simp
        go_wp2
        go_quiet (fail)
        obtain ⟨w6, hw6⟩ : ∃ w6, ((w5.alloc (Obj.cells #[Value.int IntKind.i64 xp, Value.int IntKind.i64 xq, Value.int IntKind.i64 xl] 98)).drewN nq) = w6 := ⟨_, rfl⟩
        obtain ⟨HB6, hx6⟩ := sums_new w5 ⟨xp, xq, xl⟩ nq w6 hw6
        rw [hw6]
        have H6 : Hid (RWA w6 p F2 ia ic L q XW ∧ At3 w6 sb ⟨sp, sq, sl⟩) := ⟨H2.out.1.below H2.out.2.2 HB6, H3P.out.keep (HB6.block sb ls5)⟩
        obtain ⟨x0, x1, x2⟩ := hx6.at
        simp only at x0 x1 x2
        obtain ⟨d0, d1, d2⟩ := H6.out.2.at
        simp only at d0 d1 d2
        have y0 := H6.out.2.frz 0
        have y1 := H6.out.2.frz 1
        have y2 := H6.out.2.frz 2
        have z16 := H6.out.1.c16
        obtain ⟨g5, hg5⟩ : ∃ g5, w5.heap.size = g5 := ⟨_, rfl⟩
        have HG : Hid (wr.heap.size ≤ g5 ∧ Ch w5.heap.size (fun x => x = sb ∨ x = p ∨ wr.heap.size ≤ x) w5 w6) := ⟨by have := H2.out.2.1; omega, Ch.of _ HB6⟩
        rw [hg5] at x0 x1 x2 ls5 lb5 ⊢
        have np : ¬ sb = p := fun e => HSN.out.1 (e ▸ H6.out.1.fp)
        have ng : ¬ g5 = p := fun e => by have := H2.out.1.lt p H2.out.1.fp; omega
        clear hw6 HB6 hx6 e0 e1 e2 v40 v41 v42 v43 hg5 H3P q1 q1' q1''
        obtain ⟨c16, z16⟩ := z16
        go_wp2
        obtain ⟨f1, f2, f3⟩ := kid_bad (y := ⟨xa, xb, xc, xd⟩) (x := ⟨xp, xq, xl⟩) H6.out.1 H6.out.2 H2.out.2.2 HSN.out.1 HSN.out.2 np HQ.out HG.out.2
        exact ⟨⟨k + 1, _, _, F2, by omega, by go_num, HNX2.out _ f1 f2 f3⟩, by simp [intOf]; omega⟩

set_option maxHeartbeats 4000000 in
set_option maxRecDepth 20000 in
theorem tree_m (hLB : Bys L) (lv : Nat) (hlv : lv ≤ 40) (IH : TreeC p ia ic L q lv) (h : RWA w p F ia ic L q W) (hbad : W.bad = false) (hok : WkOk W) (hk0 : 0 < W.kd.length) (n : Int) (hk : kdB W n 116 = true) (z : List Int) (hz : pageOf L n.toNat = z) (l : List C4) (hL : reL true z = l) (m : Nat) (hm : l.length = m) (lv1 : Nat) (hlv1 : lv + 1 = lv1) (hE : reE true z = 0) (hV : reV true z = (lv1 : Int)) (hmm : 2 ≤ m) (hm6 : m < 6) :
    Calls Tryz.prog 45 #[.pointer (some ⟨p, 0, none⟩), .int .i64 n, .int .i64 (lv1 : Int), .bool false] w fun e w' => e = .returned (s3V (kdGo (wtr L lv false) l ({ W with kd := W.kd.set n.toNat 116, bad := true }, s30)).2) ∧ ∃ F', RWA w' p F' ia ic L q (kdGo (wtr L lv false) l ({ W with kd := W.kd.set n.toNat 116, bad := true }, s30)).1 ∧ Step F F' w w' := by
  obtain ⟨gk, ck, aP, aT, cP, cT, h⟩ := h
  have hp := page_yes (h.below hk0 (w' := w.alloc (.cells #[.int .i64 0, .int .i64 0, .int .i64 0] 98)) ((Below.refl _ w).alloc (Nat.le_refl _) _)) n 116 (by omega) hk
  rw [hz] at hp
  have HA : Hid (∀ w1, Ch (w.alloc (.cells #[.int .i64 0, .int .i64 0, .int .i64 0] 98)).heap.size F (w.alloc (.cells #[.int .i64 0, .int .i64 0, .int .i64 0] 98)) w1 → At3 w1 w.heap.size s30 ∧ Step F F w w1) := fun w1 hc => by
    refine ⟨?_, Step.of ((Ch.of F ((Below.refl _ w).alloc (Nat.le_refl _) _)).trans (hc.mono (by simp) (fun _ _ e => e)))⟩
    show w1.heap[w.heap.size]? = _
    rw [hc.block w.heap.size (by simp) (fun e => by have := h.lt _ e; omega)]
    exact heap_alloc_new w _
  have hlb := reL_bd (t := true) (page_bys hLB n.toNat)
  rw [hz, hL] at hlb
  have HOK : Hid ((WkOk W ∧ W.bad = false ∧ 0 < W.kd.length) ∧ (¬ F w.heap.size ∧ ¬ obl ia w.heap.size) ∧ Bys L ∧ (∀ x ∈ l, okC true x = true) ∧ l.length = m ∧ lv + 1 = lv1) := ⟨⟨hok, hbad, hk0⟩, ⟨fun e => by have := h.lt _ e; omega, fun e => by have := h.ilt hk0 _ e; omega⟩, hLB, hlb.2, hm, hlv1⟩
  have HFL : Hid (∀ k, F k → k < w.heap.size) := h.lt
  have HIH : Hid (TreeC p ia ic L q lv) := IH
  obtain ⟨fin, hfin⟩ : ∃ fin, kdGo (wtr L lv false) l ({ W with kd := W.kd.set n.toNat 116, bad := true }, s30) = fin := ⟨_, rfl⟩
  have HFIN : Hid (kdGo (wtr L lv false) l ({ W with kd := W.kd.set n.toNat 116, bad := true }, s30) = fin) := hfin
  rw [hfin]
  have hm20 : m ≤ 20 := by omega
  have HEV : Hid (reE true z = 0 ∧ reV true z = (lv1 : Int) ∧ reL true z = l) := ⟨hE, hV, hL⟩
  have hlvi : ((lv1 : Int) - 1) = (lv : Int) := by omega
  have hlv0 : 0 < lv1 := by omega
  have hlv2 : lv1 ≤ 50 := by omega
  obtain ⟨rb, hrb⟩ : ∃ rb, w.heap.size = rb := ⟨_, rfl⟩
  have HRB : Hid (w.heap.size = rb) := hrb
  clear h hk hok hbad hk0 hLB hlb hz hL hfin hm IH hlv1 hrb hE hV hlv
  go_enter Tryz.func45, Tryz.ntmps45
  go_wp2_with fail
  refine hp.mono ?_
  clear hp
  rintro e w1 ⟨⟨a', c', rfl, hr1, hl1, -⟩, h1, hc1⟩
  obtain ⟨h3, st⟩ := HA.out w1 hc1
  obtain ⟨-, -, -, -, c16⟩ := h1.at
  have z16 := h1.frz 16
  simp only [HOK.out.1.2.1] at c16
  rw [HRB.out] at h3 ⊢
  have hkd := rkids_v (some a') c' 256 z w1 hr1 hl1 _ HEV.out.1 l HEV.out.2.2 m HOK.out.2.2.2.2.1 _ HEV.out.2.1
  have H1 : Hid (RWA w1 p F ia ic L q { W with kd := W.kd.set n.toNat 116 } ∧ Step F F w w1 ∧ At3 w1 rb s30) := ⟨⟨_, _, _, _, _, _, h1⟩, st, h3⟩
  have hlp : p < w1.heap.size := h1.lt p h1.fp
  clear h1 hc1 h3 st hr1 hl1 HA
  go_wp2_with fail
  refine hkd.mono ?_
  clear hkd
  rintro e w2 ⟨g, c, rfl, hown, hb2⟩
  have d16 := (hb2.cell (p := ⟨p, 16, none⟩) hlp).trans c16
  have y16 := (hb2.frozen (p := ⟨p, 16, none⟩) hlp).trans z16
  have HNK : Hid (0 < (W.kd.set n.toNat 116).length) := by show 0 < _; rw [List.length_set]; exact HOK.out.1.2.2
  have H2 : Hid (RWA w2 p F ia ic L q { W with kd := W.kd.set n.toNat 116 } ∧ Ch w.heap.size F w w2 ∧ At3 w2 rb s30 ∧ RowC w2 g c l ∧ (∀ k, obl g k → ¬ F k ∧ k < w2.heap.size)) := by
    refine ⟨H1.out.1.below HNK.out hb2, H1.out.2.1.1.trans (Ch.of F (hb2.mono H1.out.2.1.1.size)), H1.out.2.2.keep (hb2.block rb H1.out.2.2.lt), (OwnC.row' hown (fun x hx => wfC_ok (HOK.out.2.2.2.1 x hx))).2.1, fun k hk => ?_⟩
    have := World.ownsRow.lt hown k (own_obl hk)
    exact ⟨fun e => by have := H1.out.1.lt k e; omega, this.2⟩
  clear hown hb2 c16 z16 H1 hlp
  go_wp2
  have HI0 : Hid (TrI w ((w2.setCell ⟨p, 16, none⟩ (.bool true)).alloc (.cells #[.int .i64 0, .int .i64 0, .int .i64 0] 98)) p F F ia ic L q (W.kd.set n.toNat 116).length lv l g rb w2.heap.size 0 { W with kd := W.kd.set n.toNat 116, bad := true } s30 fin) := by
    have hch : Ch w2.heap.size (fun x => x = p) w2 (w2.setCell ⟨p, 16, none⟩ (.bool true)) := (Ch.refl _ (fun x => x = p) w2).setCell (p := ⟨p, 16, none⟩) (.inr rfl) _
    have hnp : ¬ rb = p := fun e => by have := HFL.out p H2.out.1.fp; have := HRB.out; omega
    have := TrI.start (lv := lv) (fin := fin) (H2.out.1.setBad true) (wpk_bd HOK.out.1.1 n.toNat 116) HNK.out (H2.out.2.1.trans (hch.mono H2.out.2.1.size (fun k hk e => e ▸ H2.out.1.fp))) (H2.out.2.2.1.keep (hch.block rb H2.out.2.2.1.lt hnp)) (fun k hk => by rw [size_setCell]; exact H2.out.2.2.2.2 k hk) (H2.out.2.2.2.1.keepO (fun g hg => hch.block g (H2.out.2.2.2.2 g hg).2 (fun e => (H2.out.2.2.2.2 g hg).1 (e ▸ H2.out.1.fp)))) (by rw [← HRB.out]; exact HOK.out.2.1) HFIN.out
    rw [size_setCell] at this
    exact this
  obtain ⟨sb, hsb⟩ : ∃ sb, w2.heap.size = sb := ⟨_, rfl⟩
  have HRS : Hid (rb < sb) := by show _ < _; rw [← hsb]; exact H2.out.2.2.1.lt
  rw [hsb] at HI0 ⊢
  obtain ⟨wq, hwq⟩ : ∃ wq, (w2.setCell ⟨p, 16, none⟩ (.bool true)) = wq := ⟨_, rfl⟩
  rw [hwq] at HI0 ⊢
  clear hwq
  obtain ⟨w3, hw3⟩ : ∃ w3, wq.alloc (.cells #[.int .i64 0, .int .i64 0, .int .i64 0] 98) = w3 := ⟨_, rfl⟩
  rw [hw3] at HI0 ⊢
  clear hw3 hsb H2 d16 y16 HFIN HEV hmm hm6
  go_loopw [14] (fun i wr => ∃ (k : Nat) (W' : Wk) (s' : S3) (F' : Nat → Prop), k ≤ m ∧ i = .int .i64 k ∧ Hid (TrI w wr p F F' ia ic L q (W.kd.set n.toNat 116).length lv l g rb sb k W' s' fin)) (fun i _ => m - (intOf i).toNat)
  case atStart => exact ⟨0, _, _, _, Nat.zero_le _, rfl, HI0.out⟩
  case round =>
    clear HI0
    obtain ⟨k, W', s', F', hk, rfl, HI⟩ := hrel
    have c16 := HI.out.rw.c16.1
    by_cases hend : W'.bad = true ∨ k = m
    · obtain ⟨x3, hfn, x1, x2⟩ := HI.out.done HNK.out (by have := HRB.out; omega) (by rcases hend with e | e; exact .inl e; exact .inr (e.trans HOK.out.2.2.2.2.1.symm))
      obtain ⟨e0, e1, e2⟩ := HI.out.s.at
      obtain ⟨r0, r1, r2⟩ := HI.out.r.at
      have t0 := HI.out.r.frz 0
      have t1 := HI.out.r.frz 1
      have t2 := HI.out.r.frz 2
      have HX : Hid (At3 (put3 wr rb s') rb s' ∧ fin = (W', s') ∧ RWA (put3 wr rb s') p F' ia ic L q W' ∧ Step F F' w (put3 wr rb s')) := ⟨x3, hfn, x1, x2⟩
      have hrs : ¬ rb = sb := by have := HRS.out; omega
      clear HI x3 hfn x1 x2
      obtain ⟨wb, hwb⟩ : ∃ wb, W'.bad = wb := ⟨_, rfl⟩
      rw [hwb] at c16 hend
      clear hwb
      by_cases hlt : k < m
      · have : wb = true := by rcases hend with e | e; exact e; omega
        subst this
        clear hend
        go_wp2
        refine bodyPost_ret (results_cell_row rfl _ _ rb _ #[.int .i64 s'.p, .int .i64 s'.b, .int .i64 s'.l] (0, 0) _ rfl HX.out.1 Tryz.underlying98 rfl (by kernel_rfl)) rfl ?_
        rw [HX.out.2.1]
        exact ⟨rfl, F', HX.out.2.2⟩
      · clear hend
        go_wp2
        refine bodyPost_ret (results_cell_row rfl _ _ rb _ #[.int .i64 s'.p, .int .i64 s'.b, .int .i64 s'.l] (0, 0) _ rfl HX.out.1 Tryz.underlying98 rfl (by kernel_rfl)) rfl ?_
        rw [HX.out.2.1]
        exact ⟨rfl, F', HX.out.2.2⟩
    · have hb' : W'.bad = false := by cases e : W'.bad with | true => exact absurd (.inl e) hend | false => rfl
      have hlt : k < m := by by_cases e : k = m; exact absurd (.inr e) hend; omega
      clear hend
      rw [hb'] at c16
      have hkl' : k < l.length := by rw [HOK.out.2.2.2.2.1]; exact hlt
      obtain ⟨b, off, hg, -, hbs, a4⟩ := HI.out.row k hkl'
      subst hg
      have hxo := HOK.out.2.2.2.1 _ (getD_mem hkl')
      have hob := okC_bd hxo
      have hk0' : 0 < W'.kd.length := by rw [HI.out.kl]; exact HNK.out
      have HC : Hid (∀ w1, Below wr.heap.size wr w1 → Calls Tryz.prog 45 #[.pointer (some ⟨p, 0, none⟩), .int .i64 (l.getD k c40).a, .int .i64 (lv : Int), .bool false] w1 fun e w' => e = .returned (s3V (wtr L lv false (l.getD k c40).a W').2) ∧ ∃ F2, RWA w' p F2 ia ic L q (wtr L lv false (l.getD k c40).a W').1 ∧ Step F' F2 w1 w') := fun w1 hb1 => HIH.out w1 F' W' (l.getD k c40).a false (HI.out.rw.below hk0' hb1) hb' HI.out.ok hk0' (by omega)
      have hwo := wtr_ok HOK.out.2.2.1 lv false (l.getD k c40).a W' HI.out.ok
      have HNX : Hid (∀ w1 w2 F2, Below wr.heap.size wr w1 → Step F' F2 w1 w2 → _) := fun w1 w2 F2 hb1 st => HI.out.next hkl' hb' hxo hb1 hwo.1 st (by have := HRS.out; omega)
      have hbd := HI.out.bd hb'
      have hlw : sb < wr.heap.size ∧ b < wr.heap.size := ⟨HI.out.s.lt, a4.lt⟩
      have HXL : Hid (0 < (wtr L lv false (l.getD k c40).a W').1.kd.length) := by show 0 < _; rw [wtr_len]; exact hk0'
      have HSN : Hid (∀ F2 w5, Step F' F2 wr w5 → ¬ F2 sb ∧ ¬ obl ia sb) := fun F2 w5 st => ⟨st.notin HI.out.s.lt HI.out.ns.1, HI.out.ns.2.1⟩
      obtain ⟨x, hx⟩ : ∃ x, l.getD k c40 = x := ⟨_, rfl⟩
      rw [hx] at HC HNX a4 hob hwo HXL
      obtain ⟨xa, xb, xc, xd⟩ := x
      obtain ⟨a40, a41, a42, a43⟩ := a4
      simp only at HC HNX a40 a41 a42 a43 hob hwo HXL
      obtain ⟨X, hX⟩ : ∃ X, wtr L lv false xa W' = X := ⟨_, rfl⟩
      rw [hX] at HC HNX hwo HXL
      obtain ⟨XW, Xs⟩ := X
      obtain ⟨xp, xq, xl⟩ := Xs
      unfold s3V at HC
      simp only at HC HNX hwo
      obtain ⟨-, ⟨wp, wb, wl⟩⟩ := hwo
      have hbL : bdL lv ≤ 2000000000 := by unfold bdL; have := HOK.out.2.2.2.2.2; omega
      obtain ⟨bl, hbl⟩ : ∃ bl, bdL lv = bl := ⟨_, rfl⟩
      rw [hbl] at wp wb wl hbL
      obtain ⟨sp, sq, sl⟩ := s'
      obtain ⟨b1, b2, b3⟩ := hbd
      simp only at wp wb wl b1 b2 b3
      clear hx hX hxo hkl' hk0' hbl
      go_wp2_with fail
      refine (HC.out wr (Below.refl _ _)).mono ?_
      rintro e w5 ⟨rfl, F2, h2, st2⟩
      obtain ⟨⟨h3', a4'⟩, hnx⟩ := HNX.out wr w5 F2 (Below.refl _ _) st2
      obtain ⟨v40, v41, v42, v43⟩ := a4' b off rfl
      simp only at v40 v41 v42 v43
      obtain ⟨e0, e1, e2⟩ := h3'.at
      simp only at e0 e1 e2
      have HNX2 : Hid _ := hnx
      have H3P : Hid (At3 w5 sb ⟨sp, sq, sl⟩) := h3'
      have ls5 : sb < w5.heap.size := h3'.lt
      have lb5 : b < w5.heap.size := block_lt_of_cell v40
      have HSN : Hid (¬ F2 sb ∧ ¬ obl ia sb) := HSN.out F2 w5 st2
      have H2 : Hid (RWA w5 p F2 ia ic L q XW ∧ wr.heap.size ≤ w5.heap.size ∧ 0 < XW.kd.length) := ⟨h2, st2.1.size, HXL.out⟩
      clear h2 st2 h3' a4' hnx HNX HC c16 a40 a41 a42 a43
      by_cases q1 : xp = xb
      · subst q1
        by_cases q2 : xq = xc
        · subst q2
          by_cases q3 : xl = xd
          · subst q3
            go_wp2
            go_quiet (fail)
            obtain ⟨w6, hw6⟩ : ∃ w6, ((w5.alloc (Obj.cells #[Value.int IntKind.i64 xp, Value.int IntKind.i64 xq, Value.int IntKind.i64 xl] 98)).drewN nq) = w6 := ⟨_, rfl⟩
            obtain ⟨HB6, hx6⟩ := sums_new w5 ⟨xp, xq, xl⟩ nq w6 hw6
            rw [hw6]
            have H6 : Hid (RWA w6 p F2 ia ic L q XW ∧ At3 w6 sb ⟨sp, sq, sl⟩) := ⟨H2.out.1.below H2.out.2.2 HB6, H3P.out.keep (HB6.block sb ls5)⟩
            obtain ⟨x0, x1, x2⟩ := hx6.at
            simp only at x0 x1 x2
            obtain ⟨d0, d1, d2⟩ := H6.out.2.at
            simp only at d0 d1 d2
            have y0 := H6.out.2.frz 0
            have y1 := H6.out.2.frz 1
            have y2 := H6.out.2.frz 2
            have z16 := H6.out.1.c16
            obtain ⟨g5, hg5⟩ : ∃ g5, w5.heap.size = g5 := ⟨_, rfl⟩
            have HG : Hid (wr.heap.size ≤ g5 ∧ Ch w5.heap.size (fun x => x = sb ∨ x = p ∨ wr.heap.size ≤ x) w5 w6) := ⟨by have := H2.out.2.1; omega, Ch.of _ HB6⟩
            rw [hg5] at x0 x1 x2 ls5 lb5 ⊢
            have np : ¬ sb = p := fun e => HSN.out.1 (e ▸ H6.out.1.fp)
            have ng : ¬ g5 = p := fun e => by have := H2.out.1.lt p H2.out.1.fp; omega
            clear hw6 HB6 hx6 e0 e1 e2 v40 v41 v42 v43 hg5 H3P 
            obtain ⟨c16, z16⟩ := z16
            go_wp2
            obtain ⟨f1, f2, f3⟩ := kid_good (y := ⟨xa, xp, xq, xl⟩) (x := ⟨xp, xq, xl⟩) H6.out.1 H6.out.2 H2.out.2.2 HSN.out.1 HSN.out.2 (by simp [kdQ]) HG.out.2
            exact ⟨⟨k + 1, _, _, F2, by omega, by go_num, HNX2.out _ f1 f2 f3⟩, by simp [intOf]; omega⟩
          · have q3' : (xl == xd) = false := by simpa using q3
            have q3'' : (xl != xd) = true := by simpa using q3
            have HQ : Hid (kdQ ⟨xp, xq, xl⟩ ⟨xa, xp, xq, xd⟩ = false) := by show kdQ _ _ = false; unfold kdQ; simp only; rw [q3']; simp
            go_wp2
            go_quiet (fail)
            obtain ⟨w6, hw6⟩ : ∃ w6, ((w5.alloc (Obj.cells #[Value.int IntKind.i64 xp, Value.int IntKind.i64 xq, Value.int IntKind.i64 xl] 98)).drewN nq) = w6 := ⟨_, rfl⟩
            obtain ⟨HB6, hx6⟩ := sums_new w5 ⟨xp, xq, xl⟩ nq w6 hw6
            rw [hw6]
            have H6 : Hid (RWA w6 p F2 ia ic L q XW ∧ At3 w6 sb ⟨sp, sq, sl⟩) := ⟨H2.out.1.below H2.out.2.2 HB6, H3P.out.keep (HB6.block sb ls5)⟩
            obtain ⟨x0, x1, x2⟩ := hx6.at
            simp only at x0 x1 x2
            obtain ⟨d0, d1, d2⟩ := H6.out.2.at
            simp only at d0 d1 d2
            have y0 := H6.out.2.frz 0
            have y1 := H6.out.2.frz 1
            have y2 := H6.out.2.frz 2
            have z16 := H6.out.1.c16
            obtain ⟨g5, hg5⟩ : ∃ g5, w5.heap.size = g5 := ⟨_, rfl⟩
            have HG : Hid (wr.heap.size ≤ g5 ∧ Ch w5.heap.size (fun x => x = sb ∨ x = p ∨ wr.heap.size ≤ x) w5 w6) := ⟨by have := H2.out.2.1; omega, Ch.of _ HB6⟩
            rw [hg5] at x0 x1 x2 ls5 lb5 ⊢
            have np : ¬ sb = p := fun e => HSN.out.1 (e ▸ H6.out.1.fp)
            have ng : ¬ g5 = p := fun e => by have := H2.out.1.lt p H2.out.1.fp; omega
            clear hw6 HB6 hx6 e0 e1 e2 v40 v41 v42 v43 hg5 H3P q3 q3' q3''
            obtain ⟨c16, z16⟩ := z16
            go_wp2
            obtain ⟨f1, f2, f3⟩ := kid_bad (y := ⟨xa, xp, xq, xd⟩) (x := ⟨xp, xq, xl⟩) H6.out.1 H6.out.2 H2.out.2.2 HSN.out.1 HSN.out.2 np HQ.out HG.out.2
            exact ⟨⟨k + 1, _, _, F2, by omega, by go_num, HNX2.out _ f1 f2 f3⟩, by simp [intOf]; omega⟩
        · have q2' : (xq == xc) = false := by simpa using q2
          have q2'' : (xq != xc) = true := by simpa using q2
          have HQ : Hid (kdQ ⟨xp, xq, xl⟩ ⟨xa, xp, xc, xd⟩ = false) := by show kdQ _ _ = false; unfold kdQ; simp only; rw [q2']; simp
          go_wp2
          go_quiet (fail)
          obtain ⟨w6, hw6⟩ : ∃ w6, ((w5.alloc (Obj.cells #[Value.int IntKind.i64 xp, Value.int IntKind.i64 xq, Value.int IntKind.i64 xl] 98)).drewN nq) = w6 := ⟨_, rfl⟩
          obtain ⟨HB6, hx6⟩ := sums_new w5 ⟨xp, xq, xl⟩ nq w6 hw6
          rw [hw6]
          have H6 : Hid (RWA w6 p F2 ia ic L q XW ∧ At3 w6 sb ⟨sp, sq, sl⟩) := ⟨H2.out.1.below H2.out.2.2 HB6, H3P.out.keep (HB6.block sb ls5)⟩
          obtain ⟨x0, x1, x2⟩ := hx6.at
          simp only at x0 x1 x2
          obtain ⟨d0, d1, d2⟩ := H6.out.2.at
          simp only at d0 d1 d2
          have y0 := H6.out.2.frz 0
          have y1 := H6.out.2.frz 1
          have y2 := H6.out.2.frz 2
          have z16 := H6.out.1.c16
          obtain ⟨g5, hg5⟩ : ∃ g5, w5.heap.size = g5 := ⟨_, rfl⟩
          have HG : Hid (wr.heap.size ≤ g5 ∧ Ch w5.heap.size (fun x => x = sb ∨ x = p ∨ wr.heap.size ≤ x) w5 w6) := ⟨by have := H2.out.2.1; omega, Ch.of _ HB6⟩
          rw [hg5] at x0 x1 x2 ls5 lb5 ⊢
          have np : ¬ sb = p := fun e => HSN.out.1 (e ▸ H6.out.1.fp)
          have ng : ¬ g5 = p := fun e => by have := H2.out.1.lt p H2.out.1.fp; omega
          clear hw6 HB6 hx6 e0 e1 e2 v40 v41 v42 v43 hg5 H3P q2 q2' q2''
          obtain ⟨c16, z16⟩ := z16
          go_wp2
          obtain ⟨f1, f2, f3⟩ := kid_bad (y := ⟨xa, xp, xc, xd⟩) (x := ⟨xp, xq, xl⟩) H6.out.1 H6.out.2 H2.out.2.2 HSN.out.1 HSN.out.2 np HQ.out HG.out.2
          exact ⟨⟨k + 1, _, _, F2, by omega, by go_num, HNX2.out _ f1 f2 f3⟩, by simp [intOf]; omega⟩
      · have q1' : (xp == xb) = false := by simpa using q1
        have q1'' : (xp != xb) = true := by simpa using q1
        have HQ : Hid (kdQ ⟨xp, xq, xl⟩ ⟨xa, xb, xc, xd⟩ = false) := by show kdQ _ _ = false; unfold kdQ; simp only; rw [q1']; simp
        go_wp2
        go_quiet (fail)
        obtain ⟨w6, hw6⟩ : ∃ w6, ((w5.alloc (Obj.cells #[Value.int IntKind.i64 xp, Value.int IntKind.i64 xq, Value.int IntKind.i64 xl] 98)).drewN nq) = w6 := ⟨_, rfl⟩
        obtain ⟨HB6, hx6⟩ := sums_new w5 ⟨xp, xq, xl⟩ nq w6 hw6
        rw [hw6]
        have H6 : Hid (RWA w6 p F2 ia ic L q XW ∧ At3 w6 sb ⟨sp, sq, sl⟩) := ⟨H2.out.1.below H2.out.2.2 HB6, H3P.out.keep (HB6.block sb ls5)⟩
        obtain ⟨x0, x1, x2⟩ := hx6.at
        simp only at x0 x1 x2
        obtain ⟨d0, d1, d2⟩ := H6.out.2.at
        simp only at d0 d1 d2
        have y0 := H6.out.2.frz 0
        have y1 := H6.out.2.frz 1
        have y2 := H6.out.2.frz 2
        have z16 := H6.out.1.c16
        obtain ⟨g5, hg5⟩ : ∃ g5, w5.heap.size = g5 := ⟨_, rfl⟩
        have HG : Hid (wr.heap.size ≤ g5 ∧ Ch w5.heap.size (fun x => x = sb ∨ x = p ∨ wr.heap.size ≤ x) w5 w6) := ⟨by have := H2.out.2.1; omega, Ch.of _ HB6⟩
        rw [hg5] at x0 x1 x2 ls5 lb5 ⊢
        have np : ¬ sb = p := fun e => HSN.out.1 (e ▸ H6.out.1.fp)
        have ng : ¬ g5 = p := fun e => by have := H2.out.1.lt p H2.out.1.fp; omega
        clear hw6 HB6 hx6 e0 e1 e2 v40 v41 v42 v43 hg5 H3P q1 q1' q1''
        obtain ⟨c16, z16⟩ := z16
        go_wp2
        obtain ⟨f1, f2, f3⟩ := kid_bad (y := ⟨xa, xb, xc, xd⟩) (x := ⟨xp, xq, xl⟩) H6.out.1 H6.out.2 H2.out.2.2 HSN.out.1 HSN.out.2 np HQ.out HG.out.2
        exact ⟨⟨k + 1, _, _, F2, by omega, by go_num, HNX2.out _ f1 f2 f3⟩, by simp [intOf]; omega⟩

end
end Go.Proofs.YtjllhcifmfhkmaaGreat.Oct

/-
  The document's walker: tree, any.
-/
namespace Go.Proofs.YtjllhcifmfhkmaaGreat.Oct
open Go.RowKit

section
variable {w w' : World} {p ic : Nat} {F : Nat → Prop} {ia : Option Addr} {L : List Int} {q : Nat → Value} {W : Wk}

theorem RWA.bys (h : RWA w p F ia ic L q W) : Bys L := by
  obtain ⟨_, _, _, _, _, _, h⟩ := h; exact h.img.1

theorem tree_any : ∀ (lv : Nat), lv ≤ 40 → TreeC p ia ic L q lv := by
  intro lv
  induction lv with
  | zero =>
    intro _ w F W n root h hbad hok hk0 hn
    by_cases hk : kdB W n 116 = true
    · have e : wtr L 0 root n W = wlf L (pageOf L n.toNat) root (wpg W n 116) := by
        unfold wtr
        rw [if_neg (by rw [wpg_bad hbad, hk]; simp)]
      rw [e]
      exact tree_0 h hbad hok hk0 n root hk
    · have hk' : kdB W n 116 = false := by simpa using hk
      have e : wtr L 0 root n W = ({ W with bad := true }, s30) := by
        unfold wtr
        rw [if_pos (by rw [wpg_bad hbad, hk']; rfl), wpg_no hk']
      rw [e]
      exact tree_no h hk0 n hn 0 root hk'
  | succ lv ih =>
    intro hlv w F W n root h hbad hok hk0 hn
    have IH := ih (by omega)
    have hLB := h.bys
    by_cases hk : kdB W n 116 = true
    · have e : ∀ B, inB3 (pageOf L n.toNat) (lv + 1) root = B → wtr L (lv + 1) root n W = kdGo (wtr L lv false) (reL true (pageOf L n.toNat)) ({ W with kd := W.kd.set n.toNat 116, bad := B }, s30) := fun B hB => by
        unfold wtr
        rw [if_neg (by rw [wpg_bad hbad, hk]; simp), hB, wpg_bad hbad, hk, wpg_yes hk]
        rfl
      have eB : ({ W with kd := W.kd.set n.toNat 116, bad := false } : Wk) = { W with kd := W.kd.set n.toNat 116 } := by rw [← hbad]
      by_cases hE : reE true (pageOf L n.toNat) = 0
      · by_cases hV : reV true (pageOf L n.toNat) = ((lv + 1 : Nat) : Int)
        · by_cases h2 : (reL true (pageOf L n.toNat)).length < 2
          · rw [e true (by unfold inB3; rw [hE, hV, decide_eq_true h2]; simp)]
            exact tree_s hLB lv (by omega) IH h hbad hok hk0 n hk root _ rfl _ rfl _ rfl _ rfl hE hV h2
          · cases root with
            | true =>
              rw [e false (by unfold inB3; rw [hE, hV, decide_eq_false h2]; simp), eB]
              exact tree_r hLB lv (by omega) IH h hbad hok hk0 n hk _ rfl _ rfl _ rfl _ rfl hE hV (by omega)
            | false =>
              by_cases h6 : (reL true (pageOf L n.toNat)).length < 6
              · rw [e true (by unfold inB3; rw [decide_eq_true h6]; simp)]
                exact tree_m hLB lv (by omega) IH h hbad hok hk0 n hk _ rfl _ rfl _ rfl _ rfl hE hV (by omega) h6
              · rw [e false (by unfold inB3; rw [hE, hV, decide_eq_false h2, decide_eq_false h6]; simp), eB]
                exact tree_n hLB lv (by omega) IH h hbad hok hk0 n hk _ rfl _ rfl _ rfl _ rfl hE hV (by omega)
        · have hV' : (reV true (pageOf L n.toNat) == ((lv + 1 : Nat) : Int)) = false := by rw [beq_eq_false_iff_ne]; exact hV
          rw [e true (by unfold inB3; rw [hV']; simp)]
          exact tree_v hLB lv (by omega) IH h hbad hok hk0 n hk root _ rfl _ rfl _ rfl _ rfl hE _ rfl (by unfold bne; rw [hV']; rfl)
      · have hE' : (reE true (pageOf L n.toNat) == 0) = false := by simpa using hE
        rw [e true (by unfold inB3; rw [hE']; simp)]
        exact tree_e hLB lv (by omega) IH h hbad hok hk0 n hk root _ rfl _ rfl _ rfl _ rfl _ rfl (by unfold bne; rw [hE']; rfl) _ rfl
    · have hk' : kdB W n 116 = false := by simpa using hk
      have e : wtr L (lv + 1) root n W = ({ W with bad := true }, s30) := by
        unfold wtr
        rw [if_pos (by rw [wpg_bad hbad, hk']; rfl), wpg_no hk']
      rw [e]
      exact tree_no h hk0 n hn _ root hk'
end
end Go.Proofs.YtjllhcifmfhkmaaGreat.Oct

/-
  The document's walker: chain.
-/
namespace Go.Proofs.YtjllhcifmfhkmaaGreat.Oct
open Go.RowKit

theorem chGo_end {L : List Int} {kd : Int} {f : Nat} {n : Int} {W : Wk} {out : List Int} (h : n = 0 ∨ W.bad = true) : chGo L kd f n W out = (W, out) := by
  cases f with
  | zero => rfl
  | succ f => unfold chGo; rw [if_pos h]
theorem chGo_no {L : List Int} {kd : Int} {f : Nat} {n : Int} {W : Wk} {out : List Int} (h0 : ¬ n = 0) (hb : W.bad = false) (hk : kdB W n kd = false) : chGo L kd (f + 1) n W out = ({ W with bad := true }, out) := by
  unfold chGo
  rw [if_neg (by rw [hb]; simpa using h0), wpg_no hk, if_pos rfl]
theorem chGo_yes {L : List Int} {kd : Int} {f : Nat} {n : Int} {W : Wk} {out : List Int} (h0 : ¬ n = 0) (hb : W.bad = false) (hk : kdB W n kd = true) (hl : out.length + (ptL (pageOf L n.toNat)).length ≤ 1048576) :
    chGo L kd (f + 1) n W out = chGo L kd f (ptN (pageOf L n.toNat)) { W with kd := W.kd.set n.toNat kd, bad := !(ptE (pageOf L n.toNat) == 0) } (out ++ ptL (pageOf L n.toNat)) := by
  have e : chGo L kd (f + 1) n W out = if n = 0 ∨ W.bad = true then (W, out) else if (wpg W n kd).bad = true then (wpg W n kd, out) else
      chGo L kd f (ptN (pageOf L n.toNat)) { wpg W n kd with bad := !(ptE (pageOf L n.toNat) == 0) || decide (1048576 < out.length + (ptL (pageOf L n.toNat)).length) } (out ++ ptL (pageOf L n.toNat)) := rfl
  rw [e, if_neg (by rw [hb]; simpa using h0), if_neg (by rw [wpg_bad hb, hk]; simp), decide_eq_false (by omega), Bool.or_false, wpg_yes hk]

/-- So far. -/
structure ChI (w wr : World) (p : Nat) (F : Nat → Prop) (ia : Option Addr) (ic : Nat) (L : List Int) (q : Nat → Value) (kd : Int) (N f : Nat) (n : Int) (v : Value) (W' : Wk) (out : List Int) (fin : Wk × List Int) : Prop where
  rw : RWA wr p F ia ic L q W'
  kl : W'.kd.length = N
  fin : chGo L kd f n W' out = fin
  own : Own w.heap.size wr v out
  by' : Bys out
  ch : Ch w.heap.size F w wr
  n : -9223372036854775808 ≤ n ∧ n ≤ 9223372036854775807
  fu : N < f + cnt (kR W'.kd)
  ln : out.length ≤ 244 * cnt (kR W'.kd)

theorem RWA.kl {w : World} {p ic : Nat} {F : Nat → Prop} {ia : Option Addr} {L : List Int} {q : Nat → Value} {W : Wk} (h : RWA w p F ia ic L q W) : W.kd.length ≤ 4096 := by
  obtain ⟨_, _, _, _, _, _, h⟩ := h; exact h.kl
theorem nx_bd {z : List Int} (hz : Bys z) : 0 ≤ ptN z ∧ ptN z ≤ 4096 := by
  unfold ptN
  split
  · next e =>
    unfold ptE at e
    split at e
    · split at e
      · next hb =>
        unfold ptB at hb
        simp only [Bool.and_eq_true, decide_eq_true_eq] at hb
        have h1 := hb.2.2.2.1.2.1
        have h0 : 0 ≤ nx (opP z) := by unfold nx; exact (getI_bd (opP_bys hz) 0 4).1
        omega
      · cases e
    · contradiction
  · omega
theorem kdB_cnt {W : Wk} {n kd : Int} (hk : (kd == 120) = false) (hk0 : kd ≠ 0) (h : kdB W n kd = true) : cnt (kR (W.kd.set n.toNat kd)) = cnt (kR W.kd) + 1 := by
  have h2 := (kdB_in h).1
  have hr := kdB_kR (W := W) hk h2
  rw [h] at hr
  obtain ⟨r1, r2, r3⟩ := rcB_out hr.symm
  rw [kR_set hk0]
  exact cnt_set (by omega) r3
theorem ptL_bys {z : List Int} (hz : Bys z) : Bys (ptL z) := by
  unfold ptL
  split
  · intro y hy
    exact opP_bys hz y (List.mem_of_mem_drop (List.mem_of_mem_take hy))
  · intro y hy; cases hy

theorem RWA.low {w w2 w5 : World} {p ic : Nat} {F : Nat → Prop} {ia : Option Addr} {L : List Int} {q : Nat → Value} {W : Wk} (h : RWA w2 p F ia ic L q W) (hF : ∀ k, F k → k < w.heap.size) (hi : ∀ k, obl ia k → k < w.heap.size) (hb : Below w.heap.size w2 w5) : RWA w5 p F ia ic L q W := by
  obtain ⟨_, _, _, _, _, _, h⟩ := h
  exact ⟨_, _, _, _, _, _, h.keep hb.size (fun g hg => hb.block g (hF g hg)) (fun g hg => hb.block g (hi g hg))⟩
/-- A page more. -/
theorem ChI.next {w wr w5 : World} {p ic N f1 : Nat} {F : Nat → Prop} {ia : Option Addr} {L : List Int} {q : Nat → Value} {kd n' Y : Int} {v v5 : Value} {W' : Wk} {out T : List Int} {fin : Wk × List Int} {b : Bool} (h : ChI w wr p F ia ic L q kd N (f1 + 1) n' v W' out fin)
    (hF : ∀ k, F k → k < w.heap.size) (hi : ∀ k, obl ia k → k < w.heap.size) {w2 : World} (h2 : RWA w2 p F ia ic L q { W' with kd := W'.kd.set n'.toNat kd, bad := b }) (hc : Ch w.heap.size F w w2) (ho : Own w.heap.size w5 v5 (out ++ T)) (hb : Below w.heap.size w2 w5) (hT : Bys T) (hl : T.length ≤ 244) (hY : 0 ≤ Y ∧ Y ≤ 4096) (hcn : cnt (kR (W'.kd.set n'.toNat kd)) = cnt (kR W'.kd) + 1) (hfin : chGo L kd f1 Y { W' with kd := W'.kd.set n'.toNat kd, bad := b } (out ++ T) = fin) :
    ChI w w5 p F ia ic L q kd N f1 Y v5 { W' with kd := W'.kd.set n'.toNat kd, bad := b } (out ++ T) fin := by
  have h1 := h.fu
  have h2' := h.ln
  refine { rw := h2.low hF hi hb, kl := by simp only [List.length_set]; exact h.kl, fin := hfin, own := ho, by' := h.by'.app hT, ch := hc.trans (Ch.of F hb), n := by omega, fu := ?_, ln := ?_ }
  · simp only [hcn]; omega
  · simp only [hcn, List.length_append]; omega

section
variable {w w' : World} {p ic : Nat} {F : Nat → Prop} {ia : Option Addr} {L : List Int} {q : Nat → Value} {W : Wk}

set_option maxHeartbeats 4000000 in
set_option maxRecDepth 20000 in
theorem chain_any (h : RWA w p F ia ic L q W) (hk0 : 0 < W.kd.length) (kd : Int) (hkd : 0 ≤ kd ∧ kd ≤ 255) (hkx : (kd == 120) = false) (hkn : kd ≠ 0) (n : Int) (hn : -9223372036854775808 ≤ n ∧ n ≤ 9223372036854775807) (f : Nat) (hf : W.kd.length < f) (fin : Wk × List Int) (hfin : chGo L kd f n W [] = fin) :
    Calls Tryz.prog 46 #[.pointer (some ⟨p, 0, none⟩), .int .i64 n, .int .u8 kd] w fun e w' => ∃ g c, e = .returned (.slice g fin.2.length c) ∧ Own w.heap.size w' (.slice g fin.2.length c) fin.2 ∧ Bys fin.2 ∧ RWA w' p F ia ic L q fin.1 ∧ Ch w.heap.size F w w' := by
  have HI0 : Hid (ChI w w p F ia ic L q kd W.kd.length f n (.slice none 0 0) W [] fin) := ⟨h, rfl, hfin, ⟨rfl, .inl ⟨rfl, rfl⟩⟩, fun z hz => (by cases hz), Ch.refl _ _ _, hn, by omega, by simp⟩
  have HK : Hid (0 < W.kd.length ∧ (kd == 120) = false ∧ kd ≠ 0 ∧ (0 ≤ kd ∧ kd ≤ 255) ∧ W.kd.length ≤ 4096 ∧ ∀ k, F k → k < w.heap.size) := ⟨hk0, hkx, hkn, hkd, h.kl, h.lt⟩
  have HIL : Hid (∀ k, obl ia k → k < w.heap.size) := h.ilt hk0
  clear h hk0 hkx hkn hf hfin hn
  go_enter Tryz.func46, Tryz.ntmps46
  go_wp2_with fail
  go_loopg [1, 7] f (fun k i v wr => ∃ (n' : Int) (W' : Wk) (out : List Int), i = .int .i64 n' ∧ Hid (ChI w wr p F ia ic L q kd W.kd.length k n' v W' out fin))
  case atStart => exact ⟨n, W, [], rfl, HI0.out⟩
  case round =>
    clear HI0
    obtain ⟨n', W', out, rfl, HI⟩ := hrel
    have c16 := HI.out.rw.c16.1
    obtain ⟨ov, oc, hv, hrow⟩ := HI.out.own.row HI.out.by'
    have hN : W'.kd.length ≤ 4096 := HI.out.rw.kl
    have hol : out.length ≤ 999424 := by have := HI.out.ln; have := cnt_le (kR W'.kd); rw [kR_len] at this; omega
    subst hv
    by_cases hend : n' = 0 ∨ W'.bad = true
    · have HF : Hid (fin = (W', out)) := HI.out.fin.symm.trans (chGo_end hend)
      obtain ⟨wb, hwb⟩ : ∃ wb, W'.bad = wb := ⟨_, rfl⟩
      rw [hwb] at c16 hend
      clear hwb
      have HD : Hid (∃ g c, Ending.returned (.slice ov out.length oc) = .returned (.slice g fin.2.length c) ∧ Own w.heap.size wr (.slice g fin.2.length c) fin.2 ∧ Bys fin.2 ∧ RWA wr p F ia ic L q fin.1 ∧ Ch w.heap.size F w wr) := by
        show ∃ g c, _
        rw [HF.out]
        exact ⟨ov, oc, rfl, HI.out.own, HI.out.by', HI.out.rw, HI.out.ch⟩
      clear HI HF hrow
      by_cases hn0 : n' = 0
      · subst hn0
        clear hend
        go_wp2
        go_ret
        exact HD.out
      · have : wb = true := by rcases hend with e | e; exact absurd e hn0; exact e
        subst this
        have hn1 : (n' == 0) = false := by simpa using hn0
        have hn2 : (n' != 0) = true := by simpa using hn0
        clear hend hn0
        go_wp2
        go_ret
        exact HD.out
    · have hb' : W'.bad = false := by cases e : W'.bad with | true => exact absurd (.inr e) hend | false => rfl
      have hn0 : ¬ n' = 0 := fun e => hend (.inl e)
      clear hend
      rw [hb'] at c16
      have hn1 : (n' == 0) = false := by simpa using hn0
      have hn2 : (n' != 0) = true := by simpa using hn0
      obtain ⟨f1, hf1⟩ : ∃ f1, gk = f1 + 1 := ⟨gk - 1, by have := HI.out.fu; have := cnt_le (kR W'.kd); rw [kR_len, HI.out.kl] at this; omega⟩
      subst hf1
      obtain ⟨gk', ck, aP, aT, cP, cT, hR⟩ := HI.out.rw
      have HN0 : Hid (¬ n' = 0 ∧ W'.bad = false) := ⟨hn0, hb'⟩
      cases hk : kdB W' n' kd with
      | false =>
        have hp := page_no hR n' kd HI.out.n hk
        have HF : Hid (fin = ({ W' with bad := true }, out)) := HI.out.fin.symm.trans (chGo_no hn0 hb' hk)
        clear hR hn0 hb' hk hrow
        go_wp2_with fail
        refine hp.mono ?_
        clear hp
        rintro e w1 ⟨rfl, h1, hc1⟩
        have d16 := h1.at.2.2.2.2
        simp only at d16
        have HD : Hid (∃ g c, Ending.returned (.slice ov out.length oc) = .returned (.slice g fin.2.length c) ∧ Own w.heap.size w1 (.slice g fin.2.length c) fin.2 ∧ Bys fin.2 ∧ RWA w1 p F ia ic L q fin.1 ∧ Ch w.heap.size F w w1) := by
          show ∃ g c, _
          rw [HF.out]
          refine ⟨ov, oc, rfl, owns_keep HI.out.own (fun g hg => hc1.block g (World.ownsRow.lt HI.out.own g hg).2 (fun e => ?_)), HI.out.by', ⟨_, _, _, _, _, _, h1⟩, HI.out.ch.trans (hc1.mono HI.out.ch.size (fun _ _ e => e))⟩
          have := HI.out.own.lt' g hg
          have := HK.out.2.2.2.2.2 g e
          omega
        clear h1 hc1 HI HF c16
        go_wp2
        go_ret
        exact HD.out
      | true =>
        have hp := page_yes hR n' kd HK.out.2.2.2.1 hk
        have hpl := ptL_le (z := pageOf L n'.toNat)
        have HFY : Hid (chGo L kd f1 (ptN (pageOf L n'.toNat)) { W' with kd := W'.kd.set n'.toNat kd, bad := !(ptE (pageOf L n'.toNat) == 0) } (out ++ ptL (pageOf L n'.toNat)) = fin) := (chGo_yes hn0 hb' hk (by omega)).symm.trans HI.out.fin
        have HCN : Hid (cnt (kR (W'.kd.set n'.toNat kd)) = cnt (kR W'.kd) + 1) := kdB_cnt HK.out.2.1 HK.out.2.2.1 hk
        have hzb : Bys (pageOf L n'.toNat) := page_bys hR.img.1 _
        have HZB : Hid (Bys (ptL (pageOf L n'.toNat)) ∧ 0 ≤ ptN (pageOf L n'.toNat) ∧ ptN (pageOf L n'.toNat) ≤ 4096) := ⟨ptL_bys hzb, nx_bd hzb⟩
        clear hR hn0 hb' hk hrow hzb
        obtain ⟨z, hz⟩ : ∃ z, pageOf L n'.toNat = z := ⟨_, rfl⟩
        rw [hz] at hp hpl HFY HZB
        obtain ⟨T, hT⟩ : ∃ T, ptL z = T := ⟨_, rfl⟩
        obtain ⟨E, hE⟩ : ∃ E, ptE z = E := ⟨_, rfl⟩
        obtain ⟨Y, hY⟩ : ∃ Y, ptN z = Y := ⟨_, rfl⟩
        obtain ⟨tl, htl⟩ : ∃ tl, T.length = tl := ⟨_, rfl⟩
        rw [hT, htl] at hpl
        rw [hT, hE, hY] at HFY
        rw [hT, hY] at HZB
        have HT : Hid (ptL z = T ∧ ptE z = E ∧ ptN z = Y ∧ T.length = tl) := ⟨hT, hE, hY, htl⟩
        clear hT hE hY htl hz
        go_wp2_with fail
        refine hp.mono ?_
        clear hp
        rintro e w1 ⟨⟨a', c', rfl, hr1, hl1, -⟩, h1, hc1⟩
        have d16 := h1.at.2.2.2.2
        have z16 := h1.frz 16
        simp only [HN0.out.2] at d16
        have hlp : p < w1.heap.size := h1.lt p h1.fp
        have hpt := rPart_v (some a') c' 256 z w1 hr1 hl1 E HT.out.2.1 T HT.out.1 tl HT.out.2.2.2 Y HT.out.2.2.1
        have H1 : Hid (RWA w1 p F ia ic L q { W' with kd := W'.kd.set n'.toNat kd } ∧ Ch w.heap.size F w w1 ∧ Own w.heap.size w1 (.slice ov out.length oc) out) := by
          refine ⟨⟨_, _, _, _, _, _, h1⟩, HI.out.ch.trans (hc1.mono HI.out.ch.size (fun _ _ e => e)), owns_keep HI.out.own (fun g hg => hc1.block g (World.ownsRow.lt HI.out.own g hg).2 (fun e => ?_))⟩
          have := HI.out.own.lt' g hg
          have := HK.out.2.2.2.2.2 g e
          omega
        clear h1 hc1 hr1 hl1 c16
        go_wp2_with fail
        refine hpt.mono ?_
        clear hpt
        rintro e w2 ⟨g, c, rfl, hnil, hrow2, hb2⟩
        have e16 := (hb2.cell (p := ⟨p, 16, none⟩) hlp).trans d16
        have x16 := (hb2.frozen (p := ⟨p, 16, none⟩) hlp).trans z16
        have H2 : Hid (RWA w2 p F ia ic L q { W' with kd := W'.kd.set n'.toNat kd } ∧ Ch w.heap.size F w w2 ∧ Own w.heap.size w2 (.slice ov out.length oc) out ∧ Row w2 g c T ∧ (g = none → c = 0)) :=
          ⟨H1.out.1.below (by show 0 < (W'.kd.set _ _).length; rw [List.length_set, HI.out.kl]; exact HK.out.1) hb2, H1.out.2.1.trans (Ch.of F (hb2.mono H1.out.2.1.size)), own_below H1.out.2.2 hb2, hrow2, hnil⟩
        clear hb2 hrow2 hnil d16 z16 H1 hlp
        by_cases hE0 : E = 0
        · subst hE0
          have hoc := (H2.out.2.2.1.row' HI.out.by').2.2.1
          have hle : (out.length : Int) + (tl : Int) ≤ 1048576 := by omega
          go_wp2_with (at_builtin; refine append_row rfl _ _ rfl w.heap.size (.slice ov out.length oc) out rfl H2.out.2.2.1 g T c (by rw [HT.out.2.2.2]; rfl) H2.out.2.2.2.1 H2.out.2.2.2.2 (by rw [HT.out.2.2.2]; omega) H2.out.2.1.size ?_; intro v5 w5 ho5 hb5; have H5 : Hid (Own w.heap.size w5 v5 (out ++ T) ∧ Below w.heap.size w2 w5) := ⟨ho5, hb5⟩; clear ho5 hb5)
          go_roundg f1
          case rel => exact ⟨Y, _, _, rfl, HI.out.next (b := false) HK.out.2.2.2.2.2 HIL.out (by have := H2.out.1; rw [HN0.out.2] at this; exact this) H2.out.2.1 H5.out.1 H5.out.2 HZB.out.1 (by rw [HT.out.2.2.2]; exact hpl) HZB.out.2 HCN.out HFY.out⟩
          case measure => omega
        · have hE1 : (E == 0) = false := by simpa using hE0
          have hE2 : (E != 0) = true := by simpa using hE0
          have hT0 : T = [] ∧ Y = 0 := by
            rw [← HT.out.1, ← HT.out.2.2.1]
            unfold ptL ptN
            rw [HT.out.2.1, if_neg hE0, if_neg hE0]
            exact ⟨rfl, rfl⟩
          obtain ⟨rfl, rfl⟩ := hT0
          have htl : tl = 0 := HT.out.2.2.2.symm
          subst htl
          have hch : Ch w2.heap.size F w2 (w2.setCell ⟨p, 16, none⟩ (.bool true)) := Ch.set H2.out.1.fp _ _
          have H3 : Hid (RWA (w2.setCell ⟨p, 16, none⟩ (.bool true)) p F ia ic L q { W' with kd := W'.kd.set n'.toNat kd, bad := true } ∧ Ch w.heap.size F w (w2.setCell ⟨p, 16, none⟩ (.bool true)) ∧ Own w.heap.size (w2.setCell ⟨p, 16, none⟩ (.bool true)) (.slice ov out.length oc) out ∧ Row (w2.setCell ⟨p, 16, none⟩ (.bool true)) g c [] ∧ (g = none → c = 0)) := by
            refine ⟨H2.out.1.setBad true, H2.out.2.1.trans (hch.mono H2.out.2.1.size (fun _ _ e => e)), owns_keep H2.out.2.2.1 (fun g hg => hch.block g (World.ownsRow.lt H2.out.2.2.1 g hg).2 (fun e => ?_)), ⟨H2.out.2.2.2.1.1, H2.out.2.2.2.1.2.1, H2.out.2.2.2.1.2.2.1, .inl rfl⟩, H2.out.2.2.2.2⟩
            have := H2.out.2.2.1.lt' g hg
            have := HK.out.2.2.2.2.2 g e
            omega
          have HFY2 : Hid (chGo L kd f1 0 { W' with kd := W'.kd.set n'.toNat kd, bad := true } (out ++ []) = fin) := by have := HFY.out; rw [hE1] at this; exact this
          clear hch H2 hE0 hE1 HFY
          go_wp2_with (at_builtin; refine append_row rfl _ _ rfl w.heap.size (.slice ov out.length oc) out rfl H3.out.2.2.1 g [] c rfl H3.out.2.2.2.1 H3.out.2.2.2.2 (by simp; omega) H3.out.2.1.size ?_; intro v5 w5 ho5 hb5; have H5 : Hid (Own w.heap.size w5 v5 (out ++ []) ∧ Below w.heap.size (w2.setCell ⟨p, 16, none⟩ (.bool true)) w5) := ⟨ho5, hb5⟩; clear ho5 hb5)
          go_roundg f1
          case rel => exact ⟨0, _, _, rfl, HI.out.next (b := true) HK.out.2.2.2.2.2 HIL.out H3.out.1 H3.out.2.1 H5.out.1 H5.out.2 HZB.out.1 (by simp) HZB.out.2 HCN.out HFY2.out⟩
          case measure => omega
end
end Go.Proofs.YtjllhcifmfhkmaaGreat.Oct
