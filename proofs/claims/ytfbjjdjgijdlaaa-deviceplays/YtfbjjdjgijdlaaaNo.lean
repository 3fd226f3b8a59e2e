/-
  The document's Crash.
-/
import Derived.Test.YtfbjjdjgijdlaaaNn
namespace Go.Proofs.Ytfbjjdjgijdlaaa.Oct
open Go.RowKit

theorem Cx.congr {w0 w : World} {q g1 g2 c1 c2 n k : Nat} {s1 s2 : List Value} {gs cs : Nat → Nat} {f f' : Nat → List Int} (h : Cx w0 w q g1 g2 c1 c2 n k s1 s2 gs cs f) (e : ∀ i, i < k → f i = f' i) : Cx w0 w q g1 g2 c1 c2 n k s1 s2 gs cs f' :=
  { h with pg := fun i hi => by rw [← e i hi]; exact h.pg i hi }

/-- What a walk over 'x.Now[i] = Copy(d.Sure[i])' wants. -/
theorem c1_prep {w wr : World} {q g1 g2 c1 c2 n k p gd e1 : Nat} {s1 s2 : List Value} {gs cs : Nat → Nat} {f : Nat → List Int} {gp cp : Nat} (h : Cx w wr q g1 g2 c1 c2 n k s1 s2 gs cs f) (hk : k < n) (lp : p < w.heap.size) (lg : gd < w.heap.size)
    (x0 : w.cell? ⟨p, 0, none⟩ = some (.slice (some ⟨gd, 0, none⟩) n e1)) (x1 : w.cell? ⟨gd, k, none⟩ = some (.slice (some ⟨gp, 0, none⟩) 256 cp)) :
    wr.cell? ⟨q, 1, none⟩ = some (.slice (some ⟨g2, 0, none⟩) n c2) ∧ wr.cell? ⟨p, 0, none⟩ = some (.slice (some ⟨gd, 0, none⟩) n e1) ∧ wr.cell? ⟨gd, k, none⟩ = some (.slice (some ⟨gp, 0, none⟩) 256 cp) ∧
    ∀ (w5 : World) (ga ca : Nat), Own wr.heap.size w5 (.slice (some ⟨ga, 0, none⟩) 256 ca) (f k) → Below wr.heap.size wr w5 →
      w5.cell? ⟨q, 1, none⟩ = some (.slice (some ⟨g2, 0, none⟩) n c2) ∧ w5.cell? ⟨p, 0, none⟩ = some (.slice (some ⟨gd, 0, none⟩) n e1) ∧ w5.cell? ⟨gd, k, none⟩ = some (.slice (some ⟨gp, 0, none⟩) 256 cp) ∧ (∃ u, w5.cell? ⟨g2, k, none⟩ = some u) ∧ w5.frozen? ⟨g2, k, none⟩ = false ∧
      (w5.setCell ⟨g2, k, none⟩ (.slice (some ⟨ga, 0, none⟩) 256 ca)).cell? ⟨q, 1, none⟩ = some (.slice (some ⟨g2, 0, none⟩) n c2) ∧ (w5.setCell ⟨g2, k, none⟩ (.slice (some ⟨ga, 0, none⟩) 256 ca)).cell? ⟨p, 0, none⟩ = some (.slice (some ⟨gd, 0, none⟩) n e1) ∧ (w5.setCell ⟨g2, k, none⟩ (.slice (some ⟨ga, 0, none⟩) 256 ca)).cell? ⟨gd, k, none⟩ = some (.slice (some ⟨gp, 0, none⟩) 256 cp) ∧
      ∃ s2' gs' cs', Cx w (w5.setCell ⟨g2, k, none⟩ (.slice (some ⟨ga, 0, none⟩) 256 ca)) q g1 g2 c1 c2 n (k + 1) s1 s2' gs' cs' f := by
  have l2 := h.l2
  refine ⟨h.at.2, (h.bel.cell (p := ⟨p, 0, none⟩) lp).trans x0, (h.bel.cell (p := ⟨gd, k, none⟩) lg).trans x1, fun w5 ga ca ho hb => ?_⟩
  have h5 := h.below hb
  have hx := h.put hk hb ho
  have y0 := (h5.bel.cell (p := ⟨p, 0, none⟩) lp).trans x0
  have y1 := (h5.bel.cell (p := ⟨gd, k, none⟩) lg).trans x1
  have hlen : s2.length = n := by have := h.o2.1; omega
  refine ⟨h5.at.2, y0, y1, ⟨s2[k]'(by omega), ?_⟩, World.ownsRow.frozenAt h5.o2 k, hx.at.2, ?_, ?_, _, _, _, hx⟩
  · rw [World.ownsRow.cellAt h5.o2 k (by omega)]; exact List.getElem?_eq_getElem (by omega)
  · exact (World.cell?_setCell_other _ _ _ _ (by intro e; injection e with e1; omega)).trans y0
  · exact (World.cell?_setCell_other _ _ _ _ (by intro e; injection e with e1; omega)).trans y1

/-- What a walk over 'x.Sure[i] = Copy(x.Now[i])' wants. -/
theorem c3_prep {w wr : World} {q g1 g2 c1 c2 n j : Nat} {s1 s2 : List Value} {gs cs : Nat → Nat} {f : Nat → List Int} (h : Cx w wr q g1 g2 c1 c2 n n s1 s2 gs cs f) (hs : Ls w wr q g1 g2 s1 j f) (hj : j < n) (hb : Bys (f j)) (hl : (f j).length = 256) :
    wr.cell? ⟨q, 0, none⟩ = some (.slice (some ⟨g1, 0, none⟩) n c1) ∧ wr.cell? ⟨q, 1, none⟩ = some (.slice (some ⟨g2, 0, none⟩) n c2) ∧ ∃ gp cp, wr.cell? ⟨g2, j, none⟩ = some (.slice (some ⟨gp, 0, none⟩) 256 cp) ∧ Row wr (some ⟨gp, 0, none⟩) cp (f j) ∧
    ∀ (w5 : World) (ga ca : Nat), Own wr.heap.size w5 (.slice (some ⟨ga, 0, none⟩) 256 ca) (f j) → Below wr.heap.size wr w5 →
      w5.cell? ⟨q, 0, none⟩ = some (.slice (some ⟨g1, 0, none⟩) n c1) ∧ w5.cell? ⟨q, 1, none⟩ = some (.slice (some ⟨g2, 0, none⟩) n c2) ∧ w5.cell? ⟨g2, j, none⟩ = some (.slice (some ⟨gp, 0, none⟩) 256 cp) ∧ (∃ u, w5.cell? ⟨g1, j, none⟩ = some u) ∧ w5.frozen? ⟨g1, j, none⟩ = false ∧
      (w5.setCell ⟨g1, j, none⟩ (.slice (some ⟨ga, 0, none⟩) 256 ca)).cell? ⟨q, 0, none⟩ = some (.slice (some ⟨g1, 0, none⟩) n c1) ∧ (w5.setCell ⟨g1, j, none⟩ (.slice (some ⟨ga, 0, none⟩) 256 ca)).cell? ⟨q, 1, none⟩ = some (.slice (some ⟨g2, 0, none⟩) n c2) ∧ (w5.setCell ⟨g1, j, none⟩ (.slice (some ⟨ga, 0, none⟩) 256 ca)).cell? ⟨g2, j, none⟩ = some (.slice (some ⟨gp, 0, none⟩) 256 cp) ∧
      ∃ s1', Cx w (w5.setCell ⟨g1, j, none⟩ (.slice (some ⟨ga, 0, none⟩) 256 ca)) q g1 g2 c1 c2 n n s1' s2 gs cs f ∧ Ls w (w5.setCell ⟨g1, j, none⟩ (.slice (some ⟨ga, 0, none⟩) 256 ca)) q g1 g2 s1' (j + 1) f := by
  obtain ⟨e1, e2, _⟩ := h.pg j hj
  have hc := (World.ownsRow.cellAt h.o2 j (by omega)).trans e1
  have hlen : s1.length = n := by have := h.o1.1; omega
  refine ⟨h.at.1, h.at.2, gs j, cs j, hc, (e2.row' hb).2, fun w5 ga ca ho hbe => ?_⟩
  have _ := hl
  have h5 := h.below hbe
  obtain ⟨hx, hy⟩ := h.last hs hj hbe ho
  have hc5 := (World.ownsRow.cellAt h5.o2 j (by omega)).trans (h5.pg j hj).1
  refine ⟨h5.at.1, h5.at.2, hc5, ⟨s1[j]'(by omega), ?_⟩, World.ownsRow.frozenAt h5.o1 j, hx.at.1, hx.at.2, ?_, _, hx, hy⟩
  · rw [World.ownsRow.cellAt h5.o1 j (by omega)]; exact List.getElem?_eq_getElem (by omega)
  · exact (World.cell?_setCell_other _ _ _ _ (by intro e; injection e with e1; exact h.n12 e1)).trans hc5

set_option maxRecDepth 20000 in
set_option maxHeartbeats 4000000 in
theorem rcrash_any {w : World} {p : Nat} {F : Nat → Prop} {D : Dv} (h : RD w p F D) (hs : D.since.length ≤ 1000000) (a : Option Addr) (cap : Nat) (ch : List Int) (hr : Row w a cap ch) :
    Calls Try.prog 27 #[.pointer (some ⟨p, 0, none⟩), .slice a ch.length cap] w fun e w' => ∃ q F', e = .returned (.pointer (some ⟨q, 0, none⟩)) ∧ RD w' q F' (crashD D ch) ∧ Below w.heap.size w w' ∧ ∀ k, F' k → w.heap.size ≤ k := by
  have lp := h.q.2
  obtain ⟨ok, hF, P, v1, v2, vS, vO, s1d, s2d, sSd, hc, hfo⟩ := h
  have h8 := ok.n8
  have h4 := ok.n4
  obtain ⟨gd, e1, hv1, _, _⟩ := hc.o1.form (by omega)
  obtain ⟨gd2, e2, hv2, _, _⟩ := hc.o2.form (by omega)
  subst hv1 hv2
  obtain ⟨c0, c1, c2, _⟩ := hc.at
  have lgd : gd < w.heap.size := hF gd (hfo gd (.inr (.inr (.inl rfl))))
  have HOK : Hid D.ok := ok
  have HC : Hid (RefC w p P (.slice (some ⟨gd, 0, none⟩) D.n e1) (.slice (some ⟨gd2, 0, none⟩) D.n e2) vS vO s1d s2d sSd D) := hc
  have hvS : ∃ aS cS, vS = .slice aS D.since.length cS ∧ (0 < D.since.length → ∃ gS, aS = some ⟨gS, 0, none⟩ ∧ gS < w.heap.size) := by
    rcases id hc.oS.2 with ⟨e, h0⟩ | ⟨g, c, cur, e, _, hg, _⟩
    · exact ⟨none, 0, by rw [e]; simp_all, fun h => by simp_all⟩
    · exact ⟨_, _, e, fun _ => ⟨g, rfl, heap_lt hg⟩⟩
  obtain ⟨aS, cS, hvS, hvg⟩ := hvS
  subst hvS
  have HVG : Hid (0 < D.since.length → ∃ gS, aS = some ⟨gS, 0, none⟩ ∧ gS < w.heap.size) := hvg
  have HROW : Hid (Row w a cap ch) := hr
  have hnew := rnew_yes D.n w h8 h4
  have hchl : ch.length ≤ maxLen := Nat.le_trans hr.2.1 hr.2.2.1
  unfold maxLen at hchl
  have HFO : Hid (∀ k, P k → k < w.heap.size) := fun k hk => hF k (hfo k (.inr (.inl hk)))
  clear ok hF hfo hc hvg hr
  go_enter Try.func27, Try.ntmps27
  go_wp2_with fail
  refine hnew.mono ?_
  clear hnew
  rintro e w1 ⟨q, v1, v2, s1, s2, rfl, hR⟩
  obtain ⟨g1, g2, k1, k2, hX⟩ := Cx.start (f := pageOf D.sure) hR (by omega)
  have HX0 : Hid (∃ s1 s2 gs cs, Cx w w1 q g1 g2 k1 k2 D.n 0 s1 s2 gs cs (pageOf D.sure)) := ⟨_, _, _, _, hX⟩
  clear hR hX v1 v2 s1 s2
  go_wp2
  go_loopw [7] (fun i wr => ∃ k : Nat, k ≤ D.n ∧ i = .int .i64 k ∧ ∃ s1 s2 gs cs, Cx w wr q g1 g2 k1 k2 D.n k s1 s2 gs cs (pageOf D.sure)) (fun i _ => D.n - (intOf i).toNat)
  case atStart => exact ⟨0, Nat.zero_le _, rfl, HX0.out⟩
  case round =>
    clear HX0
    obtain ⟨k, hk, rfl, s1, s2, gs, cs, hX⟩ := hrel
    have cn : wr.cell? ⟨p, 1, none⟩ = some (.slice (some ⟨gd2, 0, none⟩) D.n e2) := (hX.bel.cell (p := ⟨p, 1, none⟩) lp).trans c1
    by_cases hlt : k < D.n
    · obtain ⟨gp, cp, y1, y2, _⟩ := HC.out.p1 k hlt
      have x1 := (World.ownsRow.cellAt HC.out.o1 k (by omega)).trans y1
      obtain ⟨z1, z2, z3, hprep⟩ := c1_prep hX hlt lp lgd c0 x1
      have hcp := copy_drew _ _ _ wr (y2.rowB (fun x hx => HOK.out.bsure x (List.mem_of_mem_drop (List.mem_of_mem_take hx))) (hX.bel.mono (Nat.le_of_eq rfl))) (pageOf_len (by rw [HOK.out.sure]; omega))
      have HP : Hid _ := hprep
      have i0 : (0 : Int) ≤ (k : Int) := by omega
      have i1 : (k : Int) < (D.n : Int) := by omega
      clear hprep y1 y2 x1 hX
      go_wp2_with fail
      go_region_held3 (fun w' => w'.cell? ⟨q, 1, none⟩ = some (.slice (some ⟨g2, 0, none⟩) D.n k2) ∧ w'.cell? ⟨p, 0, none⟩ = some (.slice (some ⟨gd, 0, none⟩) D.n e1) ∧ w'.cell? ⟨gd, k, none⟩ = some (.slice (some ⟨gp, 0, none⟩) 256 cp)) (first | go_keep | exact ⟨by assumption, by assumption, by assumption⟩) (first | (go_at_call 48; refine hcp.mono ?_; rintro e w5 ⟨ga, ca, rfl, ho5, hb5⟩; obtain ⟨t0, t1, t2, ⟨u, tu⟩, tz, r0, r1, r2, s2', gs', cs', hX'⟩ := HP.out w5 ga ca ho5 hb5; have HX' : Hid _ := hX'; clear hX' ho5 hb5))
      clear t0 t1 t2 tu tz r0 r1 r2 z1 z2 z3 hcp HP cn
      go_wp2
      go_roundw
      case rel => exact ⟨k + 1, by omega, by go_num, _, _, _, _, HX'.out⟩
      case measure => simp [intOf]; omega
    · have e : k = D.n := by omega
      subst e
      have HX : Hid (Cx w wr q g1 g2 k1 k2 D.n D.n s1 s2 gs cs (pageOf D.sure)) := hX
      clear hX
      go_wp2
      go_loopw [8] (fun i wr => ∃ j : Nat, j ≤ D.since.length ∧ i = .int .i64 j ∧ Cx w wr q g1 g2 k1 k2 D.n D.n s1 s2 gs cs (pageOf (fallK D.sure D.since ch j))) (fun i _ => D.since.length - (intOf i).toNat)
      case atStart => exact ⟨0, Nat.zero_le _, rfl, HX.out⟩
      case round =>
        clear HX cn hk hlt
        obtain ⟨j, hj, rfl, hX⟩ := hrel
        have cs2 : wr.cell? ⟨p, 2, none⟩ = some (.slice aS D.since.length cS) := (hX.bel.cell (p := ⟨p, 2, none⟩) lp).trans c2
        by_cases hlt : j < D.since.length
        · obtain ⟨gS, haS, lgS⟩ := HVG.out (by omega)
          subst haS
          obtain ⟨gb, cb, e3, e4, e5, e6⟩ := HC.out.pS j hlt
          obtain ⟨xx, hxx⟩ : ∃ xx, D.since.getD j (0, []) = xx := ⟨_, rfl⟩
          obtain ⟨pg, b⟩ := xx
          rw [hxx] at e3 e5
          clear HVG
          have hmem : (pg, b) ∈ D.since := by
            rw [← hxx, List.getD_eq_getElem?_getD, List.getElem?_eq_getElem hlt]
            exact List.getElem_mem hlt
          obtain ⟨hpg, hbl, hbb⟩ := HOK.out.since _ hmem
          have lgb : gb < w.heap.size := HFO.out gb e6
          have z1 : wr.cell? ⟨gS, j * 2, none⟩ = some (.int .i64 pg) := (hX.bel.cell (p := ⟨gS, j * 2, none⟩) lgS).trans ((World.ownsRow.cellAt HC.out.oS (j * 2) (by omega)).trans (by rw [Nat.mul_comm]; exact e3))
          have z2 : wr.cell? ⟨gS, j * 2 + 1, none⟩ = some (.slice (some ⟨gb, 0, none⟩) 256 cb) := (hX.bel.cell (p := ⟨gS, j * 2 + 1, none⟩) lgS).trans ((World.ownsRow.cellAt HC.out.oS (j * 2 + 1) (by omega)).trans (by rw [Nat.mul_comm]; exact e4))
          have HOB : Hid (Own 0 w (.slice (some ⟨gb, 0, none⟩) 256 cb) b) := e5
          have HBL : Hid (b.length = 256) := hbl
          obtain ⟨LJ, hLJe⟩ : ∃ LJ, fallK D.sure D.since ch j = LJ := ⟨_, rfl⟩
          have hLJ : LJ.length = D.n * 256 := by rw [← hLJe, fallK_len]; exact HOK.out.sure
          rw [hLJe] at hX
          have HX : Hid (Cx w wr q g1 g2 k1 k2 D.n D.n s1 s2 gs cs (pageOf LJ)) := hX
          have i0 : (0 : Int) ≤ (j : Int) := by omega
          have i1 : (j : Int) < (D.since.length : Int) := by omega
          have hfj : fallK D.sure D.since ch (j + 1) = onto LJ pg b (if j < ch.length then ch.getD j 0 else 15) := by rw [fallK, hLJe, hxx]
          by_cases hkc : j < ch.length
          · rw [if_pos hkc] at hfj
            obtain ⟨c, hcc⟩ : ∃ c, ch.getD j 0 = c := ⟨_, rfl⟩
            rw [hcc] at hfj
            have HFJ : Hid (fallK D.sure D.since ch (j + 1) = onto LJ pg b c) := hfj
            have hrw := HROW.out.below hX.bel
            obtain ⟨r1, r2, r3, r4⟩ := hrw
            have hcb : 0 ≤ c ∧ c ≤ 255 := by
              rw [← hcc, List.getD_eq_getElem?_getD, List.getElem?_eq_getElem hkc]
              exact r1 _ (List.getElem_mem hkc)
            obtain ⟨hc0, hc1⟩ := hcb
            obtain ⟨ab, ao, rfl, hcell⟩ := r4.resolve_left (by intro e; rw [e] at hkc; exact absurd hkc (by simp))
            have zc := hcell j hkc
            rw [hcc] at zc
            have i2 : (j : Int) < (ch.length : Int) := by omega
            clear hcell hcc hfj hX r1 hxx hmem e3 e4 e5 e6 hLJe
            have HLJ : Hid (LJ.length = D.n * 256) := hLJ
            have ht : ∀ T : Nat, (bits .and .u8 (c / 2 ^ T) 1 == 1) = bitAt c T := fun T => bit_test c T hc0 hc1
            have HT : Hid _ := ht
            clear ht hLJ
            obtain ⟨H, hH⟩ : ∃ H, wr.heap.size = H := ⟨_, rfl⟩
            have HNH : Hid (gs pg ≠ H) := by have := (HX.out.pg pg hpg).2.1.lt2.2; show gs pg ≠ H; omega
            have HST : Hid (Cx w (wr.alloc (.cells #[.int .i64 pg, .slice (some ⟨gb, 0, none⟩) 256 cb] 79)) q g1 g2 k1 k2 D.n D.n s1 s2 gs cs (fun x => if x = pg then pgI (pageOf LJ pg) b c 0 else pageOf LJ x)) := by
              refine (HX.out.below ((Below.refl _ wr).alloc (Nat.le_refl _) _)).congr (fun i hi => ?_)
              by_cases e : i = pg
              · simp only [e, if_true]
                rw [pgI_zero _ _ (pageOf_len (by rw [HLJ.out]; omega))]
              · simp only [e, if_false]
            have HS0 : Hid ((wr.alloc (.cells #[.int .i64 pg, .slice (some ⟨gb, 0, none⟩) 256 cb] 79)).cell? ⟨H, 0, none⟩ = some (.int .i64 pg) ∧ (wr.alloc (.cells #[.int .i64 pg, .slice (some ⟨gb, 0, none⟩) 256 cb] 79)).cell? ⟨H, 1, none⟩ = some (.slice (some ⟨gb, 0, none⟩) 256 cb)) := by
              have hn := heap_alloc_new wr (.cells #[.int .i64 pg, .slice (some ⟨gb, 0, none⟩) 256 cb] 79)
              rw [hH] at hn
              exact ⟨by rw [cell_of_row _ H 0 _ _ (0, 0) hn]; rfl, by rw [cell_of_row _ H 1 _ _ (0, 0) hn]; rfl⟩
            go_wp2
            clear hH
            go_loopw [11] (fun i wr2 => ∃ m : Nat, m ≤ 256 ∧ i = .int .i64 m ∧ Cx w wr2 q g1 g2 k1 k2 D.n D.n s1 s2 gs cs (fun x => if x = pg then pgI (pageOf LJ pg) b c m else pageOf LJ x) ∧ wr2.cell? ⟨H, 0, none⟩ = some (.int .i64 pg) ∧ wr2.cell? ⟨H, 1, none⟩ = some (.slice (some ⟨gb, 0, none⟩) 256 cb)) (fun i _ => msr (intOf i))
            case atStart => exact ⟨0, by omega, rfl, HST.out, HS0.out⟩
            case round =>
              clear HX HST HS0
              obtain ⟨m, hm, rfl, hX, h0, h1⟩ := hrel
              by_cases hmt : m < 256
              · obtain ⟨T, hT⟩ : ∃ T, m / 64 = T := ⟨_, rfl⟩
                have iT : (m : Int) / 64 = (T : Int) := by omega
                have hT4 : T < 4 := by omega
                have hTT := HT.out T
                cases hbit : bitAt c T with
                | false =>
                  rw [hbit] at hTT
                  have HX : Hid (Cx w wr q g1 g2 k1 k2 D.n D.n s1 s2 gs cs (fun x => if x = pg then pgI (pageOf LJ pg) b c (m + 1) else pageOf LJ x)) := by
                    show Cx _ _ _ _ _ _ _ _ _ _ _ _ _ _
                    rw [pgI_skip _ _ _ _ (by rw [hT]; exact hbit)]
                    exact hX
                  have HH2 : Hid _ := And.intro h0 h1
                  clear hX hT
                  go_wp2
                  go_roundw
                  case rel => exact ⟨m + 1, by omega, by go_num, HX.out, HH2.out⟩
                  case measure => simp only [intOf, msr]; omega
                | true =>
                  rw [hbit] at hTT
                  obtain ⟨a1, a2, a3, a4, a5, a6⟩ := hX.pg pg hpg
                  have x1 := hX.at.2
                  have x2 := (World.ownsRow.cellAt hX.o2 pg (by omega)).trans a1
                  have hfl : (if pg = pg then pgI (pageOf LJ pg) b c m else pageOf LJ pg).length = 256 := by rw [if_pos rfl, pgI_len]
                  obtain ⟨-, b1, b2, _⟩ := own_at' a2 m (by rw [hfl]; exact hmt)
                  have x3 : wr.cell? ⟨gb, m, none⟩ = some (.int .u8 (b.getD m 0)) := by
                    obtain ⟨-, t1, _, _⟩ := own_at' HOB.out m (by rw [HBL.out]; exact hmt)
                    exact (hX.bel.cell (p := ⟨gb, m, none⟩) lgb).trans t1
                  obtain ⟨y, hy⟩ : ∃ y, b.getD m 0 = y := ⟨_, rfl⟩
                  obtain ⟨u, hu⟩ : ∃ u, (if pg = pg then pgI (pageOf LJ pg) b c m else pageOf LJ pg).getD m 0 = u := ⟨_, rfl⟩
                  rw [hu] at b1
                  rw [hy] at x3
                  have HX : Hid (Cx w (wr.setCell ⟨gs pg, m, none⟩ (.int .u8 y)) q g1 g2 k1 k2 D.n D.n s1 s2 gs cs (fun x => if x = pg then pgI (pageOf LJ pg) b c (m + 1) else pageOf LJ x)) := by
                    refine (hX.poke (y := y) hpg (by rw [hfl]; exact hmt)).congr (fun i hi => ?_)
                    by_cases e : i = pg
                    · simp only [e, if_true]
                      rw [← hy, pgI_set _ _ _ _ hmt (by rw [hT]; exact hbit)]
                    · simp only [e, if_false]
                  obtain ⟨G, hG⟩ : ∃ G, gs pg = G := ⟨_, rfl⟩
                  have hGH : G ≠ H := by rw [← hG]; exact HNH.out
                  rw [hG] at x2 b1 b2 a3 a5 HX
                  have HH2 : Hid ((wr.setCell ⟨G, m, none⟩ (.int .u8 y)).cell? ⟨H, 0, none⟩ = some (.int .i64 pg) ∧ (wr.setCell ⟨G, m, none⟩ (.int .u8 y)).cell? ⟨H, 1, none⟩ = some (.slice (some ⟨gb, 0, none⟩) 256 cb)) :=
                    ⟨(World.cell?_setCell_other _ _ _ _ (by intro e; injection e with e1; exact hGH e1)).trans h0, (World.cell?_setCell_other _ _ _ _ (by intro e; injection e with e1; exact hGH e1)).trans h1⟩
                  have hgb : G ≠ gb := by have := lgb; rw [hG] at a6; omega
                  have i0 : (0 : Int) ≤ (m : Int) := by omega
                  have i1 : (m : Int) < 256 := by omega
                  have i2 : (0 : Int) ≤ (pg : Int) := by omega
                  have i3 : (pg : Int) < (D.n : Int) := by omega
                  clear hX hT a1 a2 a4 a6 hfl hy hu hG
                  go_wp2_with fail
                  go_region_held3 (fun w' => w'.cell? ⟨q, 1, none⟩ = some (.slice (some ⟨g2, 0, none⟩) D.n k2) ∧ w'.cell? ⟨g2, pg, none⟩ = some (.slice (some ⟨G, 0, none⟩) 256 (cs pg)) ∧ w'.cell? ⟨gb, m, none⟩ = some (.int .u8 y) ∧ w'.cell? ⟨H, 0, none⟩ = some (.int .i64 pg) ∧ w'.cell? ⟨H, 1, none⟩ = some (.slice (some ⟨gb, 0, none⟩) 256 cb)) (first | go_keep | (go_split_ands; refine ⟨?_, ?_, ?_, ?_, ?_⟩ <;> go_keep)) (fail)
                  go_wp2
                  go_roundw
                  case rel => exact ⟨m + 1, by omega, by go_num, HX.out.below ⟨rfl, rfl, rfl, Nat.le_refl _, fun _ _ => rfl⟩, HH2.out⟩
                  case measure => simp only [intOf, msr]; omega
              · have e : m = 256 := by omega
                subst e
                have HX : Hid (Cx w wr q g1 g2 k1 k2 D.n D.n s1 s2 gs cs (pageOf (fallK D.sure D.since ch (j + 1)))) := by
                  refine hX.congr (fun i hi => ?_)
                  rw [HFJ.out]
                  by_cases e : i = pg
                  · simp only [e, if_true]
                    rw [pgI_all c (by rw [HLJ.out]; omega)]
                  · simp only [e, if_false]
                    rw [onto_rest (by rw [HLJ.out]; omega) e]
                clear hX
                go_wp2
                go_roundw
                case rel => exact ⟨j + 1, by omega, by go_num, HX.out⟩
                case measure => simp [intOf]; omega
          · rw [if_neg hkc] at hfj
            have HFJ : Hid (fallK D.sure D.since ch (j + 1) = onto LJ pg b 15) := hfj
            have hc0 : (0 : Int) ≤ 15 := by omega
            have hc1 : (15 : Int) ≤ 255 := by omega
            clear hfj hX hxx hmem e3 e4 e5 e6 hLJe
            have HLJ : Hid (LJ.length = D.n * 256) := hLJ
            have ht : ∀ T : Nat, (bits .and .u8 (15 / 2 ^ T) 1 == 1) = bitAt 15 T := fun T => bit_test 15 T hc0 hc1
            have HT : Hid _ := ht
            clear ht hLJ
            obtain ⟨H, hH⟩ : ∃ H, wr.heap.size = H := ⟨_, rfl⟩
            have HNH : Hid (gs pg ≠ H) := by have := (HX.out.pg pg hpg).2.1.lt2.2; show gs pg ≠ H; omega
            have HST : Hid (Cx w (wr.alloc (.cells #[.int .i64 pg, .slice (some ⟨gb, 0, none⟩) 256 cb] 79)) q g1 g2 k1 k2 D.n D.n s1 s2 gs cs (fun x => if x = pg then pgI (pageOf LJ pg) b 15 0 else pageOf LJ x)) := by
              refine (HX.out.below ((Below.refl _ wr).alloc (Nat.le_refl _) _)).congr (fun i hi => ?_)
              by_cases e : i = pg
              · simp only [e, if_true]
                rw [pgI_zero _ _ (pageOf_len (by rw [HLJ.out]; omega))]
              · simp only [e, if_false]
            have HS0 : Hid ((wr.alloc (.cells #[.int .i64 pg, .slice (some ⟨gb, 0, none⟩) 256 cb] 79)).cell? ⟨H, 0, none⟩ = some (.int .i64 pg) ∧ (wr.alloc (.cells #[.int .i64 pg, .slice (some ⟨gb, 0, none⟩) 256 cb] 79)).cell? ⟨H, 1, none⟩ = some (.slice (some ⟨gb, 0, none⟩) 256 cb)) := by
              have hn := heap_alloc_new wr (.cells #[.int .i64 pg, .slice (some ⟨gb, 0, none⟩) 256 cb] 79)
              rw [hH] at hn
              exact ⟨by rw [cell_of_row _ H 0 _ _ (0, 0) hn]; rfl, by rw [cell_of_row _ H 1 _ _ (0, 0) hn]; rfl⟩
            go_wp2
            clear hH
            go_loopw [11] (fun i wr2 => ∃ m : Nat, m ≤ 256 ∧ i = .int .i64 m ∧ Cx w wr2 q g1 g2 k1 k2 D.n D.n s1 s2 gs cs (fun x => if x = pg then pgI (pageOf LJ pg) b 15 m else pageOf LJ x) ∧ wr2.cell? ⟨H, 0, none⟩ = some (.int .i64 pg) ∧ wr2.cell? ⟨H, 1, none⟩ = some (.slice (some ⟨gb, 0, none⟩) 256 cb)) (fun i _ => msr (intOf i))
            case atStart => exact ⟨0, by omega, rfl, HST.out, HS0.out⟩
            case round =>
              clear HX HST HS0
              obtain ⟨m, hm, rfl, hX, h0, h1⟩ := hrel
              by_cases hmt : m < 256
              · obtain ⟨T, hT⟩ : ∃ T, m / 64 = T := ⟨_, rfl⟩
                have iT : (m : Int) / 64 = (T : Int) := by omega
                have hT4 : T < 4 := by omega
                have hTT := HT.out T
                cases hbit : bitAt 15 T with
                | false =>
                  rw [hbit] at hTT
                  have HX : Hid (Cx w wr q g1 g2 k1 k2 D.n D.n s1 s2 gs cs (fun x => if x = pg then pgI (pageOf LJ pg) b 15 (m + 1) else pageOf LJ x)) := by
                    show Cx _ _ _ _ _ _ _ _ _ _ _ _ _ _
                    rw [pgI_skip _ _ _ _ (by rw [hT]; exact hbit)]
                    exact hX
                  have HH2 : Hid _ := And.intro h0 h1
                  clear hX hT
                  go_wp2
                  go_roundw
                  case rel => exact ⟨m + 1, by omega, by go_num, HX.out, HH2.out⟩
                  case measure => simp only [intOf, msr]; omega
                | true =>
                  rw [hbit] at hTT
                  obtain ⟨a1, a2, a3, a4, a5, a6⟩ := hX.pg pg hpg
                  have x1 := hX.at.2
                  have x2 := (World.ownsRow.cellAt hX.o2 pg (by omega)).trans a1
                  have hfl : (if pg = pg then pgI (pageOf LJ pg) b 15 m else pageOf LJ pg).length = 256 := by rw [if_pos rfl, pgI_len]
                  obtain ⟨-, b1, b2, _⟩ := own_at' a2 m (by rw [hfl]; exact hmt)
                  have x3 : wr.cell? ⟨gb, m, none⟩ = some (.int .u8 (b.getD m 0)) := by
                    obtain ⟨-, t1, _, _⟩ := own_at' HOB.out m (by rw [HBL.out]; exact hmt)
                    exact (hX.bel.cell (p := ⟨gb, m, none⟩) lgb).trans t1
                  obtain ⟨y, hy⟩ : ∃ y, b.getD m 0 = y := ⟨_, rfl⟩
                  obtain ⟨u, hu⟩ : ∃ u, (if pg = pg then pgI (pageOf LJ pg) b 15 m else pageOf LJ pg).getD m 0 = u := ⟨_, rfl⟩
                  rw [hu] at b1
                  rw [hy] at x3
                  have HX : Hid (Cx w (wr.setCell ⟨gs pg, m, none⟩ (.int .u8 y)) q g1 g2 k1 k2 D.n D.n s1 s2 gs cs (fun x => if x = pg then pgI (pageOf LJ pg) b 15 (m + 1) else pageOf LJ x)) := by
                    refine (hX.poke (y := y) hpg (by rw [hfl]; exact hmt)).congr (fun i hi => ?_)
                    by_cases e : i = pg
                    · simp only [e, if_true]
                      rw [← hy, pgI_set _ _ _ _ hmt (by rw [hT]; exact hbit)]
                    · simp only [e, if_false]
                  obtain ⟨G, hG⟩ : ∃ G, gs pg = G := ⟨_, rfl⟩
                  have hGH : G ≠ H := by rw [← hG]; exact HNH.out
                  rw [hG] at x2 b1 b2 a3 a5 HX
                  have HH2 : Hid ((wr.setCell ⟨G, m, none⟩ (.int .u8 y)).cell? ⟨H, 0, none⟩ = some (.int .i64 pg) ∧ (wr.setCell ⟨G, m, none⟩ (.int .u8 y)).cell? ⟨H, 1, none⟩ = some (.slice (some ⟨gb, 0, none⟩) 256 cb)) :=
                    ⟨(World.cell?_setCell_other _ _ _ _ (by intro e; injection e with e1; exact hGH e1)).trans h0, (World.cell?_setCell_other _ _ _ _ (by intro e; injection e with e1; exact hGH e1)).trans h1⟩
                  have hgb : G ≠ gb := by have := lgb; rw [hG] at a6; omega
                  have i0 : (0 : Int) ≤ (m : Int) := by omega
                  have i1 : (m : Int) < 256 := by omega
                  have i2 : (0 : Int) ≤ (pg : Int) := by omega
                  have i3 : (pg : Int) < (D.n : Int) := by omega
                  clear hX hT a1 a2 a4 a6 hfl hy hu hG
                  go_wp2_with fail
                  go_region_held3 (fun w' => w'.cell? ⟨q, 1, none⟩ = some (.slice (some ⟨g2, 0, none⟩) D.n k2) ∧ w'.cell? ⟨g2, pg, none⟩ = some (.slice (some ⟨G, 0, none⟩) 256 (cs pg)) ∧ w'.cell? ⟨gb, m, none⟩ = some (.int .u8 y) ∧ w'.cell? ⟨H, 0, none⟩ = some (.int .i64 pg) ∧ w'.cell? ⟨H, 1, none⟩ = some (.slice (some ⟨gb, 0, none⟩) 256 cb)) (first | go_keep | (go_split_ands; refine ⟨?_, ?_, ?_, ?_, ?_⟩ <;> go_keep)) (fail)
                  go_wp2
                  go_roundw
                  case rel => exact ⟨m + 1, by omega, by go_num, HX.out.below ⟨rfl, rfl, rfl, Nat.le_refl _, fun _ _ => rfl⟩, HH2.out⟩
                  case measure => simp only [intOf, msr]; omega
              · have e : m = 256 := by omega
                subst e
                have HX : Hid (Cx w wr q g1 g2 k1 k2 D.n D.n s1 s2 gs cs (pageOf (fallK D.sure D.since ch (j + 1)))) := by
                  refine hX.congr (fun i hi => ?_)
                  rw [HFJ.out]
                  by_cases e : i = pg
                  · simp only [e, if_true]
                    rw [pgI_all 15 (by rw [HLJ.out]; omega)]
                  · simp only [e, if_false]
                    rw [onto_rest (by rw [HLJ.out]; omega) e]
                clear hX
                go_wp2
                go_roundw
                case rel => exact ⟨j + 1, by omega, by go_num, HX.out⟩
                case measure => simp [intOf]; omega
        · have e : j = D.since.length := by omega
          subst e
          obtain ⟨LJ, hLJe⟩ : ∃ LJ, fallK D.sure D.since ch D.since.length = LJ := ⟨_, rfl⟩
          have HLJ : Hid (LJ.length = D.n * 256) := by show LJ.length = _; rw [← hLJe, fallK_len]; exact HOK.out.sure
          have HEJ : Hid (crashD D ch = newD LJ) := by show crashD D ch = _; rw [← hLJe]; rfl
          have HBJ : Hid (Bys LJ) := by show Bys LJ; rw [← hLJe]; exact fallK_bys ch HOK.out.bsure (fun x hx => (HOK.out.since x hx).2.2) _
          rw [hLJe] at hX
          have HX : Hid (Cx w wr q g1 g2 k1 k2 D.n D.n s1 s2 gs cs (pageOf LJ)) := hX
          clear hX hLJe
          go_wp2
          go_loopw [12] (fun i wr => ∃ j : Nat, j ≤ D.n ∧ i = .int .i64 j ∧ ∃ s1, Cx w wr q g1 g2 k1 k2 D.n D.n s1 s2 gs cs (pageOf LJ) ∧ Ls w wr q g1 g2 s1 j (pageOf LJ)) (fun i _ => D.n - (intOf i).toNat)
          case atStart => exact ⟨0, Nat.zero_le _, rfl, _, HX.out, fun i hi => absurd hi (by omega)⟩
          case round =>
            clear HX cs2
            obtain ⟨j, hj, rfl, s1, hX, hL⟩ := hrel
            by_cases hlt : j < D.n
            · obtain ⟨z0, z1, gp, cp, z2, hrow, hprep⟩ := c3_prep hX hL hlt (fun x hx => HBJ.out x (List.mem_of_mem_drop (List.mem_of_mem_take hx))) (pageOf_len (by rw [HLJ.out]; omega))
              have hcp := copy_drew _ _ _ wr hrow (pageOf_len (by rw [HLJ.out]; omega))
              have HP : Hid _ := hprep
              have i0 : (0 : Int) ≤ (j : Int) := by omega
              have i1 : (j : Int) < (D.n : Int) := by omega
              clear hprep hrow hX hL
              go_wp2_with fail
              go_region_held3 (fun w' => w'.cell? ⟨q, 0, none⟩ = some (.slice (some ⟨g1, 0, none⟩) D.n k1) ∧ w'.cell? ⟨q, 1, none⟩ = some (.slice (some ⟨g2, 0, none⟩) D.n k2) ∧ w'.cell? ⟨g2, j, none⟩ = some (.slice (some ⟨gp, 0, none⟩) 256 cp)) (first | go_keep | exact ⟨by assumption, by assumption, by assumption⟩) (first | (go_at_call 48; refine hcp.mono ?_; rintro e w5 ⟨ga, ca, rfl, ho5, hb5⟩; obtain ⟨t0, t1, t2, ⟨u, tu⟩, tz, r0, r1, r2, s1', hX', hL'⟩ := HP.out w5 ga ca ho5 hb5; have HX' : Hid _ := hX'; have HL' : Hid (Ls w (w5.setCell ⟨g1, j, none⟩ (.slice (some ⟨ga, 0, none⟩) 256 ca)) q g1 g2 s1' (j + 1) (pageOf LJ)) := hL'; clear hX' hL' ho5 hb5))
              clear t0 t1 t2 tu tz r0 r1 r2 z0 z1 z2 hcp HP
              go_wp2
              go_roundw
              case rel => exact ⟨j + 1, by omega, by go_num, _, HX'.out, HL'.out⟩
              case measure => simp [intOf]; omega
            · have e : j = D.n := by omega
              subst e
              have z1 := hX.at.2
              obtain ⟨F', hR, hF'⟩ := hX.dev hL HLJ.out h8 h4 HBJ.out
              have HRR : Hid (RD wr q F' (newD LJ)) := hR
              have HB : Hid (Below w.heap.size w wr) := hX.bel
              clear hX hL hR
              go_wp2
              go_ret
              exact ⟨q, F', rfl, by rw [HEJ.out]; exact HRR.out, HB.out, hF'⟩
end Go.Proofs.Ytfbjjdjgijdlaaa.Oct
