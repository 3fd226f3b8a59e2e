/-
  The document's EncodeSuper.
-/
import Derived.Test.YtjllhcifmfhkmaaGreatUj
namespace Go.Proofs.YtjllhcifmfhkmaaGreat.Oct
open Go.RowKit

set_option maxHeartbeats 2000000 in
set_option maxRecDepth 20000 in
theorem rencode_v (S : Sp) (w : World) (E : Int) (hE : enE S = E) (Z : List Int) (hZ : enZ S = Z) (n : Nat) (hn : Z.length = n) :
    Calls Tryz.prog 37 #[spV S] w fun e w' => ∃ g c, e = .returned (.tuple #[.slice g n c, .int .i64 E]) ∧ Own w.heap.size w' (.slice g n c) Z ∧ Below w.heap.size w w' := by
  have hc := rcheck_any S
  rw [hE] at hc
  cases ho : okS S
  · have e1 : E = 1 := by rw [← hE]; unfold enE; rw [ho]; rfl
    have e2 : Z = [] := by rw [← hZ]; unfold enZ; rw [ho]; rfl
    subst e1
    subst e2
    have e3 : n = 0 := hn.symm
    subst e3
    have HC : Hid _ := hc
    clear hc hE hZ ho hn
    dsimp only [spV] at HC ⊢
    go_enter Tryz.func37, Tryz.ntmps37
    go_wp2_with fail
    refine (HC.out _).mono ?_
    rintro e w1 ⟨rfl, hb⟩
    have HB : Hid (Below w.heap.size w w1) := ((Below.refl _ w).alloc (Nat.le_refl _) _).trans (hb.mono (by simp))
    clear hb
    go_wp2
    go_ret2
    exact ⟨_, _, rfl, World.ownsRow_nil _ _ _ _, HB.out⟩
  · have e1 : E = 0 := by rw [← hE]; unfold enE; rw [ho]; rfl
    have e2 : Z = sealL (pgS S) := by rw [← hZ]; unfold enZ; rw [ho]; rfl
    have e3 : n = 256 := by rw [← hn, ← hZ, enZ_len, ho]; rfl
    subst e1
    subst e2
    subst e3
    have HC : Hid (∀ w1, Calls Tryz.prog 44 #[spV S] w1 fun e w' => e = .returned (.int .i64 0) ∧ Below w1.heap.size w1 w') := hc
    have HSE : Hid (∀ g c w1, Row w1 g c (preS S 8) → (g = none → c = 0) → Calls Tryz.prog 62 #[.agg #[.int .i64 1, .int .i64 0, .int .i64 0, .slice g 34 c]] w1 fun e w' => ∃ g' c', e = .returned (.tuple #[.slice g' 256 c', .int .i64 0]) ∧ Own w1.heap.size w' (.slice g' 256 c') (sealL (pgS S)) ∧ Below w1.heap.size w1 w') := fun g c w1 hr hnil => by
      have q1 := pgS_ok S
      have hz : sealZ (pgS S) = sealL (pgS S) := by unfold sealZ; rw [if_pos q1]
      have := rseal_v (pgS S) g c w1 hr hnil 0 q1 _ hz 256 (by rw [← hZ, enZ_len, ho]; rfl)
      dsimp only [pgV, pgS] at this
      rw [preS_len S 8 (by omega)] at this
      exact this
    have HOK : Hid (okS S = true) := ho
    clear hc hE hZ ho hn
    dsimp only [spV] at HC ⊢
    go_enter Tryz.func37, Tryz.ntmps37
    go_wp2_with fail
    refine (HC.out _).mono ?_
    rintro e w1 ⟨rfl, hb⟩
    have HB1 : Hid (Below w.heap.size w w1) := ((Below.refl _ w).alloc (Nat.le_refl _) _).trans (hb.mono (by simp))
    have Q1 : Hid (Sl8 w1 w.heap.size S) := (sl8_new w S 28).below hb
    clear hb HC
    have FK : Hid (∀ k, k < 8 → fitB (wdS k : Nat) (atS S k) = true) := fun k hk => fit_all HOK.out hk
    have BY : Hid (∀ k, Bys (preS S k)) := preS_bys S
    have LN : Hid (∀ k, k ≤ 8 → (preS S k).length = ofS k) := preS_len S
    have HZ1 : Hid (w.heap.size < w1.heap.size) := Q1.out.lt
    go_wp2_with fail
    have tok1 : True := trivial
    go_region_held3 (fun w' => w'.cell? ⟨w.heap.size, 0, none⟩ = some (.int .i64 S.g) ∧ w'.cell? ⟨w.heap.size, 1, none⟩ = some (.int .i64 S.p)) (first | exact ⟨Q1.out.1, Q1.out.2.1⟩ | exact ⟨q4.out.1, q4.out.2.1⟩ | exact ⟨q3.out.1, q3.out.2.1⟩ | exact ⟨q2.out.1, q2.out.2.1⟩ | go_keep) (first
      | (go_at_call 66; have _t := tok1; refine (rput8 S.g w1.drew (FK.out 0 (by omega))).mono ?_; rintro e w2 ⟨g2, c2, rfl, ho2, hb2⟩; have HB2 : Hid (Below w1.heap.size w1 w2) := (Below.refl w1.heap.size w1).drew.trans (hb2.mono (Nat.le_refl _)); have q2 : Hid (Sl8 w2 w.heap.size S) := Q1.out.below HB2.out; have HO2 : Hid (Own w1.heap.size w2 (.slice (some ⟨g2, 0, none⟩) 8 c2) (nums 8 S.g.toNat)) := ho2; clear hb2 ho2 tok1 _t)
      | (go_at_call 66; refine (rput4 S.p w2 (FK.out 1 (by omega))).mono ?_; rintro e w3 ⟨g3, c3, rfl, ho3, hb3⟩; have q3 : Hid (Sl8 w3 w.heap.size S) := q2.out.below hb3; have HB3 : Hid (Below w1.heap.size w1 w3) := HB2.out.trans (hb3.mono HB2.out.size); have HO3 : Hid (Own w2.heap.size w3 (.slice (some ⟨g3, 0, none⟩) 4 c3) (nums 4 S.p.toNat)) := ho3; have HP3 : Hid (Own w1.heap.size w3 (.slice (some ⟨g2, 0, none⟩) 8 c2) (nums 8 S.g.toNat)) := HO2.out.below' hb3; clear hb3 ho3)
      | (have _t := HP3; clear _t; refine step_append_bytes (by rfl) (.tmp 13) (.tmp 16) (by rfl) w1.heap.size _ (nums 8 S.g.toNat) (by rfl) HP3.out ⟨g3, 0, none⟩ (nums 4 S.p.toNat) 4 c3 (by rfl) (by rw [nums_len]) (by omega) (HO3.out.row' (nums_bys _ _)).2 (by rw [nums_len, nums_len]; omega) HB3.out.size 12 (by rw [nums_len, nums_len]) ?_; intro g4 c4 w4 ho4 hb4; have q4 : Hid (Sl8 w4 w.heap.size S) := Q1.out.below (HB3.out.trans hb4); have HB4 : Hid (Below w1.heap.size w1 w4) := HB3.out.trans hb4; have HO4 : Hid (Own w1.heap.size w4 (.slice (some ⟨g4, 0, none⟩) 12 c4) (preS S 2)) := ho4; clear hb4 ho4))
    clear q2 q3 HO2 HP3 HO3 HB2 HB3
    have HA4 : Hid (∃ a, (some (⟨g4, 0, none⟩ : Addr)) = a) := ⟨_, rfl⟩
    have d2 : w4.cell? ⟨w.heap.size, 2, none⟩ = some (.int .i64 S.r) := q4.out.2.2.1
    go_wp2_with fail
    refine (rput4 S.r w4 (FK.out 2 (by omega))).mono ?_
    rintro e w5 ⟨g5, c5, rfl, ho, hb⟩
    have HB5 : Hid (Below w1.heap.size w1 w5) := HB4.out.trans (hb.mono HB4.out.size)
    have HO5 : Hid (Own w4.heap.size w5 (.slice (some ⟨g5, 0, none⟩) 4 c5) (nums 4 S.r.toNat)) := ho
    have HP5 : Hid (Own w1.heap.size w5 (.slice (some ⟨g4, 0, none⟩) 12 c4) (preS S 2)) := HO4.out.below' hb
    clear hb ho d2
    go_wp2_with (at_builtin; have _t := HP5; refine append_row rfl _ _ rfl w1.heap.size _ (preS S 2) rfl HP5.out (some ⟨g5, 0, none⟩) (nums 4 S.r.toNat) c5 (by rw [nums_len]; rfl) (HO5.out.row' (nums_bys _ _)).2 (by intro e; cases e) (by rw [LN.out 2 (by omega), nums_len]; decide) HB5.out.size ?_; intro v w6 ho hb; obtain ⟨a6, c6, hv, _⟩ := Own.row (zs := preS S 3) ho (BY.out 3); rw [LN.out 3 (by omega), show ofS 3 = 16 from rfl] at hv; subst hv; have HB6 : Hid (Below w1.heap.size w1 w6) := HB5.out.trans hb; have HO6 : Hid (Own w1.heap.size w6 (.slice a6 16 c6) (preS S 3)) := ho; have q6 : Hid (Sl8 w6 w.heap.size S) := Q1.out.below HB6.out; have d3 : w6.cell? ⟨w.heap.size, 3, none⟩ = some (.int .i64 S.h) := q6.out.2.2.2.1; clear _t ho hb HP5 HO5 HB5)
    clear q4 HB4 HO4
    refine (rput2 S.h w6 (FK.out 3 (by omega))).mono ?_
    rintro e w7 ⟨g7, c7, rfl, ho, hb⟩
    have HB7 : Hid (Below w1.heap.size w1 w7) := HB6.out.trans (hb.mono HB6.out.size)
    have HO7 : Hid (Own w6.heap.size w7 (.slice (some ⟨g7, 0, none⟩) 2 c7) (nums 2 S.h.toNat)) := ho
    have HP7 : Hid (Own w1.heap.size w7 (.slice a6 16 c6) (preS S 3)) := HO6.out.below' hb
    clear hb ho d3
    go_wp2_with (at_builtin; have _t := HP7; refine append_row rfl _ _ rfl w1.heap.size _ (preS S 3) rfl HP7.out (some ⟨g7, 0, none⟩) (nums 2 S.h.toNat) c7 (by rw [nums_len]; rfl) (HO7.out.row' (nums_bys _ _)).2 (by intro e; cases e) (by rw [LN.out 3 (by omega), nums_len]; decide) HB7.out.size ?_; intro v w8 ho hb; obtain ⟨a8, c8, hv, _⟩ := Own.row (zs := preS S 4) ho (BY.out 4); rw [LN.out 4 (by omega), show ofS 4 = 18 from rfl] at hv; subst hv; have HB8 : Hid (Below w1.heap.size w1 w8) := HB7.out.trans hb; have HO8 : Hid (Own w1.heap.size w8 (.slice a8 18 c8) (preS S 4)) := ho; have q8 : Hid (Sl8 w8 w.heap.size S) := Q1.out.below HB8.out; have d4 : w8.cell? ⟨w.heap.size, 4, none⟩ = some (.int .i64 S.b) := q8.out.2.2.2.2.1; clear _t ho hb HP7 HO7 HB7)
    clear q6 HB6 HO6
    refine (rput4 S.b w8 (FK.out 4 (by omega))).mono ?_
    rintro e w9 ⟨g9, c9, rfl, ho, hb⟩
    have HB9 : Hid (Below w1.heap.size w1 w9) := HB8.out.trans (hb.mono HB8.out.size)
    have HO9 : Hid (Own w8.heap.size w9 (.slice (some ⟨g9, 0, none⟩) 4 c9) (nums 4 S.b.toNat)) := ho
    have HP9 : Hid (Own w1.heap.size w9 (.slice a8 18 c8) (preS S 4)) := HO8.out.below' hb
    clear hb ho d4
    go_wp2_with (at_builtin; have _t := HP9; refine append_row rfl _ _ rfl w1.heap.size _ (preS S 4) rfl HP9.out (some ⟨g9, 0, none⟩) (nums 4 S.b.toNat) c9 (by rw [nums_len]; rfl) (HO9.out.row' (nums_bys _ _)).2 (by intro e; cases e) (by rw [LN.out 4 (by omega), nums_len]; decide) HB9.out.size ?_; intro v w10 ho hb; obtain ⟨a10, c10, hv, _⟩ := Own.row (zs := preS S 5) ho (BY.out 5); rw [LN.out 5 (by omega), show ofS 5 = 22 from rfl] at hv; subst hv; have HB10 : Hid (Below w1.heap.size w1 w10) := HB9.out.trans hb; have HO10 : Hid (Own w1.heap.size w10 (.slice a10 22 c10) (preS S 5)) := ho; have q10 : Hid (Sl8 w10 w.heap.size S) := Q1.out.below HB10.out; have d5 : w10.cell? ⟨w.heap.size, 5, none⟩ = some (.int .i64 S.l) := q10.out.2.2.2.2.2.1; clear _t ho hb HP9 HO9 HB9)
    clear q8 HB8 HO8
    refine (rput4 S.l w10 (FK.out 5 (by omega))).mono ?_
    rintro e w11 ⟨g11, c11, rfl, ho, hb⟩
    have HB11 : Hid (Below w1.heap.size w1 w11) := HB10.out.trans (hb.mono HB10.out.size)
    have HO11 : Hid (Own w10.heap.size w11 (.slice (some ⟨g11, 0, none⟩) 4 c11) (nums 4 S.l.toNat)) := ho
    have HP11 : Hid (Own w1.heap.size w11 (.slice a10 22 c10) (preS S 5)) := HO10.out.below' hb
    clear hb ho d5
    go_wp2_with (at_builtin; have _t := HP11; refine append_row rfl _ _ rfl w1.heap.size _ (preS S 5) rfl HP11.out (some ⟨g11, 0, none⟩) (nums 4 S.l.toNat) c11 (by rw [nums_len]; rfl) (HO11.out.row' (nums_bys _ _)).2 (by intro e; cases e) (by rw [LN.out 5 (by omega), nums_len]; decide) HB11.out.size ?_; intro v w12 ho hb; obtain ⟨a12, c12, hv, _⟩ := Own.row (zs := preS S 6) ho (BY.out 6); rw [LN.out 6 (by omega), show ofS 6 = 26 from rfl] at hv; subst hv; have HB12 : Hid (Below w1.heap.size w1 w12) := HB11.out.trans hb; have HO12 : Hid (Own w1.heap.size w12 (.slice a12 26 c12) (preS S 6)) := ho; have q12 : Hid (Sl8 w12 w.heap.size S) := Q1.out.below HB12.out; have d6 : w12.cell? ⟨w.heap.size, 6, none⟩ = some (.int .i64 S.s) := q12.out.2.2.2.2.2.2.1; clear _t ho hb HP11 HO11 HB11)
    clear q10 HB10 HO10
    refine (rput4 S.s w12 (FK.out 6 (by omega))).mono ?_
    rintro e w13 ⟨g13, c13, rfl, ho, hb⟩
    have HB13 : Hid (Below w1.heap.size w1 w13) := HB12.out.trans (hb.mono HB12.out.size)
    have HO13 : Hid (Own w12.heap.size w13 (.slice (some ⟨g13, 0, none⟩) 4 c13) (nums 4 S.s.toNat)) := ho
    have HP13 : Hid (Own w1.heap.size w13 (.slice a12 26 c12) (preS S 6)) := HO12.out.below' hb
    clear hb ho d6
    go_wp2_with (at_builtin; have _t := HP13; refine append_row rfl _ _ rfl w1.heap.size _ (preS S 6) rfl HP13.out (some ⟨g13, 0, none⟩) (nums 4 S.s.toNat) c13 (by rw [nums_len]; rfl) (HO13.out.row' (nums_bys _ _)).2 (by intro e; cases e) (by rw [LN.out 6 (by omega), nums_len]; decide) HB13.out.size ?_; intro v w14 ho hb; obtain ⟨a14, c14, hv, _⟩ := Own.row (zs := preS S 7) ho (BY.out 7); rw [LN.out 7 (by omega), show ofS 7 = 30 from rfl] at hv; subst hv; have HB14 : Hid (Below w1.heap.size w1 w14) := HB13.out.trans hb; have HO14 : Hid (Own w1.heap.size w14 (.slice a14 30 c14) (preS S 7)) := ho; have q14 : Hid (Sl8 w14 w.heap.size S) := Q1.out.below HB14.out; have d7 : w14.cell? ⟨w.heap.size, 7, none⟩ = some (.int .i64 S.f) := q14.out.2.2.2.2.2.2.2; clear _t ho hb HP13 HO13 HB13)
    clear q12 HB12 HO12
    refine (rput4 S.f w14 (FK.out 7 (by omega))).mono ?_
    rintro e w15 ⟨g15, c15, rfl, ho, hb⟩
    have HB15 : Hid (Below w1.heap.size w1 w15) := HB14.out.trans (hb.mono HB14.out.size)
    have HO15 : Hid (Own w14.heap.size w15 (.slice (some ⟨g15, 0, none⟩) 4 c15) (nums 4 S.f.toNat)) := ho
    have HP15 : Hid (Own w1.heap.size w15 (.slice a14 30 c14) (preS S 7)) := HO14.out.below' hb
    clear hb ho d7
    go_wp2_with (at_builtin; have _t := HP15; refine append_row rfl _ _ rfl w1.heap.size _ (preS S 7) rfl HP15.out (some ⟨g15, 0, none⟩) (nums 4 S.f.toNat) c15 (by rw [nums_len]; rfl) (HO15.out.row' (nums_bys _ _)).2 (by intro e; cases e) (by rw [LN.out 7 (by omega), nums_len]; decide) HB15.out.size ?_; intro v w16 ho hb; obtain ⟨a16, c16, hv, _⟩ := Own.row (zs := preS S 8) ho (BY.out 8); rw [LN.out 8 (by omega), show ofS 8 = 34 from rfl] at hv; subst hv; have HB16 : Hid (Below w1.heap.size w1 w16) := HB15.out.trans hb; have HO16 : Hid (Own w1.heap.size w16 (.slice a16 34 c16) (preS S 8)) := ho; have q16 : Hid (Sl8 w16 w.heap.size S) := Q1.out.below HB16.out; clear _t ho hb HP15 HO15 HB15)
    clear q14 HB14 HO14
    have HR : Hid (Row w16 a16 c16 (preS S 8)) := (HO16.out.row' (BY.out 8)).2
    have hnil : a16 = none → c16 = 0 := fun e => by
      obtain ⟨b, off, h⟩ := HR.out.some' (by rw [LN.out 8 (by omega)]; decide)
      rw [h] at e
      cases e
    have HW : Hid (Below w.heap.size w w16) := HB1.out.trans (HB16.out.mono HB1.out.size)
    clear HO16 HB16 q16
    have HNIL : Hid (a16 = none → c16 = 0) := hnil
    clear hnil
    refine (HSE.out _ _ _ HR.out HNIL.out).mono ?_
    rintro e wz ⟨g', c', rfl, ho, hb⟩
    have HBZ : Hid (Below w.heap.size w wz) := HW.out.trans (hb.mono HW.out.size)
    have HO : Hid (Own w.heap.size wz (.slice g' 256 c') (sealL (pgS S))) := ho.weaken HW.out.size
    clear hb ho
    go_wp2
    go_ret2
    exact ⟨_, _, rfl, HO.out, HBZ.out⟩
end Go.Proofs.YtjllhcifmfhkmaaGreat.Oct

/-
  super.Decode.
-/
namespace Go.Proofs.YtjllhcifmfhkmaaGreat.Oct
open Go.RowKit

theorem de_no {zs : List Int} (h : opE zs ≠ 0) : deE zs = opE zs ∧ deS zs = sp0 := by
  have e : deE zs = opE zs := by unfold deE; rw [if_neg h]
  refine ⟨e, ?_⟩
  unfold deS
  rw [if_neg (by rw [e]; exact h)]

theorem de_bad {zs : List Int} (h : opE zs = 0) (hB : deB (opP zs) = false) : deE zs = 4 ∧ deS zs = sp0 := by
  have e : deE zs = 4 := by unfold deE; rw [if_pos h, hB]; rfl
  refine ⟨e, ?_⟩
  unfold deS
  rw [if_neg (by rw [e]; decide)]

theorem de_good {zs : List Int} (h : opE zs = 0) (hB : deB (opP zs) = true) : deE zs = 0 ∧ deS zs = sdL (opP zs).body := by
  have e : deE zs = 0 := by unfold deE; rw [if_pos h, hB]; rfl
  refine ⟨e, ?_⟩
  unfold deS
  rw [if_pos e]

/-- A superblock may be just if all its numbers can be read. -/
theorem ok_read {zs : List Int} (h : okS (sdL zs) = true) : getB zs 0 8 = true := by
  have hg := (okS_bd h).1
  cases hb : getB zs 0 8
  · exfalso
    have e : getI zs 0 8 = 0 := by
      unfold getB at hb
      unfold getI
      split at hb
      · rename_i hi
        rw [if_pos hi]
        unfold capB at hb
        have := of_decide_eq_false hb
        exact (cap_no (by omega)).1
      · rename_i hi
        rw [if_neg hi]
    have : (sdL zs).g = 0 := e
    omega
  · rfl

theorem deB_split (P : Pg) : deB P = (decide (P.kind = 1) && decide (P.level = 0) && decide (P.count = 0) && rdB P.body && okS (sdL P.body)) := by
  unfold deB rdB
  by_cases h1 : P.kind = 1 <;> by_cases h2 : P.level = 0 <;> by_cases h3 : P.count = 0 <;> simp [h1, h2, h3]
  cases h4 : okS (sdL P.body)
  · simp
  · rw [ok_read h4]; simp

/-- Eight cells written. -/
def wr8 (w : World) (B : Nat) (T : Sp) : World := (((((((w.setCell ⟨B, 0, none⟩ (.int .i64 T.g)).setCell ⟨B, 1, none⟩ (.int .i64 T.p)).setCell ⟨B, 2, none⟩ (.int .i64 T.r)).setCell ⟨B, 3, none⟩ (.int .i64 T.h)).setCell ⟨B, 4, none⟩ (.int .i64 T.b)).setCell ⟨B, 5, none⟩ (.int .i64 T.l)).setCell ⟨B, 6, none⟩ (.int .i64 T.s)).setCell ⟨B, 7, none⟩ (.int .i64 T.f)

theorem wr8_sl {w : World} {B : Nat} {S : Sp} (h : Sl8 w B S) (T : Sp) : Sl8 (wr8 w B T) B T := by
  obtain ⟨h0, h1, h2, h3, h4, h5, h6, h7⟩ := h
  have ne : ∀ {i j : Nat}, i ≠ j → (⟨B, j, none⟩ : Addr) ≠ ⟨B, i, none⟩ := fun h e => h (by simp only [Addr.mk.injEq] at e; omega)
  unfold wr8
  have k0 : w.cell? ⟨B, 0, none⟩ = some (.int .i64 S.g) := by rw [h0]
  have k1 : (w.setCell ⟨B, 0, none⟩ (.int .i64 T.g)).cell? ⟨B, 1, none⟩ = some (.int .i64 S.p) := by rw [World.cell?_setCell_other _ _ _ _ (ne (by decide)), h1]
  have k2 : ((w.setCell ⟨B, 0, none⟩ (.int .i64 T.g)).setCell ⟨B, 1, none⟩ (.int .i64 T.p)).cell? ⟨B, 2, none⟩ = some (.int .i64 S.r) := by rw [World.cell?_setCell_other _ _ _ _ (ne (by decide)), World.cell?_setCell_other _ _ _ _ (ne (by decide)), h2]
  have k3 : (((w.setCell ⟨B, 0, none⟩ (.int .i64 T.g)).setCell ⟨B, 1, none⟩ (.int .i64 T.p)).setCell ⟨B, 2, none⟩ (.int .i64 T.r)).cell? ⟨B, 3, none⟩ = some (.int .i64 S.h) := by rw [World.cell?_setCell_other _ _ _ _ (ne (by decide)), World.cell?_setCell_other _ _ _ _ (ne (by decide)), World.cell?_setCell_other _ _ _ _ (ne (by decide)), h3]
  have k4 : ((((w.setCell ⟨B, 0, none⟩ (.int .i64 T.g)).setCell ⟨B, 1, none⟩ (.int .i64 T.p)).setCell ⟨B, 2, none⟩ (.int .i64 T.r)).setCell ⟨B, 3, none⟩ (.int .i64 T.h)).cell? ⟨B, 4, none⟩ = some (.int .i64 S.b) := by rw [World.cell?_setCell_other _ _ _ _ (ne (by decide)), World.cell?_setCell_other _ _ _ _ (ne (by decide)), World.cell?_setCell_other _ _ _ _ (ne (by decide)), World.cell?_setCell_other _ _ _ _ (ne (by decide)), h4]
  have k5 : (((((w.setCell ⟨B, 0, none⟩ (.int .i64 T.g)).setCell ⟨B, 1, none⟩ (.int .i64 T.p)).setCell ⟨B, 2, none⟩ (.int .i64 T.r)).setCell ⟨B, 3, none⟩ (.int .i64 T.h)).setCell ⟨B, 4, none⟩ (.int .i64 T.b)).cell? ⟨B, 5, none⟩ = some (.int .i64 S.l) := by rw [World.cell?_setCell_other _ _ _ _ (ne (by decide)), World.cell?_setCell_other _ _ _ _ (ne (by decide)), World.cell?_setCell_other _ _ _ _ (ne (by decide)), World.cell?_setCell_other _ _ _ _ (ne (by decide)), World.cell?_setCell_other _ _ _ _ (ne (by decide)), h5]
  have k6 : ((((((w.setCell ⟨B, 0, none⟩ (.int .i64 T.g)).setCell ⟨B, 1, none⟩ (.int .i64 T.p)).setCell ⟨B, 2, none⟩ (.int .i64 T.r)).setCell ⟨B, 3, none⟩ (.int .i64 T.h)).setCell ⟨B, 4, none⟩ (.int .i64 T.b)).setCell ⟨B, 5, none⟩ (.int .i64 T.l)).cell? ⟨B, 6, none⟩ = some (.int .i64 S.s) := by rw [World.cell?_setCell_other _ _ _ _ (ne (by decide)), World.cell?_setCell_other _ _ _ _ (ne (by decide)), World.cell?_setCell_other _ _ _ _ (ne (by decide)), World.cell?_setCell_other _ _ _ _ (ne (by decide)), World.cell?_setCell_other _ _ _ _ (ne (by decide)), World.cell?_setCell_other _ _ _ _ (ne (by decide)), h6]
  have k7 : (((((((w.setCell ⟨B, 0, none⟩ (.int .i64 T.g)).setCell ⟨B, 1, none⟩ (.int .i64 T.p)).setCell ⟨B, 2, none⟩ (.int .i64 T.r)).setCell ⟨B, 3, none⟩ (.int .i64 T.h)).setCell ⟨B, 4, none⟩ (.int .i64 T.b)).setCell ⟨B, 5, none⟩ (.int .i64 T.l)).setCell ⟨B, 6, none⟩ (.int .i64 T.s)).cell? ⟨B, 7, none⟩ = some (.int .i64 S.f) := by rw [World.cell?_setCell_other _ _ _ _ (ne (by decide)), World.cell?_setCell_other _ _ _ _ (ne (by decide)), World.cell?_setCell_other _ _ _ _ (ne (by decide)), World.cell?_setCell_other _ _ _ _ (ne (by decide)), World.cell?_setCell_other _ _ _ _ (ne (by decide)), World.cell?_setCell_other _ _ _ _ (ne (by decide)), World.cell?_setCell_other _ _ _ _ (ne (by decide)), h7]
  refine ⟨?_, ?_, ?_, ?_, ?_, ?_, ?_, ?_⟩
  · rw [World.cell?_setCell_other _ _ _ _ (ne (by decide)), World.cell?_setCell_other _ _ _ _ (ne (by decide)), World.cell?_setCell_other _ _ _ _ (ne (by decide)), World.cell?_setCell_other _ _ _ _ (ne (by decide)), World.cell?_setCell_other _ _ _ _ (ne (by decide)), World.cell?_setCell_other _ _ _ _ (ne (by decide)), World.cell?_setCell_other _ _ _ _ (ne (by decide)), World.cell?_setCell_same _ _ _ k0]
  · rw [World.cell?_setCell_other _ _ _ _ (ne (by decide)), World.cell?_setCell_other _ _ _ _ (ne (by decide)), World.cell?_setCell_other _ _ _ _ (ne (by decide)), World.cell?_setCell_other _ _ _ _ (ne (by decide)), World.cell?_setCell_other _ _ _ _ (ne (by decide)), World.cell?_setCell_other _ _ _ _ (ne (by decide)), World.cell?_setCell_same _ _ _ k1]
  · rw [World.cell?_setCell_other _ _ _ _ (ne (by decide)), World.cell?_setCell_other _ _ _ _ (ne (by decide)), World.cell?_setCell_other _ _ _ _ (ne (by decide)), World.cell?_setCell_other _ _ _ _ (ne (by decide)), World.cell?_setCell_other _ _ _ _ (ne (by decide)), World.cell?_setCell_same _ _ _ k2]
  · rw [World.cell?_setCell_other _ _ _ _ (ne (by decide)), World.cell?_setCell_other _ _ _ _ (ne (by decide)), World.cell?_setCell_other _ _ _ _ (ne (by decide)), World.cell?_setCell_other _ _ _ _ (ne (by decide)), World.cell?_setCell_same _ _ _ k3]
  · rw [World.cell?_setCell_other _ _ _ _ (ne (by decide)), World.cell?_setCell_other _ _ _ _ (ne (by decide)), World.cell?_setCell_other _ _ _ _ (ne (by decide)), World.cell?_setCell_same _ _ _ k4]
  · rw [World.cell?_setCell_other _ _ _ _ (ne (by decide)), World.cell?_setCell_other _ _ _ _ (ne (by decide)), World.cell?_setCell_same _ _ _ k5]
  · rw [World.cell?_setCell_other _ _ _ _ (ne (by decide)), World.cell?_setCell_same _ _ _ k6]
  · rw [World.cell?_setCell_same _ _ _ k7]

theorem Sw8.below {w w1 : World} {B : Nat} {S : Sp} (h : Sw8 w B S) (k : Below w.heap.size w w1) : Sw8 w1 B S := h.same (k.block B h.1.lt)
theorem Sw8.alloc {w : World} {B : Nat} {S : Sp} (h : Sw8 w B S) (o : Obj) : Sw8 (w.alloc o) B S := h.below ((Below.refl _ _).alloc (Nat.le_refl _) o)

theorem wr8_below {w0 w : World} {B C : Nat} (h : Below C w0 w) (hC : C ≤ B) (T : Sp) : Below C w0 (wr8 w B T) :=
  (((((((h.setCell (p := ⟨B, 0, none⟩) hC _).setCell (p := ⟨B, 1, none⟩) hC _).setCell (p := ⟨B, 2, none⟩) hC _).setCell (p := ⟨B, 3, none⟩) hC _).setCell (p := ⟨B, 4, none⟩) hC _).setCell (p := ⟨B, 5, none⟩) hC _).setCell (p := ⟨B, 6, none⟩) hC _).setCell (p := ⟨B, 7, none⟩) hC _

set_option maxHeartbeats 2000000 in
theorem dec_err (a : Option Addr) (cap n : Nat) (w : World) (P : Pg) (E : Int)
    (C : ∀ o : Obj, Calls Tryz.prog 77 #[.slice a n cap] (w.alloc o) fun e w' => ∃ g c, e = .returned (.tuple #[pgV P g c, .int .i64 E]) ∧ Own (w.alloc o).heap.size w' (.slice g P.body.length c) P.body ∧ Below (w.alloc o).heap.size (w.alloc o) w') (hE : (E != 0) = true) :
    Calls Tryz.prog 52 #[.slice a n cap] w fun e w' => e = .returned (.tuple #[spV sp0, .int .i64 E]) ∧ Below w.heap.size w w' := by
  dsimp only [spV, sp0]
  dsimp only [pgV] at C
  go_enter Tryz.func52, Tryz.ntmps52
  go_wp2_with fail
  refine (C _).mono ?_
  clear C
  rintro e w1 ⟨g, c, rfl, ho, hb⟩
  have q : Sw8 w1 w.heap.size sp0 := (sw8_new w sp0 28).same (hb.block _ (by simp))
  have HB : Hid (Below w.heap.size w w1) := ((Below.refl _ w).alloc (Nat.le_refl _) _).trans (hb.mono (by simp))
  have HQ : Hid (Sl8 (w1.alloc (.cells #[.int .i64 P.kind, .int .i64 P.level, .int .i64 P.count, .slice g P.body.length c] 127)) w.heap.size sp0) := (q.alloc _).1
  have q' := q.alloc (.cells #[.int .i64 P.kind, .int .i64 P.level, .int .i64 P.count, .slice g P.body.length c] 127)
  clear hb ho q
  obtain ⟨⟨q0, q1, q2, q3, q4, q5, q6, q7⟩, qf⟩ := q'
  have f0 := qf 0 (by omega)
  have f1 := qf 1 (by omega)
  have f2 := qf 2 (by omega)
  have f3 := qf 3 (by omega)
  have f4 := qf 4 (by omega)
  have f5 := qf 5 (by omega)
  have f6 := qf 6 (by omega)
  have f7 := qf 7 (by omega)
  clear qf
  dsimp only [sp0] at q0 q1 q2 q3 q4 q5 q6 q7
  go_wp2
  clear q0 q1 q2 q3 q4 q5 q6 q7 f0 f1 f2 f3 f4 f5 f6 f7
  obtain ⟨q0, q1, q2, q3, q4, q5, q6, q7⟩ := wr8_sl HQ.out sp0
  unfold wr8 at q0 q1 q2 q3 q4 q5 q6 q7
  try dsimp only [sp0] at q0 q1 q2 q3 q4 q5 q6 q7
  refine bodyPost_ret (v := .tuple #[spV sp0, .int .i64 E]) ?_ rfl ⟨rfl, wr8_below (HB.out.alloc HB.out.size _) (Nat.le_refl _) sp0⟩
  simp [results, Tryz.results52, go_sem, spV, sp0, q0, q1, q2, q3, q4, q5, q6, q7]

set_option maxHeartbeats 2000000 in
theorem dec_kind (a : Option Addr) (cap n : Nat) (w : World) (P : Pg) (E : Int)
    (C : ∀ o : Obj, Calls Tryz.prog 77 #[.slice a n cap] (w.alloc o) fun e w' => ∃ g c, e = .returned (.tuple #[pgV P g c, .int .i64 E]) ∧ Own (w.alloc o).heap.size w' (.slice g P.body.length c) P.body ∧ Below (w.alloc o).heap.size (w.alloc o) w') (hE : E = 0) (hk : (P.kind != 1) = true) :
    Calls Tryz.prog 52 #[.slice a n cap] w fun e w' => e = .returned (.tuple #[spV sp0, .int .i64 4]) ∧ Below w.heap.size w w' := by
  subst hE
  dsimp only [spV, sp0]
  dsimp only [pgV] at C
  go_enter Tryz.func52, Tryz.ntmps52
  go_wp2_with fail
  refine (C _).mono ?_
  clear C
  rintro e w1 ⟨g, c, rfl, ho, hb⟩
  have q : Sw8 w1 w.heap.size sp0 := (sw8_new w sp0 28).same (hb.block _ (by simp))
  have HB : Hid (Below w.heap.size w w1) := ((Below.refl _ w).alloc (Nat.le_refl _) _).trans (hb.mono (by simp))
  have HQ : Hid (Sl8 ((w1.alloc (.cells #[.int .i64 P.kind, .int .i64 P.level, .int .i64 P.count, .slice g P.body.length c] 127)).alloc (.cells #[.int .i64 0, .int .i64 0, .int .i64 0, .int .i64 0, .int .i64 0, .int .i64 0, .int .i64 0, .int .i64 0] 110)) w.heap.size sp0) := ((q.alloc _).alloc _).1
  have q' := (q.alloc (.cells #[.int .i64 P.kind, .int .i64 P.level, .int .i64 P.count, .slice g P.body.length c] 127)).alloc (.cells #[.int .i64 0, .int .i64 0, .int .i64 0, .int .i64 0, .int .i64 0, .int .i64 0, .int .i64 0, .int .i64 0] 110)
  clear hb ho q
  obtain ⟨⟨q0, q1, q2, q3, q4, q5, q6, q7⟩, qf⟩ := q'
  have f0 := qf 0 (by omega)
  have f1 := qf 1 (by omega)
  have f2 := qf 2 (by omega)
  have f3 := qf 3 (by omega)
  have f4 := qf 4 (by omega)
  have f5 := qf 5 (by omega)
  have f6 := qf 6 (by omega)
  have f7 := qf 7 (by omega)
  clear qf
  dsimp only [sp0] at q0 q1 q2 q3 q4 q5 q6 q7
  go_wp2
  clear q0 q1 q2 q3 q4 q5 q6 q7 f0 f1 f2 f3 f4 f5 f6 f7
  obtain ⟨q0, q1, q2, q3, q4, q5, q6, q7⟩ := wr8_sl HQ.out sp0
  unfold wr8 at q0 q1 q2 q3 q4 q5 q6 q7
  try dsimp only [sp0] at q0 q1 q2 q3 q4 q5 q6 q7
  refine bodyPost_ret (v := .tuple #[spV sp0, .int .i64 4]) ?_ rfl ⟨rfl, wr8_below ((HB.out.alloc HB.out.size _).alloc (Nat.le_trans HB.out.size (by simp)) _) (Nat.le_refl _) sp0⟩
  simp [results, Tryz.results52, go_sem, spV, sp0, q0, q1, q2, q3, q4, q5, q6, q7]

set_option maxHeartbeats 2000000 in
theorem dec_level (a : Option Addr) (cap n : Nat) (w : World) (P : Pg) (E : Int)
    (C : ∀ o : Obj, Calls Tryz.prog 77 #[.slice a n cap] (w.alloc o) fun e w' => ∃ g c, e = .returned (.tuple #[pgV P g c, .int .i64 E]) ∧ Own (w.alloc o).heap.size w' (.slice g P.body.length c) P.body ∧ Below (w.alloc o).heap.size (w.alloc o) w') (hE : E = 0) (hk : (P.kind != 1) = false) (hl : (P.level != 0) = true) :
    Calls Tryz.prog 52 #[.slice a n cap] w fun e w' => e = .returned (.tuple #[spV sp0, .int .i64 4]) ∧ Below w.heap.size w w' := by
  subst hE
  dsimp only [spV, sp0]
  dsimp only [pgV] at C
  go_enter Tryz.func52, Tryz.ntmps52
  go_wp2_with fail
  refine (C _).mono ?_
  clear C
  rintro e w1 ⟨g, c, rfl, ho, hb⟩
  have q : Sw8 w1 w.heap.size sp0 := (sw8_new w sp0 28).same (hb.block _ (by simp))
  have HB : Hid (Below w.heap.size w w1) := ((Below.refl _ w).alloc (Nat.le_refl _) _).trans (hb.mono (by simp))
  have HQ : Hid (Sl8 ((w1.alloc (.cells #[.int .i64 P.kind, .int .i64 P.level, .int .i64 P.count, .slice g P.body.length c] 127)).alloc (.cells #[.int .i64 0, .int .i64 0, .int .i64 0, .int .i64 0, .int .i64 0, .int .i64 0, .int .i64 0, .int .i64 0] 110)) w.heap.size sp0) := ((q.alloc _).alloc _).1
  have q' := (q.alloc (.cells #[.int .i64 P.kind, .int .i64 P.level, .int .i64 P.count, .slice g P.body.length c] 127)).alloc (.cells #[.int .i64 0, .int .i64 0, .int .i64 0, .int .i64 0, .int .i64 0, .int .i64 0, .int .i64 0, .int .i64 0] 110)
  clear hb ho q
  obtain ⟨⟨q0, q1, q2, q3, q4, q5, q6, q7⟩, qf⟩ := q'
  have f0 := qf 0 (by omega)
  have f1 := qf 1 (by omega)
  have f2 := qf 2 (by omega)
  have f3 := qf 3 (by omega)
  have f4 := qf 4 (by omega)
  have f5 := qf 5 (by omega)
  have f6 := qf 6 (by omega)
  have f7 := qf 7 (by omega)
  clear qf
  dsimp only [sp0] at q0 q1 q2 q3 q4 q5 q6 q7
  go_wp2
  clear q0 q1 q2 q3 q4 q5 q6 q7 f0 f1 f2 f3 f4 f5 f6 f7
  obtain ⟨q0, q1, q2, q3, q4, q5, q6, q7⟩ := wr8_sl HQ.out sp0
  unfold wr8 at q0 q1 q2 q3 q4 q5 q6 q7
  try dsimp only [sp0] at q0 q1 q2 q3 q4 q5 q6 q7
  refine bodyPost_ret (v := .tuple #[spV sp0, .int .i64 4]) ?_ rfl ⟨rfl, wr8_below ((HB.out.alloc HB.out.size _).alloc (Nat.le_trans HB.out.size (by simp)) _) (Nat.le_refl _) sp0⟩
  simp [results, Tryz.results52, go_sem, spV, sp0, q0, q1, q2, q3, q4, q5, q6, q7]

set_option maxHeartbeats 2000000 in
theorem dec_count (a : Option Addr) (cap n : Nat) (w : World) (P : Pg) (E : Int)
    (C : ∀ o : Obj, Calls Tryz.prog 77 #[.slice a n cap] (w.alloc o) fun e w' => ∃ g c, e = .returned (.tuple #[pgV P g c, .int .i64 E]) ∧ Own (w.alloc o).heap.size w' (.slice g P.body.length c) P.body ∧ Below (w.alloc o).heap.size (w.alloc o) w') (hE : E = 0) (hk : (P.kind != 1) = false) (hl : (P.level != 0) = false) (hc : (P.count != 0) = true) :
    Calls Tryz.prog 52 #[.slice a n cap] w fun e w' => e = .returned (.tuple #[spV sp0, .int .i64 4]) ∧ Below w.heap.size w w' := by
  subst hE
  dsimp only [spV, sp0]
  dsimp only [pgV] at C
  go_enter Tryz.func52, Tryz.ntmps52
  go_wp2_with fail
  refine (C _).mono ?_
  clear C
  rintro e w1 ⟨g, c, rfl, ho, hb⟩
  have q : Sw8 w1 w.heap.size sp0 := (sw8_new w sp0 28).same (hb.block _ (by simp))
  have HB : Hid (Below w.heap.size w w1) := ((Below.refl _ w).alloc (Nat.le_refl _) _).trans (hb.mono (by simp))
  have HQ : Hid (Sl8 ((w1.alloc (.cells #[.int .i64 P.kind, .int .i64 P.level, .int .i64 P.count, .slice g P.body.length c] 127)).alloc (.cells #[.int .i64 0, .int .i64 0, .int .i64 0, .int .i64 0, .int .i64 0, .int .i64 0, .int .i64 0, .int .i64 0] 110)) w.heap.size sp0) := ((q.alloc _).alloc _).1
  have q' := (q.alloc (.cells #[.int .i64 P.kind, .int .i64 P.level, .int .i64 P.count, .slice g P.body.length c] 127)).alloc (.cells #[.int .i64 0, .int .i64 0, .int .i64 0, .int .i64 0, .int .i64 0, .int .i64 0, .int .i64 0, .int .i64 0] 110)
  clear hb ho q
  obtain ⟨⟨q0, q1, q2, q3, q4, q5, q6, q7⟩, qf⟩ := q'
  have f0 := qf 0 (by omega)
  have f1 := qf 1 (by omega)
  have f2 := qf 2 (by omega)
  have f3 := qf 3 (by omega)
  have f4 := qf 4 (by omega)
  have f5 := qf 5 (by omega)
  have f6 := qf 6 (by omega)
  have f7 := qf 7 (by omega)
  clear qf
  dsimp only [sp0] at q0 q1 q2 q3 q4 q5 q6 q7
  go_wp2
  clear q0 q1 q2 q3 q4 q5 q6 q7 f0 f1 f2 f3 f4 f5 f6 f7
  obtain ⟨q0, q1, q2, q3, q4, q5, q6, q7⟩ := wr8_sl HQ.out sp0
  unfold wr8 at q0 q1 q2 q3 q4 q5 q6 q7
  try dsimp only [sp0] at q0 q1 q2 q3 q4 q5 q6 q7
  refine bodyPost_ret (v := .tuple #[spV sp0, .int .i64 4]) ?_ rfl ⟨rfl, wr8_below ((HB.out.alloc HB.out.size _).alloc (Nat.le_trans HB.out.size (by simp)) _) (Nat.le_refl _) sp0⟩
  simp [results, Tryz.results52, go_sem, spV, sp0, q0, q1, q2, q3, q4, q5, q6, q7]

set_option maxHeartbeats 2000000 in
theorem dec_read (a : Option Addr) (cap n : Nat) (w : World) (P : Pg) (E : Int)
    (C : ∀ o : Obj, Calls Tryz.prog 77 #[.slice a n cap] (w.alloc o) fun e w' => ∃ g c, e = .returned (.tuple #[pgV P g c, .int .i64 E]) ∧ Own (w.alloc o).heap.size w' (.slice g P.body.length c) P.body ∧ Below (w.alloc o).heap.size (w.alloc o) w') (hE : E = 0) (hk : (P.kind != 1) = false) (hl : (P.level != 0) = false) (hc : (P.count != 0) = false) (hlen : P.body.length = 248) (hbys : Bys P.body) (hrd : rdB P.body = false) :
    Calls Tryz.prog 52 #[.slice a n cap] w fun e w' => e = .returned (.tuple #[spV sp0, .int .i64 4]) ∧ Below w.heap.size w w' := by
  subst hE
  dsimp only [spV, sp0]
  dsimp only [pgV] at C
  go_enter Tryz.func52, Tryz.ntmps52
  go_wp2_with fail
  refine (C _).mono ?_
  clear C
  rintro e w1 ⟨g, c, rfl, ho, hb⟩
  have q : Sw8 w1 w.heap.size sp0 := (sw8_new w sp0 28).same (hb.block _ (by simp))
  have HB : Hid (Below w.heap.size w w1) := ((Below.refl _ w).alloc (Nat.le_refl _) _).trans (hb.mono (by simp))
  have HQ : Hid (Sw8 ((w1.alloc (.cells #[.int .i64 P.kind, .int .i64 P.level, .int .i64 P.count, .slice g P.body.length c] 127)).alloc (.cells #[.int .i64 0, .int .i64 0, .int .i64 0, .int .i64 0, .int .i64 0, .int .i64 0, .int .i64 0, .int .i64 0] 110)) w.heap.size sp0) := (q.alloc _).alloc _
  have HW : Hid (Below w.heap.size w ((w1.alloc (.cells #[.int .i64 P.kind, .int .i64 P.level, .int .i64 P.count, .slice g P.body.length c] 127)).alloc (.cells #[.int .i64 0, .int .i64 0, .int .i64 0, .int .i64 0, .int .i64 0, .int .i64 0, .int .i64 0, .int .i64 0] 110))) := (HB.out.alloc HB.out.size _).alloc (Nat.le_trans HB.out.size (by simp)) _
  have hqlt := q.1.lt
  obtain ⟨g0, c0, eg, _, _, _, _⟩ := own_at ho 0 (by rw [hlen]; decide)
  simp only [Value.slice.injEq, true_and] at eg
  obtain ⟨rfl, rfl⟩ := eg
  have hg := (World.ownsRow.lt ho g0 rfl).2
  have hr : Row ((w1.alloc (.cells #[.int .i64 P.kind, .int .i64 P.level, .int .i64 P.count, .slice (some ⟨g0, 0, none⟩) P.body.length c] 127)).alloc (.cells #[.int .i64 0, .int .i64 0, .int .i64 0, .int .i64 0, .int .i64 0, .int .i64 0, .int .i64 0, .int .i64 0] 110)) (some ⟨g0, 0, none⟩) c P.body := (ho.row' hbys).2.below (((Below.refl _ w1).alloc (Nat.le_refl _) _).alloc (by simp) _)
  have hs : Sw8 ((w1.alloc (.cells #[.int .i64 P.kind, .int .i64 P.level, .int .i64 P.count, .slice (some ⟨g0, 0, none⟩) P.body.length c] 127)).alloc (.cells #[.int .i64 0, .int .i64 0, .int .i64 0, .int .i64 0, .int .i64 0, .int .i64 0, .int .i64 0, .int .i64 0] 110)) (w1.heap.size + 1) sp0 := by
    have := sw8_new (w1.alloc (.cells #[.int .i64 P.kind, .int .i64 P.level, .int .i64 P.count, .slice (some ⟨g0, 0, none⟩) P.body.length c] 127)) sp0 110
    simpa [sp0] using this
  have CR := sread_any (w1.heap.size + 1) g0 0 c P.body _ hs hr hlen (by omega)
  rw [hlen] at CR HQ HW ⊢
  clear hs hr ho hb hg q
  go_wp2_with fail
  refine CR.mono ?_
  clear CR
  rintro e w3 ⟨rfl, -, hb3⟩
  rw [hrd]
  have q' : Sw8 w3 w.heap.size sp0 := HQ.out.same (hb3.block _ (by omega))
  have HB3 : Hid (Below w.heap.size w w3) := HW.out.trans (hb3.mono (by omega))
  clear HQ hb3
  have HQ : Hid (Sl8 w3 w.heap.size sp0) := q'.1
  obtain ⟨⟨q0, q1, q2, q3, q4, q5, q6, q7⟩, qf⟩ := q'
  have f0 := qf 0 (by omega)
  have f1 := qf 1 (by omega)
  have f2 := qf 2 (by omega)
  have f3 := qf 3 (by omega)
  have f4 := qf 4 (by omega)
  have f5 := qf 5 (by omega)
  have f6 := qf 6 (by omega)
  have f7 := qf 7 (by omega)
  clear qf
  dsimp only [sp0] at q0 q1 q2 q3 q4 q5 q6 q7
  go_wp2
  clear q0 q1 q2 q3 q4 q5 q6 q7 f0 f1 f2 f3 f4 f5 f6 f7
  obtain ⟨q0, q1, q2, q3, q4, q5, q6, q7⟩ := wr8_sl HQ.out sp0
  unfold wr8 at q0 q1 q2 q3 q4 q5 q6 q7
  try dsimp only [sp0] at q0 q1 q2 q3 q4 q5 q6 q7
  refine bodyPost_ret (v := .tuple #[spV sp0, .int .i64 4]) ?_ rfl ⟨rfl, wr8_below HB3.out (Nat.le_refl _) sp0⟩
  simp [results, Tryz.results52, go_sem, spV, sp0, q0, q1, q2, q3, q4, q5, q6, q7]

set_option maxHeartbeats 2000000 in
theorem dec_check (a : Option Addr) (cap n : Nat) (w : World) (P : Pg) (E : Int)
    (C : ∀ o : Obj, Calls Tryz.prog 77 #[.slice a n cap] (w.alloc o) fun e w' => ∃ g c, e = .returned (.tuple #[pgV P g c, .int .i64 E]) ∧ Own (w.alloc o).heap.size w' (.slice g P.body.length c) P.body ∧ Below (w.alloc o).heap.size (w.alloc o) w') (hE : E = 0) (hk : (P.kind != 1) = false) (hl : (P.level != 0) = false) (hc : (P.count != 0) = false) (hlen : P.body.length = 248) (hbys : Bys P.body) (hrd : rdB P.body = true) (hEN : enE (sdL P.body) = 1) :
    Calls Tryz.prog 52 #[.slice a n cap] w fun e w' => e = .returned (.tuple #[spV sp0, .int .i64 4]) ∧ Below w.heap.size w w' := by
  subst hE
  dsimp only [spV, sp0]
  dsimp only [pgV] at C
  go_enter Tryz.func52, Tryz.ntmps52
  go_wp2_with fail
  refine (C _).mono ?_
  clear C
  rintro e w1 ⟨g, c, rfl, ho, hb⟩
  have q : Sw8 w1 w.heap.size sp0 := (sw8_new w sp0 28).same (hb.block _ (by simp))
  have HB : Hid (Below w.heap.size w w1) := ((Below.refl _ w).alloc (Nat.le_refl _) _).trans (hb.mono (by simp))
  have HQ : Hid (Sw8 ((w1.alloc (.cells #[.int .i64 P.kind, .int .i64 P.level, .int .i64 P.count, .slice g P.body.length c] 127)).alloc (.cells #[.int .i64 0, .int .i64 0, .int .i64 0, .int .i64 0, .int .i64 0, .int .i64 0, .int .i64 0, .int .i64 0] 110)) w.heap.size sp0) := (q.alloc _).alloc _
  have HW : Hid (Below w.heap.size w ((w1.alloc (.cells #[.int .i64 P.kind, .int .i64 P.level, .int .i64 P.count, .slice g P.body.length c] 127)).alloc (.cells #[.int .i64 0, .int .i64 0, .int .i64 0, .int .i64 0, .int .i64 0, .int .i64 0, .int .i64 0, .int .i64 0] 110))) := (HB.out.alloc HB.out.size _).alloc (Nat.le_trans HB.out.size (by simp)) _
  have hqlt := q.1.lt
  obtain ⟨g0, c0, eg, _, _, _, _⟩ := own_at ho 0 (by rw [hlen]; decide)
  simp only [Value.slice.injEq, true_and] at eg
  obtain ⟨rfl, rfl⟩ := eg
  have hg := (World.ownsRow.lt ho g0 rfl).2
  have hr : Row ((w1.alloc (.cells #[.int .i64 P.kind, .int .i64 P.level, .int .i64 P.count, .slice (some ⟨g0, 0, none⟩) P.body.length c] 127)).alloc (.cells #[.int .i64 0, .int .i64 0, .int .i64 0, .int .i64 0, .int .i64 0, .int .i64 0, .int .i64 0, .int .i64 0] 110)) (some ⟨g0, 0, none⟩) c P.body := (ho.row' hbys).2.below (((Below.refl _ w1).alloc (Nat.le_refl _) _).alloc (by simp) _)
  have hs : Sw8 ((w1.alloc (.cells #[.int .i64 P.kind, .int .i64 P.level, .int .i64 P.count, .slice (some ⟨g0, 0, none⟩) P.body.length c] 127)).alloc (.cells #[.int .i64 0, .int .i64 0, .int .i64 0, .int .i64 0, .int .i64 0, .int .i64 0, .int .i64 0, .int .i64 0] 110)) (w1.heap.size + 1) sp0 := by
    have := sw8_new (w1.alloc (.cells #[.int .i64 P.kind, .int .i64 P.level, .int .i64 P.count, .slice (some ⟨g0, 0, none⟩) P.body.length c] 127)) sp0 110
    simpa [sp0] using this
  have CR := sread_any (w1.heap.size + 1) g0 0 c P.body _ hs hr hlen (by omega)
  rw [hlen] at CR HQ HW ⊢
  clear hs hr ho hb hg q
  go_wp2_with fail
  refine CR.mono ?_
  clear CR
  rintro e w3 ⟨rfl, hs3, hb3⟩
  have hs3 := hs3 hrd
  rw [hrd]
  have q' : Sw8 w3 w.heap.size sp0 := HQ.out.same (hb3.block _ (by omega))
  have HB3 : Hid (Below w.heap.size w w3) := HW.out.trans (hb3.mono (by omega))
  clear HQ hb3
  have CK := check_v (sdL P.body) w3 _ rfl
  rw [hEN] at CK
  have HS3 : Hid (Sl8 w3 (w1.heap.size + 1) (sdL P.body)) := hs3.1
  have HQ3 : Hid (Sw8 w3 w.heap.size sp0) := q'
  obtain ⟨S, hS⟩ : ∃ S, sdL P.body = S := ⟨_, rfl⟩
  rw [hS] at CK HS3
  clear hs3 q' hEN hrd
  dsimp only [spV] at CK
  obtain ⟨k0, k1, k2, k3, k4, k5, k6, k7⟩ := HS3.out
  go_wp2_with fail
  refine CK.mono ?_
  clear CK
  rintro e w4 ⟨rfl, hb4⟩
  have hs4 := HS3.out.below hb4
  have q' := HQ3.out.below hb4
  have HB4 : Hid (Below w.heap.size w w4) := HB3.out.trans (hb4.mono HB3.out.size)
  clear hb4 k0 k1 k2 k3 k4 k5 k6 k7
  have HQ : Hid (Sl8 w4 w.heap.size sp0) := q'.1
  obtain ⟨k0, k1, k2, k3, k4, k5, k6, k7⟩ := hs4
  obtain ⟨⟨q0, q1, q2, q3, q4, q5, q6, q7⟩, qf⟩ := q'
  have f0 := qf 0 (by omega)
  have f1 := qf 1 (by omega)
  have f2 := qf 2 (by omega)
  have f3 := qf 3 (by omega)
  have f4 := qf 4 (by omega)
  have f5 := qf 5 (by omega)
  have f6 := qf 6 (by omega)
  have f7 := qf 7 (by omega)
  clear qf
  dsimp only [sp0] at q0 q1 q2 q3 q4 q5 q6 q7
  clear hS
  go_wp2
  clear k0 k1 k2 k3 k4 k5 k6 k7
  clear q0 q1 q2 q3 q4 q5 q6 q7 f0 f1 f2 f3 f4 f5 f6 f7
  obtain ⟨q0, q1, q2, q3, q4, q5, q6, q7⟩ := wr8_sl HQ.out sp0
  unfold wr8 at q0 q1 q2 q3 q4 q5 q6 q7
  try dsimp only [sp0] at q0 q1 q2 q3 q4 q5 q6 q7
  refine bodyPost_ret (v := .tuple #[spV sp0, .int .i64 4]) ?_ rfl ⟨rfl, wr8_below HB4.out (Nat.le_refl _) sp0⟩
  simp [results, Tryz.results52, go_sem, spV, sp0, q0, q1, q2, q3, q4, q5, q6, q7]

set_option maxHeartbeats 2000000 in
theorem dec_good (a : Option Addr) (cap n : Nat) (w : World) (P : Pg) (E : Int)
    (C : ∀ o : Obj, Calls Tryz.prog 77 #[.slice a n cap] (w.alloc o) fun e w' => ∃ g c, e = .returned (.tuple #[pgV P g c, .int .i64 E]) ∧ Own (w.alloc o).heap.size w' (.slice g P.body.length c) P.body ∧ Below (w.alloc o).heap.size (w.alloc o) w') (hE : E = 0) (hk : (P.kind != 1) = false) (hl : (P.level != 0) = false) (hc : (P.count != 0) = false) (hlen : P.body.length = 248) (hbys : Bys P.body) (hrd : rdB P.body = true) (hEN : enE (sdL P.body) = 0) (T : Sp) (hT : sdL P.body = T) :
    Calls Tryz.prog 52 #[.slice a n cap] w fun e w' => e = .returned (.tuple #[spV T, .int .i64 0]) ∧ Below w.heap.size w w' := by
  subst hE
  dsimp only [spV, sp0]
  dsimp only [pgV] at C
  go_enter Tryz.func52, Tryz.ntmps52
  go_wp2_with fail
  refine (C _).mono ?_
  clear C
  rintro e w1 ⟨g, c, rfl, ho, hb⟩
  have q : Sw8 w1 w.heap.size sp0 := (sw8_new w sp0 28).same (hb.block _ (by simp))
  have HB : Hid (Below w.heap.size w w1) := ((Below.refl _ w).alloc (Nat.le_refl _) _).trans (hb.mono (by simp))
  have HQ : Hid (Sw8 ((w1.alloc (.cells #[.int .i64 P.kind, .int .i64 P.level, .int .i64 P.count, .slice g P.body.length c] 127)).alloc (.cells #[.int .i64 0, .int .i64 0, .int .i64 0, .int .i64 0, .int .i64 0, .int .i64 0, .int .i64 0, .int .i64 0] 110)) w.heap.size sp0) := (q.alloc _).alloc _
  have HW : Hid (Below w.heap.size w ((w1.alloc (.cells #[.int .i64 P.kind, .int .i64 P.level, .int .i64 P.count, .slice g P.body.length c] 127)).alloc (.cells #[.int .i64 0, .int .i64 0, .int .i64 0, .int .i64 0, .int .i64 0, .int .i64 0, .int .i64 0, .int .i64 0] 110))) := (HB.out.alloc HB.out.size _).alloc (Nat.le_trans HB.out.size (by simp)) _
  have hqlt := q.1.lt
  obtain ⟨g0, c0, eg, _, _, _, _⟩ := own_at ho 0 (by rw [hlen]; decide)
  simp only [Value.slice.injEq, true_and] at eg
  obtain ⟨rfl, rfl⟩ := eg
  have hg := (World.ownsRow.lt ho g0 rfl).2
  have hr : Row ((w1.alloc (.cells #[.int .i64 P.kind, .int .i64 P.level, .int .i64 P.count, .slice (some ⟨g0, 0, none⟩) P.body.length c] 127)).alloc (.cells #[.int .i64 0, .int .i64 0, .int .i64 0, .int .i64 0, .int .i64 0, .int .i64 0, .int .i64 0, .int .i64 0] 110)) (some ⟨g0, 0, none⟩) c P.body := (ho.row' hbys).2.below (((Below.refl _ w1).alloc (Nat.le_refl _) _).alloc (by simp) _)
  have hs : Sw8 ((w1.alloc (.cells #[.int .i64 P.kind, .int .i64 P.level, .int .i64 P.count, .slice (some ⟨g0, 0, none⟩) P.body.length c] 127)).alloc (.cells #[.int .i64 0, .int .i64 0, .int .i64 0, .int .i64 0, .int .i64 0, .int .i64 0, .int .i64 0, .int .i64 0] 110)) (w1.heap.size + 1) sp0 := by
    have := sw8_new (w1.alloc (.cells #[.int .i64 P.kind, .int .i64 P.level, .int .i64 P.count, .slice (some ⟨g0, 0, none⟩) P.body.length c] 127)) sp0 110
    simpa [sp0] using this
  have CR := sread_any (w1.heap.size + 1) g0 0 c P.body _ hs hr hlen (by omega)
  rw [hlen] at CR HQ HW ⊢
  clear hs hr ho hb hg q
  go_wp2_with fail
  refine CR.mono ?_
  clear CR
  rintro e w3 ⟨rfl, hs3, hb3⟩
  have hs3 := hs3 hrd
  rw [hrd]
  have q' : Sw8 w3 w.heap.size sp0 := HQ.out.same (hb3.block _ (by omega))
  have HB3 : Hid (Below w.heap.size w w3) := HW.out.trans (hb3.mono (by omega))
  clear HQ hb3
  have CK := check_v (sdL P.body) w3 _ rfl
  rw [hEN] at CK
  have HS3 : Hid (Sl8 w3 (w1.heap.size + 1) (sdL P.body)) := hs3.1
  have HQ3 : Hid (Sw8 w3 w.heap.size sp0) := q'
  rw [hT] at CK HS3
  clear hs3 q' hEN hrd
  dsimp only [spV] at CK
  obtain ⟨k0, k1, k2, k3, k4, k5, k6, k7⟩ := HS3.out
  go_wp2_with fail
  refine CK.mono ?_
  clear CK
  rintro e w4 ⟨rfl, hb4⟩
  have hs4 := HS3.out.below hb4
  have q' := HQ3.out.below hb4
  have HB4 : Hid (Below w.heap.size w w4) := HB3.out.trans (hb4.mono HB3.out.size)
  clear hb4 k0 k1 k2 k3 k4 k5 k6 k7
  have HQ : Hid (Sl8 w4 w.heap.size sp0) := q'.1
  obtain ⟨k0, k1, k2, k3, k4, k5, k6, k7⟩ := hs4
  obtain ⟨⟨q0, q1, q2, q3, q4, q5, q6, q7⟩, qf⟩ := q'
  have f0 := qf 0 (by omega)
  have f1 := qf 1 (by omega)
  have f2 := qf 2 (by omega)
  have f3 := qf 3 (by omega)
  have f4 := qf 4 (by omega)
  have f5 := qf 5 (by omega)
  have f6 := qf 6 (by omega)
  have f7 := qf 7 (by omega)
  clear qf
  dsimp only [sp0] at q0 q1 q2 q3 q4 q5 q6 q7
  clear hT
  go_wp2
  clear k0 k1 k2 k3 k4 k5 k6 k7
  clear q0 q1 q2 q3 q4 q5 q6 q7 f0 f1 f2 f3 f4 f5 f6 f7
  obtain ⟨q0, q1, q2, q3, q4, q5, q6, q7⟩ := wr8_sl HQ.out T
  unfold wr8 at q0 q1 q2 q3 q4 q5 q6 q7
  try dsimp only [sp0] at q0 q1 q2 q3 q4 q5 q6 q7
  refine bodyPost_ret (v := .tuple #[spV T, .int .i64 0]) ?_ rfl ⟨rfl, wr8_below HB4.out (Nat.le_refl _) T⟩
  simp [results, Tryz.results52, go_sem, spV, q0, q1, q2, q3, q4, q5, q6, q7]

theorem decode_v (a : Option Addr) (cap n : Nat) (zs : List Int) (w : World) (h : Row w a cap zs) (hn : zs.length = n) (T : Sp) (hT : deS zs = T) (E : Int) (hE : deE zs = E) :
    Calls Tryz.prog 52 #[.slice a n cap] w fun e w' => e = .returned (.tuple #[spV T, .int .i64 E]) ∧ Below w.heap.size w w' := by
  subst hT hE
  have C : ∀ o : Obj, Calls Tryz.prog 77 #[.slice a n cap] (w.alloc o) fun e w' => ∃ g c, e = .returned (.tuple #[pgV (opP zs) g c, .int .i64 (opE zs)]) ∧ Own (w.alloc o).heap.size w' (.slice g (opP zs).body.length c) (opP zs).body ∧ Below (w.alloc o).heap.size (w.alloc o) w' := fun o => open_v a cap n zs _ (h.below ((Below.refl _ w).alloc (Nat.le_refl _) o)) hn _ rfl _ rfl
  by_cases ho : opE zs = 0
  · have hlen : (opP zs).body.length = 248 := (seal_open h.1 ho).2.2.2
    have hbys : Bys (opP zs).body := opP_bys h.1
    have hd := deB_split (opP zs)
    have bad : deB (opP zs) = false → (deS zs = sp0 ∧ deE zs = 4) := fun hB => ⟨(de_bad ho hB).2, (de_bad ho hB).1⟩
    by_cases hk : (opP zs).kind = 1
    rotate_left
    · obtain ⟨e1, e2⟩ := bad (by rw [hd]; simp [hk])
      rw [e1, e2]
      exact dec_kind a cap n w _ _ C ho (by simpa using hk)
    by_cases hl : (opP zs).level = 0
    rotate_left
    · obtain ⟨e1, e2⟩ := bad (by rw [hd]; simp [hl])
      rw [e1, e2]
      exact dec_level a cap n w _ _ C ho (by simpa using hk) (by simpa using hl)
    by_cases hc : (opP zs).count = 0
    rotate_left
    · obtain ⟨e1, e2⟩ := bad (by rw [hd]; simp [hc])
      rw [e1, e2]
      exact dec_count a cap n w _ _ C ho (by simpa using hk) (by simpa using hl) (by simpa using hc)
    cases hr : rdB (opP zs).body
    · obtain ⟨e1, e2⟩ := bad (by rw [hd, hr]; simp)
      rw [e1, e2]
      exact dec_read a cap n w _ _ C ho (by simpa using hk) (by simpa using hl) (by simpa using hc) hlen hbys hr
    cases hok : okS (sdL (opP zs).body)
    · obtain ⟨e1, e2⟩ := bad (by rw [hd, hok]; simp)
      rw [e1, e2]
      exact dec_check a cap n w _ _ C ho (by simpa using hk) (by simpa using hl) (by simpa using hc) hlen hbys hr (by unfold enE; rw [hok]; rfl)
    · obtain ⟨e1, e2⟩ := de_good ho (by rw [hd, hok, hr]; simp [hk, hl, hc])
      rw [e1, e2]
      exact dec_good a cap n w _ _ C ho (by simpa using hk) (by simpa using hl) (by simpa using hc) hlen hbys hr (by unfold enE; rw [hok]; rfl) _ rfl
  · obtain ⟨e1, e2⟩ := de_no ho
    rw [e1, e2]
    exact dec_err a cap n w _ _ C (by simpa using ho)
end Go.Proofs.YtjllhcifmfhkmaaGreat.Oct

/-
  The document's DecodeSuper.
-/
namespace Go.Proofs.YtjllhcifmfhkmaaGreat.Oct
open Go.RowKit

set_option maxHeartbeats 2000000 in
theorem rdec_err (a : Option Addr) (cap n : Nat) (w : World) (P : Pg) (E : Int)
    (C : ∀ o : Obj, Calls Tryz.prog 95 #[.slice a n cap] (w.alloc o) fun e w' => ∃ g c, e = .returned (.tuple #[pgV P g c, .int .i64 E]) ∧ Own (w.alloc o).heap.size w' (.slice g P.body.length c) P.body ∧ Below (w.alloc o).heap.size (w.alloc o) w') (hE : (E != 0) = true) :
    Calls Tryz.prog 67 #[.slice a n cap] w fun e w' => e = .returned (.tuple #[spV sp0, .int .i64 E]) ∧ Below w.heap.size w w' := by
  dsimp only [spV, sp0]
  dsimp only [pgV] at C
  go_enter Tryz.func67, Tryz.ntmps67
  go_wp2_with fail
  refine (C _).mono ?_
  clear C
  rintro e w1 ⟨g, c, rfl, ho, hb⟩
  have q : Sw8 w1 w.heap.size sp0 := (sw8_new w sp0 28).same (hb.block _ (by simp))
  have HB : Hid (Below w.heap.size w w1) := ((Below.refl _ w).alloc (Nat.le_refl _) _).trans (hb.mono (by simp))
  have HQ : Hid (Sl8 (w1.alloc (.cells #[.int .i64 P.kind, .int .i64 P.level, .int .i64 P.count, .slice g P.body.length c] 127)) w.heap.size sp0) := (q.alloc _).1
  have q' := q.alloc (.cells #[.int .i64 P.kind, .int .i64 P.level, .int .i64 P.count, .slice g P.body.length c] 127)
  clear hb ho q
  obtain ⟨⟨q0, q1, q2, q3, q4, q5, q6, q7⟩, qf⟩ := q'
  have f0 := qf 0 (by omega)
  have f1 := qf 1 (by omega)
  have f2 := qf 2 (by omega)
  have f3 := qf 3 (by omega)
  have f4 := qf 4 (by omega)
  have f5 := qf 5 (by omega)
  have f6 := qf 6 (by omega)
  have f7 := qf 7 (by omega)
  clear qf
  dsimp only [sp0] at q0 q1 q2 q3 q4 q5 q6 q7
  go_wp2
  clear q0 q1 q2 q3 q4 q5 q6 q7 f0 f1 f2 f3 f4 f5 f6 f7
  obtain ⟨q0, q1, q2, q3, q4, q5, q6, q7⟩ := wr8_sl HQ.out sp0
  unfold wr8 at q0 q1 q2 q3 q4 q5 q6 q7
  try dsimp only [sp0] at q0 q1 q2 q3 q4 q5 q6 q7
  refine bodyPost_ret (v := .tuple #[spV sp0, .int .i64 E]) ?_ rfl ⟨rfl, wr8_below (HB.out.alloc HB.out.size _) (Nat.le_refl _) sp0⟩
  simp [results, Tryz.results67, go_sem, spV, sp0, q0, q1, q2, q3, q4, q5, q6, q7]

set_option maxHeartbeats 2000000 in
theorem rdec_kind (a : Option Addr) (cap n : Nat) (w : World) (P : Pg) (E : Int)
    (C : ∀ o : Obj, Calls Tryz.prog 95 #[.slice a n cap] (w.alloc o) fun e w' => ∃ g c, e = .returned (.tuple #[pgV P g c, .int .i64 E]) ∧ Own (w.alloc o).heap.size w' (.slice g P.body.length c) P.body ∧ Below (w.alloc o).heap.size (w.alloc o) w') (hE : E = 0) (hlen : P.body.length = 248) (hbys : Bys P.body) (T : Sp) (hT : sdL P.body = T) (hk : (P.kind != 1) = true) :
    Calls Tryz.prog 67 #[.slice a n cap] w fun e w' => e = .returned (.tuple #[spV sp0, .int .i64 4]) ∧ Below w.heap.size w w' := by
  subst hE
  dsimp only [spV, sp0]
  dsimp only [pgV] at C
  go_enter Tryz.func67, Tryz.ntmps67
  go_wp2_with fail
  refine (C _).mono ?_
  clear C
  rintro e w1 ⟨g, c, rfl, ho, hb⟩
  have q : Sw8 w1 w.heap.size sp0 := (sw8_new w sp0 28).same (hb.block _ (by simp))
  have HB : Hid (Below w.heap.size w w1) := ((Below.refl _ w).alloc (Nat.le_refl _) _).trans (hb.mono (by simp))
  have HQ : Hid (Sw8 ((w1.alloc (.cells #[.int .i64 P.kind, .int .i64 P.level, .int .i64 P.count, .slice g P.body.length c] 127)).alloc (.cells #[.int .i64 T.g, .int .i64 T.p, .int .i64 T.r, .int .i64 T.h, .int .i64 T.b, .int .i64 T.l, .int .i64 T.s, .int .i64 T.f] 28)) w.heap.size sp0) := (q.alloc _).alloc _
  have HW : Hid (Below w.heap.size w ((w1.alloc (.cells #[.int .i64 P.kind, .int .i64 P.level, .int .i64 P.count, .slice g P.body.length c] 127)).alloc (.cells #[.int .i64 T.g, .int .i64 T.p, .int .i64 T.r, .int .i64 T.h, .int .i64 T.b, .int .i64 T.l, .int .i64 T.s, .int .i64 T.f] 28))) := (HB.out.alloc HB.out.size _).alloc (Nat.le_trans HB.out.size (by simp)) _
  obtain ⟨g0, c0, eg, hx1, hx2, hx3, hx4⟩ := own_at ho 0 (by rw [hlen]; decide)
  clear hx1 hx2 hx3 hx4
  simp only [Value.slice.injEq, true_and] at eg
  obtain ⟨rfl, rfl⟩ := eg
  have hr : Row (w1.alloc (.cells #[.int .i64 P.kind, .int .i64 P.level, .int .i64 P.count, .slice (some ⟨g0, 0, none⟩) P.body.length c] 127)) (some ⟨g0, 0, none⟩) c P.body := (ho.row' hbys).2.below ((Below.refl _ w1).alloc (Nat.le_refl _) _)
  have CG := fun p n => rnumber_any _ _ _ p n _ hr
  have HR2 : Hid (Row ((w1.alloc (.cells #[.int .i64 P.kind, .int .i64 P.level, .int .i64 P.count, .slice (some ⟨g0, 0, none⟩) P.body.length c] 127)).alloc (.cells #[.int .i64 T.g, .int .i64 T.p, .int .i64 T.r, .int .i64 T.h, .int .i64 T.b, .int .i64 T.l, .int .i64 T.s, .int .i64 T.f] 28)) (some ⟨g0, 0, none⟩) c P.body) := hr.below ((Below.refl _ _).alloc (Nat.le_refl _) _)
  rw [hlen] at CG
  rw [hlen] at HR2
  rw [hlen] at HQ HW ⊢
  have C0 : Hid (Calls Tryz.prog 96 #[.slice (some ⟨g0, 0, none⟩) 248 c, .int .i64 0, .int .i64 8] (w1.alloc (.cells #[.int .i64 P.kind, .int .i64 P.level, .int .i64 P.count, .slice (some ⟨g0, 0, none⟩) 248 c] 127)) fun e w' => e = .returned (.int .i64 T.g) ∧ (w1.alloc (.cells #[.int .i64 P.kind, .int .i64 P.level, .int .i64 P.count, .slice (some ⟨g0, 0, none⟩) 248 c] 127)) = w') := by rw [← hT]; exact CG 0 8
  have C1 : Hid (Calls Tryz.prog 96 #[.slice (some ⟨g0, 0, none⟩) 248 c, .int .i64 8, .int .i64 4] (w1.alloc (.cells #[.int .i64 P.kind, .int .i64 P.level, .int .i64 P.count, .slice (some ⟨g0, 0, none⟩) 248 c] 127)) fun e w' => e = .returned (.int .i64 T.p) ∧ (w1.alloc (.cells #[.int .i64 P.kind, .int .i64 P.level, .int .i64 P.count, .slice (some ⟨g0, 0, none⟩) 248 c] 127)) = w') := by rw [← hT]; exact CG 8 4
  have C2 : Hid (Calls Tryz.prog 96 #[.slice (some ⟨g0, 0, none⟩) 248 c, .int .i64 12, .int .i64 4] (w1.alloc (.cells #[.int .i64 P.kind, .int .i64 P.level, .int .i64 P.count, .slice (some ⟨g0, 0, none⟩) 248 c] 127)) fun e w' => e = .returned (.int .i64 T.r) ∧ (w1.alloc (.cells #[.int .i64 P.kind, .int .i64 P.level, .int .i64 P.count, .slice (some ⟨g0, 0, none⟩) 248 c] 127)) = w') := by rw [← hT]; exact CG 12 4
  have C3 : Hid (Calls Tryz.prog 96 #[.slice (some ⟨g0, 0, none⟩) 248 c, .int .i64 16, .int .i64 2] (w1.alloc (.cells #[.int .i64 P.kind, .int .i64 P.level, .int .i64 P.count, .slice (some ⟨g0, 0, none⟩) 248 c] 127)) fun e w' => e = .returned (.int .i64 T.h) ∧ (w1.alloc (.cells #[.int .i64 P.kind, .int .i64 P.level, .int .i64 P.count, .slice (some ⟨g0, 0, none⟩) 248 c] 127)) = w') := by rw [← hT]; exact CG 16 2
  have C4 : Hid (Calls Tryz.prog 96 #[.slice (some ⟨g0, 0, none⟩) 248 c, .int .i64 18, .int .i64 4] (w1.alloc (.cells #[.int .i64 P.kind, .int .i64 P.level, .int .i64 P.count, .slice (some ⟨g0, 0, none⟩) 248 c] 127)) fun e w' => e = .returned (.int .i64 T.b) ∧ (w1.alloc (.cells #[.int .i64 P.kind, .int .i64 P.level, .int .i64 P.count, .slice (some ⟨g0, 0, none⟩) 248 c] 127)) = w') := by rw [← hT]; exact CG 18 4
  have C5 : Hid (Calls Tryz.prog 96 #[.slice (some ⟨g0, 0, none⟩) 248 c, .int .i64 22, .int .i64 4] (w1.alloc (.cells #[.int .i64 P.kind, .int .i64 P.level, .int .i64 P.count, .slice (some ⟨g0, 0, none⟩) 248 c] 127)) fun e w' => e = .returned (.int .i64 T.l) ∧ (w1.alloc (.cells #[.int .i64 P.kind, .int .i64 P.level, .int .i64 P.count, .slice (some ⟨g0, 0, none⟩) 248 c] 127)) = w') := by rw [← hT]; exact CG 22 4
  have C6 : Hid (Calls Tryz.prog 96 #[.slice (some ⟨g0, 0, none⟩) 248 c, .int .i64 26, .int .i64 4] (w1.alloc (.cells #[.int .i64 P.kind, .int .i64 P.level, .int .i64 P.count, .slice (some ⟨g0, 0, none⟩) 248 c] 127)) fun e w' => e = .returned (.int .i64 T.s) ∧ (w1.alloc (.cells #[.int .i64 P.kind, .int .i64 P.level, .int .i64 P.count, .slice (some ⟨g0, 0, none⟩) 248 c] 127)) = w') := by rw [← hT]; exact CG 26 4
  have C7 : Hid (Calls Tryz.prog 96 #[.slice (some ⟨g0, 0, none⟩) 248 c, .int .i64 30, .int .i64 4] (w1.alloc (.cells #[.int .i64 P.kind, .int .i64 P.level, .int .i64 P.count, .slice (some ⟨g0, 0, none⟩) 248 c] 127)) fun e w' => e = .returned (.int .i64 T.f) ∧ (w1.alloc (.cells #[.int .i64 P.kind, .int .i64 P.level, .int .i64 P.count, .slice (some ⟨g0, 0, none⟩) 248 c] 127)) = w') := by rw [← hT]; exact CG 30 4
  clear CG ho hb q hr
  have q' := HQ.out
  obtain ⟨⟨q0, q1, q2, q3, q4, q5, q6, q7⟩, qf⟩ := q'
  have f0 := qf 0 (by omega)
  have f1 := qf 1 (by omega)
  have f2 := qf 2 (by omega)
  have f3 := qf 3 (by omega)
  have f4 := qf 4 (by omega)
  have f5 := qf 5 (by omega)
  have f6 := qf 6 (by omega)
  have f7 := qf 7 (by omega)
  clear qf
  dsimp only [sp0] at q0 q1 q2 q3 q4 q5 q6 q7
  clear HR2 hT
  go_wp2_with fail
  refine C0.out.mono ?_
  clear C0
  rintro e wx ⟨rfl, rfl⟩
  go_wp2_with fail
  refine C1.out.mono ?_
  clear C1
  rintro e wx ⟨rfl, rfl⟩
  go_wp2_with fail
  refine C2.out.mono ?_
  clear C2
  rintro e wx ⟨rfl, rfl⟩
  go_wp2_with fail
  refine C3.out.mono ?_
  clear C3
  rintro e wx ⟨rfl, rfl⟩
  go_wp2_with fail
  refine C4.out.mono ?_
  clear C4
  rintro e wx ⟨rfl, rfl⟩
  go_wp2_with fail
  refine C5.out.mono ?_
  clear C5
  rintro e wx ⟨rfl, rfl⟩
  go_wp2_with fail
  refine C6.out.mono ?_
  clear C6
  rintro e wx ⟨rfl, rfl⟩
  go_wp2_with fail
  refine C7.out.mono ?_
  clear C7
  rintro e wx ⟨rfl, rfl⟩
  go_wp2
  clear q0 q1 q2 q3 q4 q5 q6 q7 f0 f1 f2 f3 f4 f5 f6 f7
  obtain ⟨q0, q1, q2, q3, q4, q5, q6, q7⟩ := wr8_sl HQ.out.1 sp0
  unfold wr8 at q0 q1 q2 q3 q4 q5 q6 q7
  try dsimp only [sp0] at q0 q1 q2 q3 q4 q5 q6 q7
  refine bodyPost_ret (v := .tuple #[spV sp0, .int .i64 4]) ?_ rfl ⟨rfl, wr8_below HW.out (Nat.le_refl _) sp0⟩
  simp [results, Tryz.results67, go_sem, spV, sp0, q0, q1, q2, q3, q4, q5, q6, q7]

set_option maxHeartbeats 2000000 in
theorem rdec_level (a : Option Addr) (cap n : Nat) (w : World) (P : Pg) (E : Int)
    (C : ∀ o : Obj, Calls Tryz.prog 95 #[.slice a n cap] (w.alloc o) fun e w' => ∃ g c, e = .returned (.tuple #[pgV P g c, .int .i64 E]) ∧ Own (w.alloc o).heap.size w' (.slice g P.body.length c) P.body ∧ Below (w.alloc o).heap.size (w.alloc o) w') (hE : E = 0) (hlen : P.body.length = 248) (hbys : Bys P.body) (T : Sp) (hT : sdL P.body = T) (hk : (P.kind != 1) = false) (hl : (P.level != 0) = true) :
    Calls Tryz.prog 67 #[.slice a n cap] w fun e w' => e = .returned (.tuple #[spV sp0, .int .i64 4]) ∧ Below w.heap.size w w' := by
  subst hE
  dsimp only [spV, sp0]
  dsimp only [pgV] at C
  go_enter Tryz.func67, Tryz.ntmps67
  go_wp2_with fail
  refine (C _).mono ?_
  clear C
  rintro e w1 ⟨g, c, rfl, ho, hb⟩
  have q : Sw8 w1 w.heap.size sp0 := (sw8_new w sp0 28).same (hb.block _ (by simp))
  have HB : Hid (Below w.heap.size w w1) := ((Below.refl _ w).alloc (Nat.le_refl _) _).trans (hb.mono (by simp))
  have HQ : Hid (Sw8 ((w1.alloc (.cells #[.int .i64 P.kind, .int .i64 P.level, .int .i64 P.count, .slice g P.body.length c] 127)).alloc (.cells #[.int .i64 T.g, .int .i64 T.p, .int .i64 T.r, .int .i64 T.h, .int .i64 T.b, .int .i64 T.l, .int .i64 T.s, .int .i64 T.f] 28)) w.heap.size sp0) := (q.alloc _).alloc _
  have HW : Hid (Below w.heap.size w ((w1.alloc (.cells #[.int .i64 P.kind, .int .i64 P.level, .int .i64 P.count, .slice g P.body.length c] 127)).alloc (.cells #[.int .i64 T.g, .int .i64 T.p, .int .i64 T.r, .int .i64 T.h, .int .i64 T.b, .int .i64 T.l, .int .i64 T.s, .int .i64 T.f] 28))) := (HB.out.alloc HB.out.size _).alloc (Nat.le_trans HB.out.size (by simp)) _
  obtain ⟨g0, c0, eg, hx1, hx2, hx3, hx4⟩ := own_at ho 0 (by rw [hlen]; decide)
  clear hx1 hx2 hx3 hx4
  simp only [Value.slice.injEq, true_and] at eg
  obtain ⟨rfl, rfl⟩ := eg
  have hr : Row (w1.alloc (.cells #[.int .i64 P.kind, .int .i64 P.level, .int .i64 P.count, .slice (some ⟨g0, 0, none⟩) P.body.length c] 127)) (some ⟨g0, 0, none⟩) c P.body := (ho.row' hbys).2.below ((Below.refl _ w1).alloc (Nat.le_refl _) _)
  have CG := fun p n => rnumber_any _ _ _ p n _ hr
  have HR2 : Hid (Row ((w1.alloc (.cells #[.int .i64 P.kind, .int .i64 P.level, .int .i64 P.count, .slice (some ⟨g0, 0, none⟩) P.body.length c] 127)).alloc (.cells #[.int .i64 T.g, .int .i64 T.p, .int .i64 T.r, .int .i64 T.h, .int .i64 T.b, .int .i64 T.l, .int .i64 T.s, .int .i64 T.f] 28)) (some ⟨g0, 0, none⟩) c P.body) := hr.below ((Below.refl _ _).alloc (Nat.le_refl _) _)
  rw [hlen] at CG
  rw [hlen] at HR2
  rw [hlen] at HQ HW ⊢
  have C0 : Hid (Calls Tryz.prog 96 #[.slice (some ⟨g0, 0, none⟩) 248 c, .int .i64 0, .int .i64 8] (w1.alloc (.cells #[.int .i64 P.kind, .int .i64 P.level, .int .i64 P.count, .slice (some ⟨g0, 0, none⟩) 248 c] 127)) fun e w' => e = .returned (.int .i64 T.g) ∧ (w1.alloc (.cells #[.int .i64 P.kind, .int .i64 P.level, .int .i64 P.count, .slice (some ⟨g0, 0, none⟩) 248 c] 127)) = w') := by rw [← hT]; exact CG 0 8
  have C1 : Hid (Calls Tryz.prog 96 #[.slice (some ⟨g0, 0, none⟩) 248 c, .int .i64 8, .int .i64 4] (w1.alloc (.cells #[.int .i64 P.kind, .int .i64 P.level, .int .i64 P.count, .slice (some ⟨g0, 0, none⟩) 248 c] 127)) fun e w' => e = .returned (.int .i64 T.p) ∧ (w1.alloc (.cells #[.int .i64 P.kind, .int .i64 P.level, .int .i64 P.count, .slice (some ⟨g0, 0, none⟩) 248 c] 127)) = w') := by rw [← hT]; exact CG 8 4
  have C2 : Hid (Calls Tryz.prog 96 #[.slice (some ⟨g0, 0, none⟩) 248 c, .int .i64 12, .int .i64 4] (w1.alloc (.cells #[.int .i64 P.kind, .int .i64 P.level, .int .i64 P.count, .slice (some ⟨g0, 0, none⟩) 248 c] 127)) fun e w' => e = .returned (.int .i64 T.r) ∧ (w1.alloc (.cells #[.int .i64 P.kind, .int .i64 P.level, .int .i64 P.count, .slice (some ⟨g0, 0, none⟩) 248 c] 127)) = w') := by rw [← hT]; exact CG 12 4
  have C3 : Hid (Calls Tryz.prog 96 #[.slice (some ⟨g0, 0, none⟩) 248 c, .int .i64 16, .int .i64 2] (w1.alloc (.cells #[.int .i64 P.kind, .int .i64 P.level, .int .i64 P.count, .slice (some ⟨g0, 0, none⟩) 248 c] 127)) fun e w' => e = .returned (.int .i64 T.h) ∧ (w1.alloc (.cells #[.int .i64 P.kind, .int .i64 P.level, .int .i64 P.count, .slice (some ⟨g0, 0, none⟩) 248 c] 127)) = w') := by rw [← hT]; exact CG 16 2
  have C4 : Hid (Calls Tryz.prog 96 #[.slice (some ⟨g0, 0, none⟩) 248 c, .int .i64 18, .int .i64 4] (w1.alloc (.cells #[.int .i64 P.kind, .int .i64 P.level, .int .i64 P.count, .slice (some ⟨g0, 0, none⟩) 248 c] 127)) fun e w' => e = .returned (.int .i64 T.b) ∧ (w1.alloc (.cells #[.int .i64 P.kind, .int .i64 P.level, .int .i64 P.count, .slice (some ⟨g0, 0, none⟩) 248 c] 127)) = w') := by rw [← hT]; exact CG 18 4
  have C5 : Hid (Calls Tryz.prog 96 #[.slice (some ⟨g0, 0, none⟩) 248 c, .int .i64 22, .int .i64 4] (w1.alloc (.cells #[.int .i64 P.kind, .int .i64 P.level, .int .i64 P.count, .slice (some ⟨g0, 0, none⟩) 248 c] 127)) fun e w' => e = .returned (.int .i64 T.l) ∧ (w1.alloc (.cells #[.int .i64 P.kind, .int .i64 P.level, .int .i64 P.count, .slice (some ⟨g0, 0, none⟩) 248 c] 127)) = w') := by rw [← hT]; exact CG 22 4
  have C6 : Hid (Calls Tryz.prog 96 #[.slice (some ⟨g0, 0, none⟩) 248 c, .int .i64 26, .int .i64 4] (w1.alloc (.cells #[.int .i64 P.kind, .int .i64 P.level, .int .i64 P.count, .slice (some ⟨g0, 0, none⟩) 248 c] 127)) fun e w' => e = .returned (.int .i64 T.s) ∧ (w1.alloc (.cells #[.int .i64 P.kind, .int .i64 P.level, .int .i64 P.count, .slice (some ⟨g0, 0, none⟩) 248 c] 127)) = w') := by rw [← hT]; exact CG 26 4
  have C7 : Hid (Calls Tryz.prog 96 #[.slice (some ⟨g0, 0, none⟩) 248 c, .int .i64 30, .int .i64 4] (w1.alloc (.cells #[.int .i64 P.kind, .int .i64 P.level, .int .i64 P.count, .slice (some ⟨g0, 0, none⟩) 248 c] 127)) fun e w' => e = .returned (.int .i64 T.f) ∧ (w1.alloc (.cells #[.int .i64 P.kind, .int .i64 P.level, .int .i64 P.count, .slice (some ⟨g0, 0, none⟩) 248 c] 127)) = w') := by rw [← hT]; exact CG 30 4
  clear CG ho hb q hr
  have q' := HQ.out
  obtain ⟨⟨q0, q1, q2, q3, q4, q5, q6, q7⟩, qf⟩ := q'
  have f0 := qf 0 (by omega)
  have f1 := qf 1 (by omega)
  have f2 := qf 2 (by omega)
  have f3 := qf 3 (by omega)
  have f4 := qf 4 (by omega)
  have f5 := qf 5 (by omega)
  have f6 := qf 6 (by omega)
  have f7 := qf 7 (by omega)
  clear qf
  dsimp only [sp0] at q0 q1 q2 q3 q4 q5 q6 q7
  clear HR2 hT
  go_wp2_with fail
  refine C0.out.mono ?_
  clear C0
  rintro e wx ⟨rfl, rfl⟩
  go_wp2_with fail
  refine C1.out.mono ?_
  clear C1
  rintro e wx ⟨rfl, rfl⟩
  go_wp2_with fail
  refine C2.out.mono ?_
  clear C2
  rintro e wx ⟨rfl, rfl⟩
  go_wp2_with fail
  refine C3.out.mono ?_
  clear C3
  rintro e wx ⟨rfl, rfl⟩
  go_wp2_with fail
  refine C4.out.mono ?_
  clear C4
  rintro e wx ⟨rfl, rfl⟩
  go_wp2_with fail
  refine C5.out.mono ?_
  clear C5
  rintro e wx ⟨rfl, rfl⟩
  go_wp2_with fail
  refine C6.out.mono ?_
  clear C6
  rintro e wx ⟨rfl, rfl⟩
  go_wp2_with fail
  refine C7.out.mono ?_
  clear C7
  rintro e wx ⟨rfl, rfl⟩
  go_wp2
  clear q0 q1 q2 q3 q4 q5 q6 q7 f0 f1 f2 f3 f4 f5 f6 f7
  obtain ⟨q0, q1, q2, q3, q4, q5, q6, q7⟩ := wr8_sl HQ.out.1 sp0
  unfold wr8 at q0 q1 q2 q3 q4 q5 q6 q7
  try dsimp only [sp0] at q0 q1 q2 q3 q4 q5 q6 q7
  refine bodyPost_ret (v := .tuple #[spV sp0, .int .i64 4]) ?_ rfl ⟨rfl, wr8_below HW.out (Nat.le_refl _) sp0⟩
  simp [results, Tryz.results67, go_sem, spV, sp0, q0, q1, q2, q3, q4, q5, q6, q7]

set_option maxHeartbeats 2000000 in
theorem rdec_count (a : Option Addr) (cap n : Nat) (w : World) (P : Pg) (E : Int)
    (C : ∀ o : Obj, Calls Tryz.prog 95 #[.slice a n cap] (w.alloc o) fun e w' => ∃ g c, e = .returned (.tuple #[pgV P g c, .int .i64 E]) ∧ Own (w.alloc o).heap.size w' (.slice g P.body.length c) P.body ∧ Below (w.alloc o).heap.size (w.alloc o) w') (hE : E = 0) (hlen : P.body.length = 248) (hbys : Bys P.body) (T : Sp) (hT : sdL P.body = T) (hk : (P.kind != 1) = false) (hl : (P.level != 0) = false) (hc : (P.count != 0) = true) :
    Calls Tryz.prog 67 #[.slice a n cap] w fun e w' => e = .returned (.tuple #[spV sp0, .int .i64 4]) ∧ Below w.heap.size w w' := by
  subst hE
  dsimp only [spV, sp0]
  dsimp only [pgV] at C
  go_enter Tryz.func67, Tryz.ntmps67
  go_wp2_with fail
  refine (C _).mono ?_
  clear C
  rintro e w1 ⟨g, c, rfl, ho, hb⟩
  have q : Sw8 w1 w.heap.size sp0 := (sw8_new w sp0 28).same (hb.block _ (by simp))
  have HB : Hid (Below w.heap.size w w1) := ((Below.refl _ w).alloc (Nat.le_refl _) _).trans (hb.mono (by simp))
  have HQ : Hid (Sw8 ((w1.alloc (.cells #[.int .i64 P.kind, .int .i64 P.level, .int .i64 P.count, .slice g P.body.length c] 127)).alloc (.cells #[.int .i64 T.g, .int .i64 T.p, .int .i64 T.r, .int .i64 T.h, .int .i64 T.b, .int .i64 T.l, .int .i64 T.s, .int .i64 T.f] 28)) w.heap.size sp0) := (q.alloc _).alloc _
  have HW : Hid (Below w.heap.size w ((w1.alloc (.cells #[.int .i64 P.kind, .int .i64 P.level, .int .i64 P.count, .slice g P.body.length c] 127)).alloc (.cells #[.int .i64 T.g, .int .i64 T.p, .int .i64 T.r, .int .i64 T.h, .int .i64 T.b, .int .i64 T.l, .int .i64 T.s, .int .i64 T.f] 28))) := (HB.out.alloc HB.out.size _).alloc (Nat.le_trans HB.out.size (by simp)) _
  obtain ⟨g0, c0, eg, hx1, hx2, hx3, hx4⟩ := own_at ho 0 (by rw [hlen]; decide)
  clear hx1 hx2 hx3 hx4
  simp only [Value.slice.injEq, true_and] at eg
  obtain ⟨rfl, rfl⟩ := eg
  have hr : Row (w1.alloc (.cells #[.int .i64 P.kind, .int .i64 P.level, .int .i64 P.count, .slice (some ⟨g0, 0, none⟩) P.body.length c] 127)) (some ⟨g0, 0, none⟩) c P.body := (ho.row' hbys).2.below ((Below.refl _ w1).alloc (Nat.le_refl _) _)
  have CG := fun p n => rnumber_any _ _ _ p n _ hr
  have HR2 : Hid (Row ((w1.alloc (.cells #[.int .i64 P.kind, .int .i64 P.level, .int .i64 P.count, .slice (some ⟨g0, 0, none⟩) P.body.length c] 127)).alloc (.cells #[.int .i64 T.g, .int .i64 T.p, .int .i64 T.r, .int .i64 T.h, .int .i64 T.b, .int .i64 T.l, .int .i64 T.s, .int .i64 T.f] 28)) (some ⟨g0, 0, none⟩) c P.body) := hr.below ((Below.refl _ _).alloc (Nat.le_refl _) _)
  rw [hlen] at CG
  rw [hlen] at HR2
  rw [hlen] at HQ HW ⊢
  have C0 : Hid (Calls Tryz.prog 96 #[.slice (some ⟨g0, 0, none⟩) 248 c, .int .i64 0, .int .i64 8] (w1.alloc (.cells #[.int .i64 P.kind, .int .i64 P.level, .int .i64 P.count, .slice (some ⟨g0, 0, none⟩) 248 c] 127)) fun e w' => e = .returned (.int .i64 T.g) ∧ (w1.alloc (.cells #[.int .i64 P.kind, .int .i64 P.level, .int .i64 P.count, .slice (some ⟨g0, 0, none⟩) 248 c] 127)) = w') := by rw [← hT]; exact CG 0 8
  have C1 : Hid (Calls Tryz.prog 96 #[.slice (some ⟨g0, 0, none⟩) 248 c, .int .i64 8, .int .i64 4] (w1.alloc (.cells #[.int .i64 P.kind, .int .i64 P.level, .int .i64 P.count, .slice (some ⟨g0, 0, none⟩) 248 c] 127)) fun e w' => e = .returned (.int .i64 T.p) ∧ (w1.alloc (.cells #[.int .i64 P.kind, .int .i64 P.level, .int .i64 P.count, .slice (some ⟨g0, 0, none⟩) 248 c] 127)) = w') := by rw [← hT]; exact CG 8 4
  have C2 : Hid (Calls Tryz.prog 96 #[.slice (some ⟨g0, 0, none⟩) 248 c, .int .i64 12, .int .i64 4] (w1.alloc (.cells #[.int .i64 P.kind, .int .i64 P.level, .int .i64 P.count, .slice (some ⟨g0, 0, none⟩) 248 c] 127)) fun e w' => e = .returned (.int .i64 T.r) ∧ (w1.alloc (.cells #[.int .i64 P.kind, .int .i64 P.level, .int .i64 P.count, .slice (some ⟨g0, 0, none⟩) 248 c] 127)) = w') := by rw [← hT]; exact CG 12 4
  have C3 : Hid (Calls Tryz.prog 96 #[.slice (some ⟨g0, 0, none⟩) 248 c, .int .i64 16, .int .i64 2] (w1.alloc (.cells #[.int .i64 P.kind, .int .i64 P.level, .int .i64 P.count, .slice (some ⟨g0, 0, none⟩) 248 c] 127)) fun e w' => e = .returned (.int .i64 T.h) ∧ (w1.alloc (.cells #[.int .i64 P.kind, .int .i64 P.level, .int .i64 P.count, .slice (some ⟨g0, 0, none⟩) 248 c] 127)) = w') := by rw [← hT]; exact CG 16 2
  have C4 : Hid (Calls Tryz.prog 96 #[.slice (some ⟨g0, 0, none⟩) 248 c, .int .i64 18, .int .i64 4] (w1.alloc (.cells #[.int .i64 P.kind, .int .i64 P.level, .int .i64 P.count, .slice (some ⟨g0, 0, none⟩) 248 c] 127)) fun e w' => e = .returned (.int .i64 T.b) ∧ (w1.alloc (.cells #[.int .i64 P.kind, .int .i64 P.level, .int .i64 P.count, .slice (some ⟨g0, 0, none⟩) 248 c] 127)) = w') := by rw [← hT]; exact CG 18 4
  have C5 : Hid (Calls Tryz.prog 96 #[.slice (some ⟨g0, 0, none⟩) 248 c, .int .i64 22, .int .i64 4] (w1.alloc (.cells #[.int .i64 P.kind, .int .i64 P.level, .int .i64 P.count, .slice (some ⟨g0, 0, none⟩) 248 c] 127)) fun e w' => e = .returned (.int .i64 T.l) ∧ (w1.alloc (.cells #[.int .i64 P.kind, .int .i64 P.level, .int .i64 P.count, .slice (some ⟨g0, 0, none⟩) 248 c] 127)) = w') := by rw [← hT]; exact CG 22 4
  have C6 : Hid (Calls Tryz.prog 96 #[.slice (some ⟨g0, 0, none⟩) 248 c, .int .i64 26, .int .i64 4] (w1.alloc (.cells #[.int .i64 P.kind, .int .i64 P.level, .int .i64 P.count, .slice (some ⟨g0, 0, none⟩) 248 c] 127)) fun e w' => e = .returned (.int .i64 T.s) ∧ (w1.alloc (.cells #[.int .i64 P.kind, .int .i64 P.level, .int .i64 P.count, .slice (some ⟨g0, 0, none⟩) 248 c] 127)) = w') := by rw [← hT]; exact CG 26 4
  have C7 : Hid (Calls Tryz.prog 96 #[.slice (some ⟨g0, 0, none⟩) 248 c, .int .i64 30, .int .i64 4] (w1.alloc (.cells #[.int .i64 P.kind, .int .i64 P.level, .int .i64 P.count, .slice (some ⟨g0, 0, none⟩) 248 c] 127)) fun e w' => e = .returned (.int .i64 T.f) ∧ (w1.alloc (.cells #[.int .i64 P.kind, .int .i64 P.level, .int .i64 P.count, .slice (some ⟨g0, 0, none⟩) 248 c] 127)) = w') := by rw [← hT]; exact CG 30 4
  clear CG ho hb q hr
  have q' := HQ.out
  obtain ⟨⟨q0, q1, q2, q3, q4, q5, q6, q7⟩, qf⟩ := q'
  have f0 := qf 0 (by omega)
  have f1 := qf 1 (by omega)
  have f2 := qf 2 (by omega)
  have f3 := qf 3 (by omega)
  have f4 := qf 4 (by omega)
  have f5 := qf 5 (by omega)
  have f6 := qf 6 (by omega)
  have f7 := qf 7 (by omega)
  clear qf
  dsimp only [sp0] at q0 q1 q2 q3 q4 q5 q6 q7
  clear HR2 hT
  go_wp2_with fail
  refine C0.out.mono ?_
  clear C0
  rintro e wx ⟨rfl, rfl⟩
  go_wp2_with fail
  refine C1.out.mono ?_
  clear C1
  rintro e wx ⟨rfl, rfl⟩
  go_wp2_with fail
  refine C2.out.mono ?_
  clear C2
  rintro e wx ⟨rfl, rfl⟩
  go_wp2_with fail
  refine C3.out.mono ?_
  clear C3
  rintro e wx ⟨rfl, rfl⟩
  go_wp2_with fail
  refine C4.out.mono ?_
  clear C4
  rintro e wx ⟨rfl, rfl⟩
  go_wp2_with fail
  refine C5.out.mono ?_
  clear C5
  rintro e wx ⟨rfl, rfl⟩
  go_wp2_with fail
  refine C6.out.mono ?_
  clear C6
  rintro e wx ⟨rfl, rfl⟩
  go_wp2_with fail
  refine C7.out.mono ?_
  clear C7
  rintro e wx ⟨rfl, rfl⟩
  go_wp2
  clear q0 q1 q2 q3 q4 q5 q6 q7 f0 f1 f2 f3 f4 f5 f6 f7
  obtain ⟨q0, q1, q2, q3, q4, q5, q6, q7⟩ := wr8_sl HQ.out.1 sp0
  unfold wr8 at q0 q1 q2 q3 q4 q5 q6 q7
  try dsimp only [sp0] at q0 q1 q2 q3 q4 q5 q6 q7
  refine bodyPost_ret (v := .tuple #[spV sp0, .int .i64 4]) ?_ rfl ⟨rfl, wr8_below HW.out (Nat.le_refl _) sp0⟩
  simp [results, Tryz.results67, go_sem, spV, sp0, q0, q1, q2, q3, q4, q5, q6, q7]

set_option maxHeartbeats 2000000 in
theorem rdec_nou (a : Option Addr) (cap n : Nat) (w : World) (P : Pg) (E : Int)
    (C : ∀ o : Obj, Calls Tryz.prog 95 #[.slice a n cap] (w.alloc o) fun e w' => ∃ g c, e = .returned (.tuple #[pgV P g c, .int .i64 E]) ∧ Own (w.alloc o).heap.size w' (.slice g P.body.length c) P.body ∧ Below (w.alloc o).heap.size (w.alloc o) w') (hE : E = 0) (hlen : P.body.length = 248) (hbys : Bys P.body) (T : Sp) (hT : sdL P.body = T) (hk : (P.kind != 1) = false) (hl : (P.level != 0) = false) (hc : (P.count != 0) = false) (hnu : nouB (P.body.drop 34) = false) :
    Calls Tryz.prog 67 #[.slice a n cap] w fun e w' => e = .returned (.tuple #[spV sp0, .int .i64 4]) ∧ Below w.heap.size w w' := by
  subst hE
  dsimp only [spV, sp0]
  dsimp only [pgV] at C
  go_enter Tryz.func67, Tryz.ntmps67
  go_wp2_with fail
  refine (C _).mono ?_
  clear C
  rintro e w1 ⟨g, c, rfl, ho, hb⟩
  have q : Sw8 w1 w.heap.size sp0 := (sw8_new w sp0 28).same (hb.block _ (by simp))
  have HB : Hid (Below w.heap.size w w1) := ((Below.refl _ w).alloc (Nat.le_refl _) _).trans (hb.mono (by simp))
  have HQ : Hid (Sw8 ((w1.alloc (.cells #[.int .i64 P.kind, .int .i64 P.level, .int .i64 P.count, .slice g P.body.length c] 127)).alloc (.cells #[.int .i64 T.g, .int .i64 T.p, .int .i64 T.r, .int .i64 T.h, .int .i64 T.b, .int .i64 T.l, .int .i64 T.s, .int .i64 T.f] 28)) w.heap.size sp0) := (q.alloc _).alloc _
  have HW : Hid (Below w.heap.size w ((w1.alloc (.cells #[.int .i64 P.kind, .int .i64 P.level, .int .i64 P.count, .slice g P.body.length c] 127)).alloc (.cells #[.int .i64 T.g, .int .i64 T.p, .int .i64 T.r, .int .i64 T.h, .int .i64 T.b, .int .i64 T.l, .int .i64 T.s, .int .i64 T.f] 28))) := (HB.out.alloc HB.out.size _).alloc (Nat.le_trans HB.out.size (by simp)) _
  obtain ⟨g0, c0, eg, hx1, hx2, hx3, hx4⟩ := own_at ho 0 (by rw [hlen]; decide)
  clear hx1 hx2 hx3 hx4
  simp only [Value.slice.injEq, true_and] at eg
  obtain ⟨rfl, rfl⟩ := eg
  have hr : Row (w1.alloc (.cells #[.int .i64 P.kind, .int .i64 P.level, .int .i64 P.count, .slice (some ⟨g0, 0, none⟩) P.body.length c] 127)) (some ⟨g0, 0, none⟩) c P.body := (ho.row' hbys).2.below ((Below.refl _ w1).alloc (Nat.le_refl _) _)
  have CG := fun p n => rnumber_any _ _ _ p n _ hr
  have HR2 : Hid (Row ((w1.alloc (.cells #[.int .i64 P.kind, .int .i64 P.level, .int .i64 P.count, .slice (some ⟨g0, 0, none⟩) P.body.length c] 127)).alloc (.cells #[.int .i64 T.g, .int .i64 T.p, .int .i64 T.r, .int .i64 T.h, .int .i64 T.b, .int .i64 T.l, .int .i64 T.s, .int .i64 T.f] 28)) (some ⟨g0, 0, none⟩) c P.body) := hr.below ((Below.refl _ _).alloc (Nat.le_refl _) _)
  rw [hlen] at CG
  rw [hlen] at HR2
  rw [hlen] at HQ HW ⊢
  have C0 : Hid (Calls Tryz.prog 96 #[.slice (some ⟨g0, 0, none⟩) 248 c, .int .i64 0, .int .i64 8] (w1.alloc (.cells #[.int .i64 P.kind, .int .i64 P.level, .int .i64 P.count, .slice (some ⟨g0, 0, none⟩) 248 c] 127)) fun e w' => e = .returned (.int .i64 T.g) ∧ (w1.alloc (.cells #[.int .i64 P.kind, .int .i64 P.level, .int .i64 P.count, .slice (some ⟨g0, 0, none⟩) 248 c] 127)) = w') := by rw [← hT]; exact CG 0 8
  have C1 : Hid (Calls Tryz.prog 96 #[.slice (some ⟨g0, 0, none⟩) 248 c, .int .i64 8, .int .i64 4] (w1.alloc (.cells #[.int .i64 P.kind, .int .i64 P.level, .int .i64 P.count, .slice (some ⟨g0, 0, none⟩) 248 c] 127)) fun e w' => e = .returned (.int .i64 T.p) ∧ (w1.alloc (.cells #[.int .i64 P.kind, .int .i64 P.level, .int .i64 P.count, .slice (some ⟨g0, 0, none⟩) 248 c] 127)) = w') := by rw [← hT]; exact CG 8 4
  have C2 : Hid (Calls Tryz.prog 96 #[.slice (some ⟨g0, 0, none⟩) 248 c, .int .i64 12, .int .i64 4] (w1.alloc (.cells #[.int .i64 P.kind, .int .i64 P.level, .int .i64 P.count, .slice (some ⟨g0, 0, none⟩) 248 c] 127)) fun e w' => e = .returned (.int .i64 T.r) ∧ (w1.alloc (.cells #[.int .i64 P.kind, .int .i64 P.level, .int .i64 P.count, .slice (some ⟨g0, 0, none⟩) 248 c] 127)) = w') := by rw [← hT]; exact CG 12 4
  have C3 : Hid (Calls Tryz.prog 96 #[.slice (some ⟨g0, 0, none⟩) 248 c, .int .i64 16, .int .i64 2] (w1.alloc (.cells #[.int .i64 P.kind, .int .i64 P.level, .int .i64 P.count, .slice (some ⟨g0, 0, none⟩) 248 c] 127)) fun e w' => e = .returned (.int .i64 T.h) ∧ (w1.alloc (.cells #[.int .i64 P.kind, .int .i64 P.level, .int .i64 P.count, .slice (some ⟨g0, 0, none⟩) 248 c] 127)) = w') := by rw [← hT]; exact CG 16 2
  have C4 : Hid (Calls Tryz.prog 96 #[.slice (some ⟨g0, 0, none⟩) 248 c, .int .i64 18, .int .i64 4] (w1.alloc (.cells #[.int .i64 P.kind, .int .i64 P.level, .int .i64 P.count, .slice (some ⟨g0, 0, none⟩) 248 c] 127)) fun e w' => e = .returned (.int .i64 T.b) ∧ (w1.alloc (.cells #[.int .i64 P.kind, .int .i64 P.level, .int .i64 P.count, .slice (some ⟨g0, 0, none⟩) 248 c] 127)) = w') := by rw [← hT]; exact CG 18 4
  have C5 : Hid (Calls Tryz.prog 96 #[.slice (some ⟨g0, 0, none⟩) 248 c, .int .i64 22, .int .i64 4] (w1.alloc (.cells #[.int .i64 P.kind, .int .i64 P.level, .int .i64 P.count, .slice (some ⟨g0, 0, none⟩) 248 c] 127)) fun e w' => e = .returned (.int .i64 T.l) ∧ (w1.alloc (.cells #[.int .i64 P.kind, .int .i64 P.level, .int .i64 P.count, .slice (some ⟨g0, 0, none⟩) 248 c] 127)) = w') := by rw [← hT]; exact CG 22 4
  have C6 : Hid (Calls Tryz.prog 96 #[.slice (some ⟨g0, 0, none⟩) 248 c, .int .i64 26, .int .i64 4] (w1.alloc (.cells #[.int .i64 P.kind, .int .i64 P.level, .int .i64 P.count, .slice (some ⟨g0, 0, none⟩) 248 c] 127)) fun e w' => e = .returned (.int .i64 T.s) ∧ (w1.alloc (.cells #[.int .i64 P.kind, .int .i64 P.level, .int .i64 P.count, .slice (some ⟨g0, 0, none⟩) 248 c] 127)) = w') := by rw [← hT]; exact CG 26 4
  have C7 : Hid (Calls Tryz.prog 96 #[.slice (some ⟨g0, 0, none⟩) 248 c, .int .i64 30, .int .i64 4] (w1.alloc (.cells #[.int .i64 P.kind, .int .i64 P.level, .int .i64 P.count, .slice (some ⟨g0, 0, none⟩) 248 c] 127)) fun e w' => e = .returned (.int .i64 T.f) ∧ (w1.alloc (.cells #[.int .i64 P.kind, .int .i64 P.level, .int .i64 P.count, .slice (some ⟨g0, 0, none⟩) 248 c] 127)) = w') := by rw [← hT]; exact CG 30 4
  clear CG ho hb q hr
  have CN := rnoughts_v g0 0 c 248 34 P.body _ HR2.out hlen (by decide) false hnu
  have q' := HQ.out
  obtain ⟨⟨q0, q1, q2, q3, q4, q5, q6, q7⟩, qf⟩ := q'
  have f0 := qf 0 (by omega)
  have f1 := qf 1 (by omega)
  have f2 := qf 2 (by omega)
  have f3 := qf 3 (by omega)
  have f4 := qf 4 (by omega)
  have f5 := qf 5 (by omega)
  have f6 := qf 6 (by omega)
  have f7 := qf 7 (by omega)
  clear qf
  dsimp only [sp0] at q0 q1 q2 q3 q4 q5 q6 q7
  clear HR2 hT hnu
  go_wp2_with fail
  refine C0.out.mono ?_
  clear C0
  rintro e wx ⟨rfl, rfl⟩
  go_wp2_with fail
  refine C1.out.mono ?_
  clear C1
  rintro e wx ⟨rfl, rfl⟩
  go_wp2_with fail
  refine C2.out.mono ?_
  clear C2
  rintro e wx ⟨rfl, rfl⟩
  go_wp2_with fail
  refine C3.out.mono ?_
  clear C3
  rintro e wx ⟨rfl, rfl⟩
  go_wp2_with fail
  refine C4.out.mono ?_
  clear C4
  rintro e wx ⟨rfl, rfl⟩
  go_wp2_with fail
  refine C5.out.mono ?_
  clear C5
  rintro e wx ⟨rfl, rfl⟩
  go_wp2_with fail
  refine C6.out.mono ?_
  clear C6
  rintro e wx ⟨rfl, rfl⟩
  go_wp2_with fail
  refine C7.out.mono ?_
  clear C7
  rintro e wx ⟨rfl, rfl⟩
  go_wp2_with fail
  refine CN.mono ?_
  clear CN
  rintro e wx ⟨rfl, rfl⟩
  go_wp2
  clear q0 q1 q2 q3 q4 q5 q6 q7 f0 f1 f2 f3 f4 f5 f6 f7
  obtain ⟨q0, q1, q2, q3, q4, q5, q6, q7⟩ := wr8_sl HQ.out.1 sp0
  unfold wr8 at q0 q1 q2 q3 q4 q5 q6 q7
  try dsimp only [sp0] at q0 q1 q2 q3 q4 q5 q6 q7
  refine bodyPost_ret (v := .tuple #[spV sp0, .int .i64 4]) ?_ rfl ⟨rfl, wr8_below HW.out (Nat.le_refl _) sp0⟩
  simp [results, Tryz.results67, go_sem, spV, sp0, q0, q1, q2, q3, q4, q5, q6, q7]

set_option maxHeartbeats 2000000 in
theorem rdec_check (a : Option Addr) (cap n : Nat) (w : World) (P : Pg) (E : Int)
    (C : ∀ o : Obj, Calls Tryz.prog 95 #[.slice a n cap] (w.alloc o) fun e w' => ∃ g c, e = .returned (.tuple #[pgV P g c, .int .i64 E]) ∧ Own (w.alloc o).heap.size w' (.slice g P.body.length c) P.body ∧ Below (w.alloc o).heap.size (w.alloc o) w') (hE : E = 0) (hlen : P.body.length = 248) (hbys : Bys P.body) (T : Sp) (hT : sdL P.body = T) (hk : (P.kind != 1) = false) (hl : (P.level != 0) = false) (hc : (P.count != 0) = false) (hnu : nouB (P.body.drop 34) = true) (hEN : enE T = 1) :
    Calls Tryz.prog 67 #[.slice a n cap] w fun e w' => e = .returned (.tuple #[spV sp0, .int .i64 4]) ∧ Below w.heap.size w w' := by
  subst hE
  dsimp only [spV, sp0]
  dsimp only [pgV] at C
  go_enter Tryz.func67, Tryz.ntmps67
  go_wp2_with fail
  refine (C _).mono ?_
  clear C
  rintro e w1 ⟨g, c, rfl, ho, hb⟩
  have q : Sw8 w1 w.heap.size sp0 := (sw8_new w sp0 28).same (hb.block _ (by simp))
  have HB : Hid (Below w.heap.size w w1) := ((Below.refl _ w).alloc (Nat.le_refl _) _).trans (hb.mono (by simp))
  have HQ : Hid (Sw8 ((w1.alloc (.cells #[.int .i64 P.kind, .int .i64 P.level, .int .i64 P.count, .slice g P.body.length c] 127)).alloc (.cells #[.int .i64 T.g, .int .i64 T.p, .int .i64 T.r, .int .i64 T.h, .int .i64 T.b, .int .i64 T.l, .int .i64 T.s, .int .i64 T.f] 28)) w.heap.size sp0) := (q.alloc _).alloc _
  have HW : Hid (Below w.heap.size w ((w1.alloc (.cells #[.int .i64 P.kind, .int .i64 P.level, .int .i64 P.count, .slice g P.body.length c] 127)).alloc (.cells #[.int .i64 T.g, .int .i64 T.p, .int .i64 T.r, .int .i64 T.h, .int .i64 T.b, .int .i64 T.l, .int .i64 T.s, .int .i64 T.f] 28))) := (HB.out.alloc HB.out.size _).alloc (Nat.le_trans HB.out.size (by simp)) _
  obtain ⟨g0, c0, eg, hx1, hx2, hx3, hx4⟩ := own_at ho 0 (by rw [hlen]; decide)
  clear hx1 hx2 hx3 hx4
  simp only [Value.slice.injEq, true_and] at eg
  obtain ⟨rfl, rfl⟩ := eg
  have hr : Row (w1.alloc (.cells #[.int .i64 P.kind, .int .i64 P.level, .int .i64 P.count, .slice (some ⟨g0, 0, none⟩) P.body.length c] 127)) (some ⟨g0, 0, none⟩) c P.body := (ho.row' hbys).2.below ((Below.refl _ w1).alloc (Nat.le_refl _) _)
  have CG := fun p n => rnumber_any _ _ _ p n _ hr
  have HR2 : Hid (Row ((w1.alloc (.cells #[.int .i64 P.kind, .int .i64 P.level, .int .i64 P.count, .slice (some ⟨g0, 0, none⟩) P.body.length c] 127)).alloc (.cells #[.int .i64 T.g, .int .i64 T.p, .int .i64 T.r, .int .i64 T.h, .int .i64 T.b, .int .i64 T.l, .int .i64 T.s, .int .i64 T.f] 28)) (some ⟨g0, 0, none⟩) c P.body) := hr.below ((Below.refl _ _).alloc (Nat.le_refl _) _)
  rw [hlen] at CG
  rw [hlen] at HR2
  rw [hlen] at HQ HW ⊢
  have C0 : Hid (Calls Tryz.prog 96 #[.slice (some ⟨g0, 0, none⟩) 248 c, .int .i64 0, .int .i64 8] (w1.alloc (.cells #[.int .i64 P.kind, .int .i64 P.level, .int .i64 P.count, .slice (some ⟨g0, 0, none⟩) 248 c] 127)) fun e w' => e = .returned (.int .i64 T.g) ∧ (w1.alloc (.cells #[.int .i64 P.kind, .int .i64 P.level, .int .i64 P.count, .slice (some ⟨g0, 0, none⟩) 248 c] 127)) = w') := by rw [← hT]; exact CG 0 8
  have C1 : Hid (Calls Tryz.prog 96 #[.slice (some ⟨g0, 0, none⟩) 248 c, .int .i64 8, .int .i64 4] (w1.alloc (.cells #[.int .i64 P.kind, .int .i64 P.level, .int .i64 P.count, .slice (some ⟨g0, 0, none⟩) 248 c] 127)) fun e w' => e = .returned (.int .i64 T.p) ∧ (w1.alloc (.cells #[.int .i64 P.kind, .int .i64 P.level, .int .i64 P.count, .slice (some ⟨g0, 0, none⟩) 248 c] 127)) = w') := by rw [← hT]; exact CG 8 4
  have C2 : Hid (Calls Tryz.prog 96 #[.slice (some ⟨g0, 0, none⟩) 248 c, .int .i64 12, .int .i64 4] (w1.alloc (.cells #[.int .i64 P.kind, .int .i64 P.level, .int .i64 P.count, .slice (some ⟨g0, 0, none⟩) 248 c] 127)) fun e w' => e = .returned (.int .i64 T.r) ∧ (w1.alloc (.cells #[.int .i64 P.kind, .int .i64 P.level, .int .i64 P.count, .slice (some ⟨g0, 0, none⟩) 248 c] 127)) = w') := by rw [← hT]; exact CG 12 4
  have C3 : Hid (Calls Tryz.prog 96 #[.slice (some ⟨g0, 0, none⟩) 248 c, .int .i64 16, .int .i64 2] (w1.alloc (.cells #[.int .i64 P.kind, .int .i64 P.level, .int .i64 P.count, .slice (some ⟨g0, 0, none⟩) 248 c] 127)) fun e w' => e = .returned (.int .i64 T.h) ∧ (w1.alloc (.cells #[.int .i64 P.kind, .int .i64 P.level, .int .i64 P.count, .slice (some ⟨g0, 0, none⟩) 248 c] 127)) = w') := by rw [← hT]; exact CG 16 2
  have C4 : Hid (Calls Tryz.prog 96 #[.slice (some ⟨g0, 0, none⟩) 248 c, .int .i64 18, .int .i64 4] (w1.alloc (.cells #[.int .i64 P.kind, .int .i64 P.level, .int .i64 P.count, .slice (some ⟨g0, 0, none⟩) 248 c] 127)) fun e w' => e = .returned (.int .i64 T.b) ∧ (w1.alloc (.cells #[.int .i64 P.kind, .int .i64 P.level, .int .i64 P.count, .slice (some ⟨g0, 0, none⟩) 248 c] 127)) = w') := by rw [← hT]; exact CG 18 4
  have C5 : Hid (Calls Tryz.prog 96 #[.slice (some ⟨g0, 0, none⟩) 248 c, .int .i64 22, .int .i64 4] (w1.alloc (.cells #[.int .i64 P.kind, .int .i64 P.level, .int .i64 P.count, .slice (some ⟨g0, 0, none⟩) 248 c] 127)) fun e w' => e = .returned (.int .i64 T.l) ∧ (w1.alloc (.cells #[.int .i64 P.kind, .int .i64 P.level, .int .i64 P.count, .slice (some ⟨g0, 0, none⟩) 248 c] 127)) = w') := by rw [← hT]; exact CG 22 4
  have C6 : Hid (Calls Tryz.prog 96 #[.slice (some ⟨g0, 0, none⟩) 248 c, .int .i64 26, .int .i64 4] (w1.alloc (.cells #[.int .i64 P.kind, .int .i64 P.level, .int .i64 P.count, .slice (some ⟨g0, 0, none⟩) 248 c] 127)) fun e w' => e = .returned (.int .i64 T.s) ∧ (w1.alloc (.cells #[.int .i64 P.kind, .int .i64 P.level, .int .i64 P.count, .slice (some ⟨g0, 0, none⟩) 248 c] 127)) = w') := by rw [← hT]; exact CG 26 4
  have C7 : Hid (Calls Tryz.prog 96 #[.slice (some ⟨g0, 0, none⟩) 248 c, .int .i64 30, .int .i64 4] (w1.alloc (.cells #[.int .i64 P.kind, .int .i64 P.level, .int .i64 P.count, .slice (some ⟨g0, 0, none⟩) 248 c] 127)) fun e w' => e = .returned (.int .i64 T.f) ∧ (w1.alloc (.cells #[.int .i64 P.kind, .int .i64 P.level, .int .i64 P.count, .slice (some ⟨g0, 0, none⟩) 248 c] 127)) = w') := by rw [← hT]; exact CG 30 4
  clear CG ho hb q hr
  have CN := rnoughts_v g0 0 c 248 34 P.body _ HR2.out hlen (by decide) true hnu
  have CK := rcheck_any T ((w1.alloc (.cells #[.int .i64 P.kind, .int .i64 P.level, .int .i64 P.count, .slice (some ⟨g0, 0, none⟩) 248 c] 127)).alloc (.cells #[.int .i64 T.g, .int .i64 T.p, .int .i64 T.r, .int .i64 T.h, .int .i64 T.b, .int .i64 T.l, .int .i64 T.s, .int .i64 T.f] 28))
  rw [hEN] at CK
  dsimp only [spV] at CK
  have HS : Hid (Sl8 ((w1.alloc (.cells #[.int .i64 P.kind, .int .i64 P.level, .int .i64 P.count, .slice (some ⟨g0, 0, none⟩) 248 c] 127)).alloc (.cells #[.int .i64 T.g, .int .i64 T.p, .int .i64 T.r, .int .i64 T.h, .int .i64 T.b, .int .i64 T.l, .int .i64 T.s, .int .i64 T.f] 28)) (w1.heap.size + 1) T) := by
    show Sl8 _ _ _
    have := sl8_new (w1.alloc (.cells #[.int .i64 P.kind, .int .i64 P.level, .int .i64 P.count, .slice (some ⟨g0, 0, none⟩) 248 c] 127)) T 28
    simpa using this
  clear HR2 hT hnu hEN
  go_wp2_with fail
  refine C0.out.mono ?_
  clear C0
  rintro e wx ⟨rfl, rfl⟩
  go_wp2_with fail
  refine C1.out.mono ?_
  clear C1
  rintro e wx ⟨rfl, rfl⟩
  go_wp2_with fail
  refine C2.out.mono ?_
  clear C2
  rintro e wx ⟨rfl, rfl⟩
  go_wp2_with fail
  refine C3.out.mono ?_
  clear C3
  rintro e wx ⟨rfl, rfl⟩
  go_wp2_with fail
  refine C4.out.mono ?_
  clear C4
  rintro e wx ⟨rfl, rfl⟩
  go_wp2_with fail
  refine C5.out.mono ?_
  clear C5
  rintro e wx ⟨rfl, rfl⟩
  go_wp2_with fail
  refine C6.out.mono ?_
  clear C6
  rintro e wx ⟨rfl, rfl⟩
  go_wp2_with fail
  refine C7.out.mono ?_
  clear C7
  rintro e wx ⟨rfl, rfl⟩
  go_wp2_with fail
  refine CN.mono ?_
  clear CN
  rintro e wx ⟨rfl, rfl⟩
  go_wp2_with fail
  refine CK.mono ?_
  clear CK
  rintro e w4 ⟨rfl, hb4⟩
  have q' := HQ.out.below hb4
  have hs4 := HS.out.below hb4
  have HB4 : Hid (Below w.heap.size w w4) := HW.out.trans (hb4.mono HW.out.size)
  have HQ4 : Hid (Sl8 w4 w.heap.size sp0) := q'.1
  obtain ⟨k0, k1, k2, k3, k4, k5, k6, k7⟩ := hs4
  clear hb4
  obtain ⟨⟨q0, q1, q2, q3, q4, q5, q6, q7⟩, qf⟩ := q'
  have f0 := qf 0 (by omega)
  have f1 := qf 1 (by omega)
  have f2 := qf 2 (by omega)
  have f3 := qf 3 (by omega)
  have f4 := qf 4 (by omega)
  have f5 := qf 5 (by omega)
  have f6 := qf 6 (by omega)
  have f7 := qf 7 (by omega)
  clear qf
  dsimp only [sp0] at q0 q1 q2 q3 q4 q5 q6 q7
  go_wp2
  clear k0 k1 k2 k3 k4 k5 k6 k7
  clear q0 q1 q2 q3 q4 q5 q6 q7 f0 f1 f2 f3 f4 f5 f6 f7
  obtain ⟨q0, q1, q2, q3, q4, q5, q6, q7⟩ := wr8_sl HQ4.out sp0
  unfold wr8 at q0 q1 q2 q3 q4 q5 q6 q7
  try dsimp only [sp0] at q0 q1 q2 q3 q4 q5 q6 q7
  refine bodyPost_ret (v := .tuple #[spV sp0, .int .i64 4]) ?_ rfl ⟨rfl, wr8_below HB4.out (Nat.le_refl _) sp0⟩
  simp [results, Tryz.results67, go_sem, spV, sp0, q0, q1, q2, q3, q4, q5, q6, q7]

set_option maxHeartbeats 2000000 in
theorem rdec_good (a : Option Addr) (cap n : Nat) (w : World) (P : Pg) (E : Int)
    (C : ∀ o : Obj, Calls Tryz.prog 95 #[.slice a n cap] (w.alloc o) fun e w' => ∃ g c, e = .returned (.tuple #[pgV P g c, .int .i64 E]) ∧ Own (w.alloc o).heap.size w' (.slice g P.body.length c) P.body ∧ Below (w.alloc o).heap.size (w.alloc o) w') (hE : E = 0) (hlen : P.body.length = 248) (hbys : Bys P.body) (T : Sp) (hT : sdL P.body = T) (hk : (P.kind != 1) = false) (hl : (P.level != 0) = false) (hc : (P.count != 0) = false) (hnu : nouB (P.body.drop 34) = true) (hEN : enE T = 0) :
    Calls Tryz.prog 67 #[.slice a n cap] w fun e w' => e = .returned (.tuple #[spV T, .int .i64 0]) ∧ Below w.heap.size w w' := by
  subst hE
  dsimp only [spV, sp0]
  dsimp only [pgV] at C
  go_enter Tryz.func67, Tryz.ntmps67
  go_wp2_with fail
  refine (C _).mono ?_
  clear C
  rintro e w1 ⟨g, c, rfl, ho, hb⟩
  have q : Sw8 w1 w.heap.size sp0 := (sw8_new w sp0 28).same (hb.block _ (by simp))
  have HB : Hid (Below w.heap.size w w1) := ((Below.refl _ w).alloc (Nat.le_refl _) _).trans (hb.mono (by simp))
  have HQ : Hid (Sw8 ((w1.alloc (.cells #[.int .i64 P.kind, .int .i64 P.level, .int .i64 P.count, .slice g P.body.length c] 127)).alloc (.cells #[.int .i64 T.g, .int .i64 T.p, .int .i64 T.r, .int .i64 T.h, .int .i64 T.b, .int .i64 T.l, .int .i64 T.s, .int .i64 T.f] 28)) w.heap.size sp0) := (q.alloc _).alloc _
  have HW : Hid (Below w.heap.size w ((w1.alloc (.cells #[.int .i64 P.kind, .int .i64 P.level, .int .i64 P.count, .slice g P.body.length c] 127)).alloc (.cells #[.int .i64 T.g, .int .i64 T.p, .int .i64 T.r, .int .i64 T.h, .int .i64 T.b, .int .i64 T.l, .int .i64 T.s, .int .i64 T.f] 28))) := (HB.out.alloc HB.out.size _).alloc (Nat.le_trans HB.out.size (by simp)) _
  obtain ⟨g0, c0, eg, hx1, hx2, hx3, hx4⟩ := own_at ho 0 (by rw [hlen]; decide)
  clear hx1 hx2 hx3 hx4
  simp only [Value.slice.injEq, true_and] at eg
  obtain ⟨rfl, rfl⟩ := eg
  have hr : Row (w1.alloc (.cells #[.int .i64 P.kind, .int .i64 P.level, .int .i64 P.count, .slice (some ⟨g0, 0, none⟩) P.body.length c] 127)) (some ⟨g0, 0, none⟩) c P.body := (ho.row' hbys).2.below ((Below.refl _ w1).alloc (Nat.le_refl _) _)
  have CG := fun p n => rnumber_any _ _ _ p n _ hr
  have HR2 : Hid (Row ((w1.alloc (.cells #[.int .i64 P.kind, .int .i64 P.level, .int .i64 P.count, .slice (some ⟨g0, 0, none⟩) P.body.length c] 127)).alloc (.cells #[.int .i64 T.g, .int .i64 T.p, .int .i64 T.r, .int .i64 T.h, .int .i64 T.b, .int .i64 T.l, .int .i64 T.s, .int .i64 T.f] 28)) (some ⟨g0, 0, none⟩) c P.body) := hr.below ((Below.refl _ _).alloc (Nat.le_refl _) _)
  rw [hlen] at CG
  rw [hlen] at HR2
  rw [hlen] at HQ HW ⊢
  have C0 : Hid (Calls Tryz.prog 96 #[.slice (some ⟨g0, 0, none⟩) 248 c, .int .i64 0, .int .i64 8] (w1.alloc (.cells #[.int .i64 P.kind, .int .i64 P.level, .int .i64 P.count, .slice (some ⟨g0, 0, none⟩) 248 c] 127)) fun e w' => e = .returned (.int .i64 T.g) ∧ (w1.alloc (.cells #[.int .i64 P.kind, .int .i64 P.level, .int .i64 P.count, .slice (some ⟨g0, 0, none⟩) 248 c] 127)) = w') := by rw [← hT]; exact CG 0 8
  have C1 : Hid (Calls Tryz.prog 96 #[.slice (some ⟨g0, 0, none⟩) 248 c, .int .i64 8, .int .i64 4] (w1.alloc (.cells #[.int .i64 P.kind, .int .i64 P.level, .int .i64 P.count, .slice (some ⟨g0, 0, none⟩) 248 c] 127)) fun e w' => e = .returned (.int .i64 T.p) ∧ (w1.alloc (.cells #[.int .i64 P.kind, .int .i64 P.level, .int .i64 P.count, .slice (some ⟨g0, 0, none⟩) 248 c] 127)) = w') := by rw [← hT]; exact CG 8 4
  have C2 : Hid (Calls Tryz.prog 96 #[.slice (some ⟨g0, 0, none⟩) 248 c, .int .i64 12, .int .i64 4] (w1.alloc (.cells #[.int .i64 P.kind, .int .i64 P.level, .int .i64 P.count, .slice (some ⟨g0, 0, none⟩) 248 c] 127)) fun e w' => e = .returned (.int .i64 T.r) ∧ (w1.alloc (.cells #[.int .i64 P.kind, .int .i64 P.level, .int .i64 P.count, .slice (some ⟨g0, 0, none⟩) 248 c] 127)) = w') := by rw [← hT]; exact CG 12 4
  have C3 : Hid (Calls Tryz.prog 96 #[.slice (some ⟨g0, 0, none⟩) 248 c, .int .i64 16, .int .i64 2] (w1.alloc (.cells #[.int .i64 P.kind, .int .i64 P.level, .int .i64 P.count, .slice (some ⟨g0, 0, none⟩) 248 c] 127)) fun e w' => e = .returned (.int .i64 T.h) ∧ (w1.alloc (.cells #[.int .i64 P.kind, .int .i64 P.level, .int .i64 P.count, .slice (some ⟨g0, 0, none⟩) 248 c] 127)) = w') := by rw [← hT]; exact CG 16 2
  have C4 : Hid (Calls Tryz.prog 96 #[.slice (some ⟨g0, 0, none⟩) 248 c, .int .i64 18, .int .i64 4] (w1.alloc (.cells #[.int .i64 P.kind, .int .i64 P.level, .int .i64 P.count, .slice (some ⟨g0, 0, none⟩) 248 c] 127)) fun e w' => e = .returned (.int .i64 T.b) ∧ (w1.alloc (.cells #[.int .i64 P.kind, .int .i64 P.level, .int .i64 P.count, .slice (some ⟨g0, 0, none⟩) 248 c] 127)) = w') := by rw [← hT]; exact CG 18 4
  have C5 : Hid (Calls Tryz.prog 96 #[.slice (some ⟨g0, 0, none⟩) 248 c, .int .i64 22, .int .i64 4] (w1.alloc (.cells #[.int .i64 P.kind, .int .i64 P.level, .int .i64 P.count, .slice (some ⟨g0, 0, none⟩) 248 c] 127)) fun e w' => e = .returned (.int .i64 T.l) ∧ (w1.alloc (.cells #[.int .i64 P.kind, .int .i64 P.level, .int .i64 P.count, .slice (some ⟨g0, 0, none⟩) 248 c] 127)) = w') := by rw [← hT]; exact CG 22 4
  have C6 : Hid (Calls Tryz.prog 96 #[.slice (some ⟨g0, 0, none⟩) 248 c, .int .i64 26, .int .i64 4] (w1.alloc (.cells #[.int .i64 P.kind, .int .i64 P.level, .int .i64 P.count, .slice (some ⟨g0, 0, none⟩) 248 c] 127)) fun e w' => e = .returned (.int .i64 T.s) ∧ (w1.alloc (.cells #[.int .i64 P.kind, .int .i64 P.level, .int .i64 P.count, .slice (some ⟨g0, 0, none⟩) 248 c] 127)) = w') := by rw [← hT]; exact CG 26 4
  have C7 : Hid (Calls Tryz.prog 96 #[.slice (some ⟨g0, 0, none⟩) 248 c, .int .i64 30, .int .i64 4] (w1.alloc (.cells #[.int .i64 P.kind, .int .i64 P.level, .int .i64 P.count, .slice (some ⟨g0, 0, none⟩) 248 c] 127)) fun e w' => e = .returned (.int .i64 T.f) ∧ (w1.alloc (.cells #[.int .i64 P.kind, .int .i64 P.level, .int .i64 P.count, .slice (some ⟨g0, 0, none⟩) 248 c] 127)) = w') := by rw [← hT]; exact CG 30 4
  clear CG ho hb q hr
  have CN := rnoughts_v g0 0 c 248 34 P.body _ HR2.out hlen (by decide) true hnu
  have CK := rcheck_any T ((w1.alloc (.cells #[.int .i64 P.kind, .int .i64 P.level, .int .i64 P.count, .slice (some ⟨g0, 0, none⟩) 248 c] 127)).alloc (.cells #[.int .i64 T.g, .int .i64 T.p, .int .i64 T.r, .int .i64 T.h, .int .i64 T.b, .int .i64 T.l, .int .i64 T.s, .int .i64 T.f] 28))
  rw [hEN] at CK
  dsimp only [spV] at CK
  have HS : Hid (Sl8 ((w1.alloc (.cells #[.int .i64 P.kind, .int .i64 P.level, .int .i64 P.count, .slice (some ⟨g0, 0, none⟩) 248 c] 127)).alloc (.cells #[.int .i64 T.g, .int .i64 T.p, .int .i64 T.r, .int .i64 T.h, .int .i64 T.b, .int .i64 T.l, .int .i64 T.s, .int .i64 T.f] 28)) (w1.heap.size + 1) T) := by
    show Sl8 _ _ _
    have := sl8_new (w1.alloc (.cells #[.int .i64 P.kind, .int .i64 P.level, .int .i64 P.count, .slice (some ⟨g0, 0, none⟩) 248 c] 127)) T 28
    simpa using this
  clear HR2 hT hnu hEN
  go_wp2_with fail
  refine C0.out.mono ?_
  clear C0
  rintro e wx ⟨rfl, rfl⟩
  go_wp2_with fail
  refine C1.out.mono ?_
  clear C1
  rintro e wx ⟨rfl, rfl⟩
  go_wp2_with fail
  refine C2.out.mono ?_
  clear C2
  rintro e wx ⟨rfl, rfl⟩
  go_wp2_with fail
  refine C3.out.mono ?_
  clear C3
  rintro e wx ⟨rfl, rfl⟩
  go_wp2_with fail
  refine C4.out.mono ?_
  clear C4
  rintro e wx ⟨rfl, rfl⟩
  go_wp2_with fail
  refine C5.out.mono ?_
  clear C5
  rintro e wx ⟨rfl, rfl⟩
  go_wp2_with fail
  refine C6.out.mono ?_
  clear C6
  rintro e wx ⟨rfl, rfl⟩
  go_wp2_with fail
  refine C7.out.mono ?_
  clear C7
  rintro e wx ⟨rfl, rfl⟩
  go_wp2_with fail
  refine CN.mono ?_
  clear CN
  rintro e wx ⟨rfl, rfl⟩
  go_wp2_with fail
  refine CK.mono ?_
  clear CK
  rintro e w4 ⟨rfl, hb4⟩
  have q' := HQ.out.below hb4
  have hs4 := HS.out.below hb4
  have HB4 : Hid (Below w.heap.size w w4) := HW.out.trans (hb4.mono HW.out.size)
  have HQ4 : Hid (Sl8 w4 w.heap.size sp0) := q'.1
  obtain ⟨k0, k1, k2, k3, k4, k5, k6, k7⟩ := hs4
  clear hb4
  obtain ⟨⟨q0, q1, q2, q3, q4, q5, q6, q7⟩, qf⟩ := q'
  have f0 := qf 0 (by omega)
  have f1 := qf 1 (by omega)
  have f2 := qf 2 (by omega)
  have f3 := qf 3 (by omega)
  have f4 := qf 4 (by omega)
  have f5 := qf 5 (by omega)
  have f6 := qf 6 (by omega)
  have f7 := qf 7 (by omega)
  clear qf
  dsimp only [sp0] at q0 q1 q2 q3 q4 q5 q6 q7
  go_wp2
  clear k0 k1 k2 k3 k4 k5 k6 k7
  clear q0 q1 q2 q3 q4 q5 q6 q7 f0 f1 f2 f3 f4 f5 f6 f7
  obtain ⟨q0, q1, q2, q3, q4, q5, q6, q7⟩ := wr8_sl HQ4.out T
  unfold wr8 at q0 q1 q2 q3 q4 q5 q6 q7
  try dsimp only [sp0] at q0 q1 q2 q3 q4 q5 q6 q7
  refine bodyPost_ret (v := .tuple #[spV T, .int .i64 0]) ?_ rfl ⟨rfl, wr8_below HB4.out (Nat.le_refl _) T⟩
  simp [results, Tryz.results67, go_sem, spV, q0, q1, q2, q3, q4, q5, q6, q7]

theorem rdecode_v (a : Option Addr) (cap n : Nat) (zs : List Int) (w : World) (h : Row w a cap zs) (hn : zs.length = n) (T : Sp) (hT : deS zs = T) (E : Int) (hE : deE zs = E) :
    Calls Tryz.prog 67 #[.slice a n cap] w fun e w' => e = .returned (.tuple #[spV T, .int .i64 E]) ∧ Below w.heap.size w w' := by
  subst hT hE
  have C : ∀ o : Obj, Calls Tryz.prog 95 #[.slice a n cap] (w.alloc o) fun e w' => ∃ g c, e = .returned (.tuple #[pgV (opP zs) g c, .int .i64 (opE zs)]) ∧ Own (w.alloc o).heap.size w' (.slice g (opP zs).body.length c) (opP zs).body ∧ Below (w.alloc o).heap.size (w.alloc o) w' := fun o => ropen_v a cap n zs _ (h.below ((Below.refl _ w).alloc (Nat.le_refl _) o)) hn _ rfl _ rfl
  by_cases ho : opE zs = 0
  · have hlen : (opP zs).body.length = 248 := (seal_open h.1 ho).2.2.2
    have hbys : Bys (opP zs).body := opP_bys h.1
    have bad : deB (opP zs) = false → (deS zs = sp0 ∧ deE zs = 4) := fun hB => ⟨(de_bad ho hB).2, (de_bad ho hB).1⟩
    by_cases hk : (opP zs).kind = 1
    rotate_left
    · obtain ⟨e1, e2⟩ := bad (by unfold deB; simp [hk])
      rw [e1, e2]
      exact rdec_kind a cap n w _ _ C ho hlen hbys _ rfl (by simpa using hk)
    by_cases hl : (opP zs).level = 0
    rotate_left
    · obtain ⟨e1, e2⟩ := bad (by unfold deB; simp [hl])
      rw [e1, e2]
      exact rdec_level a cap n w _ _ C ho hlen hbys _ rfl (by simpa using hk) (by simpa using hl)
    by_cases hc : (opP zs).count = 0
    rotate_left
    · obtain ⟨e1, e2⟩ := bad (by unfold deB; simp [hc])
      rw [e1, e2]
      exact rdec_count a cap n w _ _ C ho hlen hbys _ rfl (by simpa using hk) (by simpa using hl) (by simpa using hc)
    cases hr : nouB ((opP zs).body.drop 34)
    · obtain ⟨e1, e2⟩ := bad (by unfold deB; rw [hr]; simp)
      rw [e1, e2]
      exact rdec_nou a cap n w _ _ C ho hlen hbys _ rfl (by simpa using hk) (by simpa using hl) (by simpa using hc) hr
    cases hok : okS (sdL (opP zs).body)
    · obtain ⟨e1, e2⟩ := bad (by unfold deB; rw [hok]; simp)
      rw [e1, e2]
      exact rdec_check a cap n w _ _ C ho hlen hbys _ rfl (by simpa using hk) (by simpa using hl) (by simpa using hc) hr (by unfold enE; rw [hok]; rfl)
    · obtain ⟨e1, e2⟩ := de_good ho (by unfold deB; rw [hok, hr]; simp [hk, hl, hc])
      rw [e1, e2]
      exact rdec_good a cap n w _ _ C ho hlen hbys _ rfl (by simpa using hk) (by simpa using hl) (by simpa using hc) hr (by unfold enE; rw [hok]; rfl)
  · obtain ⟨e1, e2⟩ := de_no ho
    rw [e1, e2]
    exact rdec_err a cap n w _ _ C (by simpa using ho)
end Go.Proofs.YtjllhcifmfhkmaaGreat.Oct
