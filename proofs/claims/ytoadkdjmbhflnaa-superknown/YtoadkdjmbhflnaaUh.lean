/-
  The document's EncodeSuper.
-/
import Derived.Test.YtoadkdjmbhflnaaUe
import Derived.Test.YtoadkdjmbhflnaaUg
namespace Go.Proofs.Ytoadkdjmbhflnaa.Oct
open Go.RowKit

theorem rput8 (x : Int) (w : World) (hf : fitB 8 x = true) :
    Calls Try.prog 21 #[.int .i64 8, .int .i64 x] w fun e w' => ∃ g cap, e = .returned (.slice (some ⟨g, 0, none⟩) 8 cap) ∧ Own w.heap.size w' (.slice (some ⟨g, 0, none⟩) 8 cap) (nums 8 x.toNat) ∧ Below w.heap.size w w' :=
  rput_any 8 x w (by omega) (by omega) hf

set_option maxHeartbeats 2000000 in
set_option maxRecDepth 20000 in
theorem rencode_v (S : Sp) (w : World) (E : Int) (hE : enE S = E) (Z : List Int) (hZ : enZ S = Z) (n : Nat) (hn : Z.length = n) :
    Calls Try.prog 10 #[spV S] w fun e w' => ∃ g c, e = .returned (.tuple #[.slice g n c, .int .i64 E]) ∧ Own w.heap.size w' (.slice g n c) Z ∧ Below w.heap.size w w' := by
  have hc := rcheck_any S
  rw [hE] at hc
  cases ho : okS S
  · have e1 : E = 1 := by rw [← hE]; unfold enE; rw [ho]; rfl
    have e2 : Z = [] := by rw [← hZ]; unfold enZ; rw [ho]; rfl
    subst e1
    subst e2
    have e3 : n = 0 := hn.symm
    subst e3
    have HC : Hid _ := hc
    clear hc hE hZ ho hn
    dsimp only [spV] at HC ⊢
    go_enter Try.func10, Try.ntmps10
    go_wp2_with fail
    refine (HC.out _).mono ?_
    rintro e w1 ⟨rfl, hb⟩
    have HB : Hid (Below w.heap.size w w1) := ((Below.refl _ w).alloc (Nat.le_refl _) _).trans (hb.mono (by simp))
    clear hb
    go_wp2
    go_ret2
    exact ⟨_, _, rfl, World.ownsRow_nil _ _ _ _, HB.out⟩
  · have e1 : E = 0 := by rw [← hE]; unfold enE; rw [ho]; rfl
    have e2 : Z = sealL (pgS S) := by rw [← hZ]; unfold enZ; rw [ho]; rfl
    have e3 : n = 256 := by rw [← hn, ← hZ, enZ_len, ho]; rfl
    subst e1
    subst e2
    subst e3
    have HC : Hid (∀ w1, Calls Try.prog 15 #[spV S] w1 fun e w' => e = .returned (.int .i64 0) ∧ Below w1.heap.size w1 w') := hc
    have HSE : Hid (∀ g c w1, Row w1 g c (preS S 8) → (g = none → c = 0) → Calls Try.prog 22 #[.agg #[.int .i64 1, .int .i64 0, .int .i64 0, .slice g 34 c]] w1 fun e w' => ∃ g' c', e = .returned (.tuple #[.slice g' 256 c', .int .i64 0]) ∧ Own w1.heap.size w' (.slice g' 256 c') (sealL (pgS S)) ∧ Below w1.heap.size w1 w') := fun g c w1 hr hnil => by
      have q1 := pgS_ok S
      have hz : sealZ (pgS S) = sealL (pgS S) := by unfold sealZ; rw [if_pos q1]
      have := rseal_v (pgS S) g c w1 hr hnil 0 q1 _ hz 256 (by rw [← hZ, enZ_len, ho]; rfl)
      dsimp only [pgV, pgS] at this
      rw [preS_len S 8 (by omega)] at this
      exact this
    have HOK : Hid (okS S = true) := ho
    clear hc hE hZ ho hn
    dsimp only [spV] at HC ⊢
    go_enter Try.func10, Try.ntmps10
    go_wp2_with fail
    refine (HC.out _).mono ?_
    rintro e w1 ⟨rfl, hb⟩
    have HB1 : Hid (Below w.heap.size w w1) := ((Below.refl _ w).alloc (Nat.le_refl _) _).trans (hb.mono (by simp))
    have Q1 : Hid (Sl8 w1 w.heap.size S) := (sl8_new w S 28).below hb
    clear hb HC
    have FK : Hid (∀ k, k < 8 → fitB (wdS k : Nat) (atS S k) = true) := fun k hk => fit_all HOK.out hk
    have BY : Hid (∀ k, Bys (preS S k)) := preS_bys S
    have LN : Hid (∀ k, k ≤ 8 → (preS S k).length = ofS k) := preS_len S
    have HZ1 : Hid (w.heap.size < w1.heap.size) := Q1.out.lt
    go_wp2_with fail
    have tok1 : True := trivial
    go_region_held3 (fun w' => w'.cell? ⟨w.heap.size, 0, none⟩ = some (.int .i64 S.g) ∧ w'.cell? ⟨w.heap.size, 1, none⟩ = some (.int .i64 S.p)) (first | exact ⟨Q1.out.1, Q1.out.2.1⟩ | exact ⟨q4.out.1, q4.out.2.1⟩ | exact ⟨q3.out.1, q3.out.2.1⟩ | exact ⟨q2.out.1, q2.out.2.1⟩ | go_keep) (first
      | (go_at_call 21; have _t := tok1; refine (rput8 S.g w1.drew (FK.out 0 (by omega))).mono ?_; rintro e w2 ⟨g2, c2, rfl, ho2, hb2⟩; have HB2 : Hid (Below w1.heap.size w1 w2) := (Below.refl w1.heap.size w1).drew.trans (hb2.mono (Nat.le_refl _)); have q2 : Hid (Sl8 w2 w.heap.size S) := Q1.out.below HB2.out; have HO2 : Hid (Own w1.heap.size w2 (.slice (some ⟨g2, 0, none⟩) 8 c2) (nums 8 S.g.toNat)) := ho2; clear hb2 ho2 tok1 _t)
      | (go_at_call 21; refine (rput4 S.p w2 (FK.out 1 (by omega))).mono ?_; rintro e w3 ⟨g3, c3, rfl, ho3, hb3⟩; have q3 : Hid (Sl8 w3 w.heap.size S) := q2.out.below hb3; have HB3 : Hid (Below w1.heap.size w1 w3) := HB2.out.trans (hb3.mono HB2.out.size); have HO3 : Hid (Own w2.heap.size w3 (.slice (some ⟨g3, 0, none⟩) 4 c3) (nums 4 S.p.toNat)) := ho3; have HP3 : Hid (Own w1.heap.size w3 (.slice (some ⟨g2, 0, none⟩) 8 c2) (nums 8 S.g.toNat)) := HO2.out.below' hb3; clear hb3 ho3)
      | (have _t := HP3; clear _t; refine step_append_bytes (by rfl) (.tmp 13) (.tmp 16) (by rfl) w1.heap.size _ (nums 8 S.g.toNat) (by rfl) HP3.out ⟨g3, 0, none⟩ (nums 4 S.p.toNat) 4 c3 (by rfl) (by rw [nums_len]) (by omega) (HO3.out.row' (nums_bys _ _)).2 (by rw [nums_len, nums_len]; omega) HB3.out.size 12 (by rw [nums_len, nums_len]) ?_; intro g4 c4 w4 ho4 hb4; have q4 : Hid (Sl8 w4 w.heap.size S) := Q1.out.below (HB3.out.trans hb4); have HB4 : Hid (Below w1.heap.size w1 w4) := HB3.out.trans hb4; have HO4 : Hid (Own w1.heap.size w4 (.slice (some ⟨g4, 0, none⟩) 12 c4) (preS S 2)) := ho4; clear hb4 ho4))
    clear q2 q3 HO2 HP3 HO3 HB2 HB3
    have HA4 : Hid (∃ a, (some (⟨g4, 0, none⟩ : Addr)) = a) := ⟨_, rfl⟩
    have d2 : w4.cell? ⟨w.heap.size, 2, none⟩ = some (.int .i64 S.r) := q4.out.2.2.1
    go_wp2_with fail
    refine (rput4 S.r w4 (FK.out 2 (by omega))).mono ?_
    rintro e w5 ⟨g5, c5, rfl, ho, hb⟩
    have HB5 : Hid (Below w1.heap.size w1 w5) := HB4.out.trans (hb.mono HB4.out.size)
    have HO5 : Hid (Own w4.heap.size w5 (.slice (some ⟨g5, 0, none⟩) 4 c5) (nums 4 S.r.toNat)) := ho
    have HP5 : Hid (Own w1.heap.size w5 (.slice (some ⟨g4, 0, none⟩) 12 c4) (preS S 2)) := HO4.out.below' hb
    clear hb ho d2
    go_wp2_with (at_builtin; have _t := HP5; refine append_row rfl _ _ rfl w1.heap.size _ (preS S 2) rfl HP5.out (some ⟨g5, 0, none⟩) (nums 4 S.r.toNat) c5 (by rw [nums_len]; rfl) (HO5.out.row' (nums_bys _ _)).2 (by intro e; cases e) (by rw [LN.out 2 (by omega), nums_len]; decide) HB5.out.size ?_; intro v w6 ho hb; obtain ⟨a6, c6, hv, _⟩ := Own.row (zs := preS S 3) ho (BY.out 3); rw [LN.out 3 (by omega), show ofS 3 = 16 from rfl] at hv; subst hv; have HB6 : Hid (Below w1.heap.size w1 w6) := HB5.out.trans hb; have HO6 : Hid (Own w1.heap.size w6 (.slice a6 16 c6) (preS S 3)) := ho; have q6 : Hid (Sl8 w6 w.heap.size S) := Q1.out.below HB6.out; have d3 : w6.cell? ⟨w.heap.size, 3, none⟩ = some (.int .i64 S.h) := q6.out.2.2.2.1; clear _t ho hb HP5 HO5 HB5)
    clear q4 HB4 HO4
    refine (rput2 S.h w6 (FK.out 3 (by omega))).mono ?_
    rintro e w7 ⟨g7, c7, rfl, ho, hb⟩
    have HB7 : Hid (Below w1.heap.size w1 w7) := HB6.out.trans (hb.mono HB6.out.size)
    have HO7 : Hid (Own w6.heap.size w7 (.slice (some ⟨g7, 0, none⟩) 2 c7) (nums 2 S.h.toNat)) := ho
    have HP7 : Hid (Own w1.heap.size w7 (.slice a6 16 c6) (preS S 3)) := HO6.out.below' hb
    clear hb ho d3
    go_wp2_with (at_builtin; have _t := HP7; refine append_row rfl _ _ rfl w1.heap.size _ (preS S 3) rfl HP7.out (some ⟨g7, 0, none⟩) (nums 2 S.h.toNat) c7 (by rw [nums_len]; rfl) (HO7.out.row' (nums_bys _ _)).2 (by intro e; cases e) (by rw [LN.out 3 (by omega), nums_len]; decide) HB7.out.size ?_; intro v w8 ho hb; obtain ⟨a8, c8, hv, _⟩ := Own.row (zs := preS S 4) ho (BY.out 4); rw [LN.out 4 (by omega), show ofS 4 = 18 from rfl] at hv; subst hv; have HB8 : Hid (Below w1.heap.size w1 w8) := HB7.out.trans hb; have HO8 : Hid (Own w1.heap.size w8 (.slice a8 18 c8) (preS S 4)) := ho; have q8 : Hid (Sl8 w8 w.heap.size S) := Q1.out.below HB8.out; have d4 : w8.cell? ⟨w.heap.size, 4, none⟩ = some (.int .i64 S.b) := q8.out.2.2.2.2.1; clear _t ho hb HP7 HO7 HB7)
    clear q6 HB6 HO6
    refine (rput4 S.b w8 (FK.out 4 (by omega))).mono ?_
    rintro e w9 ⟨g9, c9, rfl, ho, hb⟩
    have HB9 : Hid (Below w1.heap.size w1 w9) := HB8.out.trans (hb.mono HB8.out.size)
    have HO9 : Hid (Own w8.heap.size w9 (.slice (some ⟨g9, 0, none⟩) 4 c9) (nums 4 S.b.toNat)) := ho
    have HP9 : Hid (Own w1.heap.size w9 (.slice a8 18 c8) (preS S 4)) := HO8.out.below' hb
    clear hb ho d4
    go_wp2_with (at_builtin; have _t := HP9; refine append_row rfl _ _ rfl w1.heap.size _ (preS S 4) rfl HP9.out (some ⟨g9, 0, none⟩) (nums 4 S.b.toNat) c9 (by rw [nums_len]; rfl) (HO9.out.row' (nums_bys _ _)).2 (by intro e; cases e) (by rw [LN.out 4 (by omega), nums_len]; decide) HB9.out.size ?_; intro v w10 ho hb; obtain ⟨a10, c10, hv, _⟩ := Own.row (zs := preS S 5) ho (BY.out 5); rw [LN.out 5 (by omega), show ofS 5 = 22 from rfl] at hv; subst hv; have HB10 : Hid (Below w1.heap.size w1 w10) := HB9.out.trans hb; have HO10 : Hid (Own w1.heap.size w10 (.slice a10 22 c10) (preS S 5)) := ho; have q10 : Hid (Sl8 w10 w.heap.size S) := Q1.out.below HB10.out; have d5 : w10.cell? ⟨w.heap.size, 5, none⟩ = some (.int .i64 S.l) := q10.out.2.2.2.2.2.1; clear _t ho hb HP9 HO9 HB9)
    clear q8 HB8 HO8
    refine (rput4 S.l w10 (FK.out 5 (by omega))).mono ?_
    rintro e w11 ⟨g11, c11, rfl, ho, hb⟩
    have HB11 : Hid (Below w1.heap.size w1 w11) := HB10.out.trans (hb.mono HB10.out.size)
    have HO11 : Hid (Own w10.heap.size w11 (.slice (some ⟨g11, 0, none⟩) 4 c11) (nums 4 S.l.toNat)) := ho
    have HP11 : Hid (Own w1.heap.size w11 (.slice a10 22 c10) (preS S 5)) := HO10.out.below' hb
    clear hb ho d5
    go_wp2_with (at_builtin; have _t := HP11; refine append_row rfl _ _ rfl w1.heap.size _ (preS S 5) rfl HP11.out (some ⟨g11, 0, none⟩) (nums 4 S.l.toNat) c11 (by rw [nums_len]; rfl) (HO11.out.row' (nums_bys _ _)).2 (by intro e; cases e) (by rw [LN.out 5 (by omega), nums_len]; decide) HB11.out.size ?_; intro v w12 ho hb; obtain ⟨a12, c12, hv, _⟩ := Own.row (zs := preS S 6) ho (BY.out 6); rw [LN.out 6 (by omega), show ofS 6 = 26 from rfl] at hv; subst hv; have HB12 : Hid (Below w1.heap.size w1 w12) := HB11.out.trans hb; have HO12 : Hid (Own w1.heap.size w12 (.slice a12 26 c12) (preS S 6)) := ho; have q12 : Hid (Sl8 w12 w.heap.size S) := Q1.out.below HB12.out; have d6 : w12.cell? ⟨w.heap.size, 6, none⟩ = some (.int .i64 S.s) := q12.out.2.2.2.2.2.2.1; clear _t ho hb HP11 HO11 HB11)
    clear q10 HB10 HO10
    refine (rput4 S.s w12 (FK.out 6 (by omega))).mono ?_
    rintro e w13 ⟨g13, c13, rfl, ho, hb⟩
    have HB13 : Hid (Below w1.heap.size w1 w13) := HB12.out.trans (hb.mono HB12.out.size)
    have HO13 : Hid (Own w12.heap.size w13 (.slice (some ⟨g13, 0, none⟩) 4 c13) (nums 4 S.s.toNat)) := ho
    have HP13 : Hid (Own w1.heap.size w13 (.slice a12 26 c12) (preS S 6)) := HO12.out.below' hb
    clear hb ho d6
    go_wp2_with (at_builtin; have _t := HP13; refine append_row rfl _ _ rfl w1.heap.size _ (preS S 6) rfl HP13.out (some ⟨g13, 0, none⟩) (nums 4 S.s.toNat) c13 (by rw [nums_len]; rfl) (HO13.out.row' (nums_bys _ _)).2 (by intro e; cases e) (by rw [LN.out 6 (by omega), nums_len]; decide) HB13.out.size ?_; intro v w14 ho hb; obtain ⟨a14, c14, hv, _⟩ := Own.row (zs := preS S 7) ho (BY.out 7); rw [LN.out 7 (by omega), show ofS 7 = 30 from rfl] at hv; subst hv; have HB14 : Hid (Below w1.heap.size w1 w14) := HB13.out.trans hb; have HO14 : Hid (Own w1.heap.size w14 (.slice a14 30 c14) (preS S 7)) := ho; have q14 : Hid (Sl8 w14 w.heap.size S) := Q1.out.below HB14.out; have d7 : w14.cell? ⟨w.heap.size, 7, none⟩ = some (.int .i64 S.f) := q14.out.2.2.2.2.2.2.2; clear _t ho hb HP13 HO13 HB13)
    clear q12 HB12 HO12
    refine (rput4 S.f w14 (FK.out 7 (by omega))).mono ?_
    rintro e w15 ⟨g15, c15, rfl, ho, hb⟩
    have HB15 : Hid (Below w1.heap.size w1 w15) := HB14.out.trans (hb.mono HB14.out.size)
    have HO15 : Hid (Own w14.heap.size w15 (.slice (some ⟨g15, 0, none⟩) 4 c15) (nums 4 S.f.toNat)) := ho
    have HP15 : Hid (Own w1.heap.size w15 (.slice a14 30 c14) (preS S 7)) := HO14.out.below' hb
    clear hb ho d7
    go_wp2_with (at_builtin; have _t := HP15; refine append_row rfl _ _ rfl w1.heap.size _ (preS S 7) rfl HP15.out (some ⟨g15, 0, none⟩) (nums 4 S.f.toNat) c15 (by rw [nums_len]; rfl) (HO15.out.row' (nums_bys _ _)).2 (by intro e; cases e) (by rw [LN.out 7 (by omega), nums_len]; decide) HB15.out.size ?_; intro v w16 ho hb; obtain ⟨a16, c16, hv, _⟩ := Own.row (zs := preS S 8) ho (BY.out 8); rw [LN.out 8 (by omega), show ofS 8 = 34 from rfl] at hv; subst hv; have HB16 : Hid (Below w1.heap.size w1 w16) := HB15.out.trans hb; have HO16 : Hid (Own w1.heap.size w16 (.slice a16 34 c16) (preS S 8)) := ho; have q16 : Hid (Sl8 w16 w.heap.size S) := Q1.out.below HB16.out; clear _t ho hb HP15 HO15 HB15)
    clear q14 HB14 HO14
    have HR : Hid (Row w16 a16 c16 (preS S 8)) := (HO16.out.row' (BY.out 8)).2
    have hnil : a16 = none → c16 = 0 := fun e => by
      obtain ⟨b, off, h⟩ := HR.out.some' (by rw [LN.out 8 (by omega)]; decide)
      rw [h] at e
      cases e
    have HW : Hid (Below w.heap.size w w16) := HB1.out.trans (HB16.out.mono HB1.out.size)
    clear HO16 HB16 q16
    have HNIL : Hid (a16 = none → c16 = 0) := hnil
    clear hnil
    refine (HSE.out _ _ _ HR.out HNIL.out).mono ?_
    rintro e wz ⟨g', c', rfl, ho, hb⟩
    have HBZ : Hid (Below w.heap.size w wz) := HW.out.trans (hb.mono HW.out.size)
    have HO : Hid (Own w.heap.size wz (.slice g' 256 c') (sealL (pgS S))) := ho.weaken HW.out.size
    clear hb ho
    go_wp2
    go_ret2
    exact ⟨_, _, rfl, HO.out, HBZ.out⟩
end Go.Proofs.Ytoadkdjmbhflnaa.Oct
