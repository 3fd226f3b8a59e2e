/- The walk: A page that is sealed opens as it was, with noughts behind its body, and one bit that is turned is found; at any page and any bit. -/
import Derived.Test.YtehdcmefmkmcnaaZn
import Derived.WalkKit
import Derived.ProofKit
import Derived.OpenShut
import Derived.ShutString
import Derived.ChangeOld
import Derived.Below
namespace Go.Proofs.Ytehdcmefmkmcnaa.pageBack
open Go.ChangeShapes Go.WideShapes Go.ChangeAt Go.RowKit
open Go.Proofs.Ytehdcmefmkmcnaa.Oct
set_option linter.unusedVariables false

theorem _root_.Go.Proofs.Ytehdcmefmkmcnaa.Oct.Row.take' {w : World} {b off cap : Nat} {zs : List Int} (h : Row w (some ⟨b, off, none⟩) cap zs) (k : Nat) : Row w (some ⟨b, off, none⟩) cap (zs.take k) := by
  refine ⟨fun z hz => h.1 z (List.mem_of_mem_take hz), by rw [List.length_take]; have := h.2.1; omega, h.2.2.1, .inr ⟨b, off, rfl, fun i hi => ?_⟩⟩
  rw [List.length_take] at hi
  rw [h.cells i (by omega)]
  simp only [List.getD_eq_getElem?_getD, List.getElem?_take]
  rw [if_pos (by omega)]
set_option maxHeartbeats 4000000 in
set_option maxRecDepth 100000 in
theorem walk (p0 : Pg) (a0 : Option Addr) (cap0 : Nat) (a1 : Int) (w : World) (w0 : PgIn w p0 a0 cap0) (w1 : -9223372036854775808 ≤ a1 ∧ a1 ≤ 9223372036854775807) :
    Calls Try.prog 5 #[pgV p0 a0 cap0, .int .i64 a1] w fun e w' => e = .returned (.bool true) ∧ Below w.heap.size w w' := by
  have hm0 := Nat.le_trans w0.row.2.1 w0.row.2.2.1
  unfold maxLen at hm0
  obtain ⟨hr, hnil, hk, hlv, hct⟩ := w0
  obtain ⟨E, hE⟩ : ∃ E, sealE p0 = E := ⟨_, rfl⟩
  obtain ⟨Z, hZ⟩ : ∃ Z, sealZ p0 = Z := ⟨_, rfl⟩
  have cS : ∀ w1, Below w.heap.size w w1 → Calls Try.prog 9 #[pgV p0 a0 cap0] w1 fun e w' => ∃ g c, e = .returned (.tuple #[.slice g Z.length c, .int .i64 E]) ∧ Own w1.heap.size w' (.slice g Z.length c) Z ∧ Below w1.heap.size w1 w' := fun w1 hb => seal_v p0 a0 cap0 w1 (hr.below hb) hk hlv hct E hE Z hZ _ rfl
  have HR : Hid (∀ w1, Below w.heap.size w w1 → Row w1 a0 cap0 p0.body) := fun w1 hb => hr.below hb
  have CS : Hid _ := cS
  have hbys := hr.1
  clear cS hr hk hlv hct
  by_cases hbig : (2000 : Int) < p0.body.length
  · clear hE hZ CS HR hbys
    obtain ⟨kd, lv, ct, bd⟩ := p0
    dsimp only [pgV] at *
    have S0 : Hid (Slot (w.alloc (.cells #[.int .i64 kd, .int .i64 lv, .int .i64 ct, .slice a0 bd.length cap0] 25)) w.heap.size _ _ _ _) := slot_new w _ _ _ _ 25
    have HB0 : Hid (Below w.heap.size w (w.alloc (.cells #[.int .i64 kd, .int .i64 lv, .int .i64 ct, .slice a0 bd.length cap0] 25))) := (Below.refl _ _).alloc (Nat.le_refl _) _
    have tok1 : True := trivial
    go_enter Try.func5, Try.ntmps5
    go_wp2_with (first
      | (go_at_call 7; have _t := tok1; refine (awake_any _).mono ?_; rintro e w1 ⟨rfl, hb1⟩; have HB1 : Hid (Below w.heap.size w w1) := HB0.out.trans (hb1.mono HB0.out.size); obtain ⟨⟨k0, k1, k2, k3⟩, _⟩ := S0.out.below hb1; clear hb1 tok1 _t)
      | (go_at_call 7; refine (awake_any _).mono ?_; rintro e w2 ⟨rfl, hb2⟩; have HB2 : Hid (Below w.heap.size w w2) := HB1.out.trans (hb2.mono HB1.out.size); clear hb2))
    go_ret
    exact ⟨rfl, HB2.out⟩
  · by_cases hE0 : E = 0
    · subst hE0
      obtain ⟨o1, o2⟩ := open_seal hbys hE
      have hl := (sealE_zero hE).2
      have hz : Z = sealL p0 := by rw [← hZ]; unfold sealZ; rw [if_pos hE]
      have hlen : Z.length = 256 := by rw [hz]; exact seal_len hl
      have hzb : Bys Z := by rw [hz]; exact seal_bys hbys
      have hturn : ∀ (j : Nat), j < 256 → ∀ (y : Int), 0 ≤ y → y ≤ 255 → y ≠ Z.getD j 0 → opE (Z.set j y) = 5 := fun j hj y h0 h1 hy => by rw [hz] at hy ⊢; exact open_turned hbys hE j hj y h0 h1 hy
      rw [← hz] at o1 o2
      have hpl : (padP p0).body.length = 248 := by show (p0.body ++ List.replicate (248 - p0.body.length) 0).length = 248; rw [List.length_append, List.length_replicate]; omega
      have hpz : ∀ i, p0.body.length ≤ i → (padP p0).body.getD i 0 = 0 := fun i hi => by
        show (p0.body ++ List.replicate (248 - p0.body.length) 0).getD i 0 = 0
        rw [app_at, if_neg (by omega), List.getD_eq_getElem?_getD, List.getElem?_replicate]
        split <;> rfl
      have hpt : (padP p0).body.take p0.body.length = p0.body := by show (p0.body ++ List.replicate (248 - p0.body.length) 0).take p0.body.length = p0.body; rw [List.take_append]; simp
      have hpb : Bys (padP p0).body := hbys.app (bys_rep _)
      have cO : ∀ (a : Option Addr) (c : Nat) (w2 : World), Row w2 a c Z → Calls Try.prog 8 #[.slice a 256 c] w2 fun e w' => ∃ g c, e = .returned (.tuple #[pgV ⟨p0.kind, p0.level, p0.count, (padP p0).body⟩ g c, .int .i64 0]) ∧ Own w2.heap.size w' (.slice g (padP p0).body.length c) (padP p0).body ∧ Below w2.heap.size w2 w' := fun a c w2 h => open_v a c 256 Z w2 h hlen 0 o1 _ o2
      have cT : ∀ (a : Option Addr) (c : Nat) (w2 : World) (j : Nat) (y : Int), j < 256 → 0 ≤ y → y ≤ 255 → y ≠ Z.getD j 0 → Row w2 a c (Z.set j y) → Calls Try.prog 8 #[.slice a 256 c] w2 fun e w' => ∃ v0 v1 v2 g n c, e = .returned (.tuple #[.agg #[.int .i64 v0, .int .i64 v1, .int .i64 v2, .slice g n c], .int .i64 5]) ∧ Below w2.heap.size w2 w' := fun a c w2 j y hj h0 h1 hy h => by
        refine (open_v a c 256 _ w2 h (by rw [List.length_set]; exact hlen) 5 (hturn j hj y h0 h1 hy) _ rfl).mono ?_
        rintro e w' ⟨g, c, rfl, _, hb⟩
        exact ⟨_, _, _, _, _, _, rfl, hb⟩
      obtain ⟨B, hB⟩ : ∃ B, (padP p0).body = B := ⟨_, rfl⟩
      rw [hB] at hpl hpz hpt hpb cO
      rw [hpl] at cO
      rw [hlen] at CS
      obtain ⟨kd, lv, ct, bd⟩ := p0
      dsimp only [pgV] at *
      rw [hpl] at cO
      have CO : Hid _ := cO
      have CT : Hid _ := cT
      have HZL : Hid (Z.length = 256) := hlen
      have HZB : Hid (Bys Z) := hzb
      have HPL : Hid (B.length = 248) := hpl
      have HPZ : Hid (∀ i, bd.length ≤ i → B.getD i 0 = 0) := hpz
      have HPT : Hid (B.take bd.length = bd) := hpt
      have HPB : Hid (Bys B) := hpb
      clear hE hZ o1 o2 hz hlen hzb hturn hpl hpz hpt hpb cO cT hB hnil hbys hbig
      obtain ⟨q, hq⟩ : ∃ q, a1.tmod 2048 = q := ⟨_, rfl⟩
      have hq1 : -2048 < q := by rw [← hq]; exact Int.lt_tmod_of_pos a1 (by omega)
      have hq2 : q < 2048 := by rw [← hq]; exact Int.tmod_lt_of_pos a1 (by omega)
      obtain ⟨r, hr0⟩ : ∃ r : Nat, (q + 2048) % 2048 = (r : Int) := ⟨_, (Int.toNat_of_nonneg (Int.emod_nonneg _ (by omega))).symm⟩
      have hr2 : r < 2048 := by have := Int.emod_lt_of_pos (q + 2048) (show (0 : Int) < 2048 by omega); omega
      have S0 : Hid (Slot (w.alloc (.cells #[.int .i64 kd, .int .i64 lv, .int .i64 ct, .slice a0 bd.length cap0] 25)) w.heap.size _ _ _ _) := slot_new w _ _ _ _ 25
      have HB0 : Hid (Below w.heap.size w (w.alloc (.cells #[.int .i64 kd, .int .i64 lv, .int .i64 ct, .slice a0 bd.length cap0] 25))) := (Below.refl _ _).alloc (Nat.le_refl _) _
      go_enter Try.func5, Try.ntmps5
      go_wp2_with (go_at_call 7; refine (awake_any _).mono ?_; rintro e w1 ⟨rfl, hb1⟩; have HB1 : Hid (Below w.heap.size w w1) := HB0.out.trans (hb1.mono HB0.out.size); have HS1 : Hid (Slot w1 w.heap.size _ _ _ _) := S0.out.below hb1; obtain ⟨⟨k0, k1, k2, k3⟩, _⟩ := HS1.out; clear hb1)
      refine (CS.out _ HB1.out).mono ?_
      rintro e w2 ⟨g2, c2, rfl, ho2, hb2⟩
      have HB2 : Hid (Below w.heap.size w w2) := HB1.out.trans (hb2.mono HB1.out.size)
      have HR2 : Hid (Row w2 g2 c2 Z) := (ho2.row' HZB.out).2
      have HO2 : Hid (Own w1.heap.size w2 (.slice g2 256 c2) Z) := ho2
      have HS2 : Hid (Slot w2 w.heap.size _ _ _ _) := HS1.out.below hb2
      clear hb2 ho2 k0 k1 k2 k3
      go_wp2_with fail
      refine (CO.out _ _ _ HR2.out).mono ?_
      rintro e w3 ⟨g3, c3, rfl, ho3, hb3⟩
      have HB3 : Hid (Below w.heap.size w w3) := HB2.out.trans (hb3.mono HB2.out.size)
      have HO3 : Hid (Own w1.heap.size w3 (.slice g2 256 c2) Z) := HO2.out.below' hb3
      have HQ3 : Hid (Own w2.heap.size w3 (.slice g3 248 c3) B) := ho3
      have HS3 : Hid (Slot w3 w.heap.size _ _ _ _) := HS2.out.below hb3
      have HSZ3 : Hid (w2.heap.size ≤ w3.heap.size) := hb3.size
      clear hb3 ho3
      obtain ⟨gb, cb, hv, hgb, hcl, hfr, hst⟩ := own_at (World.ownsRow.alloc HO3.out (.cells #[.int .i64 kd, .int .i64 lv, .int .i64 ct, .slice g3 248 c3] 25)) (r / 8) (by rw [HZL.out]; omega)
      simp only [Value.slice.injEq] at hv
      obtain ⟨rfl, hzl, rfl⟩ := hv
      clear hzl
      have hcb := HR2.out.2.1
      have hcm := HR2.out.2.2.1
      unfold maxLen at hcm
      rw [HZL.out] at hcb
      have hgb2 : gb < w2.heap.size := (World.ownsRow.lt HO2.out gb rfl).2
      have hzb := HZB.out.at (r / 8)
      obtain ⟨z, hz⟩ : ∃ z, Z.getD (r / 8) 0 = z := ⟨_, rfl⟩
      rw [hz] at hcl hzb
      obtain ⟨f0, f1, f2⟩ := flip_byte hzb.1 hzb.2 (show r % 8 < 8 by omega)
      obtain ⟨y, hy⟩ : ∃ y, bits .xor .u8 z (2 ^ (r % 8) % 256) = y := ⟨_, rfl⟩
      have hrow := ((hst (bits .xor .u8 z (2 ^ (r % 8) % 256))).row' (HZB.out.set (r / 8) f0 f1)).2
      go_wp2_with fail
      rw [hy] at hrow f0 f1 f2
      obtain ⟨W4, hW4⟩ : ∃ W4, (w3.alloc (.cells #[.int .i64 kd, .int .i64 lv, .int .i64 ct, .slice g3 248 c3] 25)).setCell ⟨gb, r / 8, none⟩ (.int .u8 y) = W4 := ⟨_, rfl⟩
      have hsame : ∀ j, j ≠ gb → W4.heap[j]? = (w3.alloc (.cells #[.int .i64 kd, .int .i64 lv, .int .i64 ct, .slice g3 248 c3] 25)).heap[j]? := fun j hj => by rw [← hW4]; exact Below.heap_setCell _ _ _ _ hj
      have hs1 := HB1.out.size
      have hs0 : w.heap.size < w1.heap.size := block_lt_of_cell HS1.out.1.1
      have hs2 : w2.heap.size ≤ w3.heap.size := HSZ3.out
      have HB4 : Hid (Below w.heap.size w W4) := by rw [← hW4]; exact (HB3.out.alloc HB3.out.size _).setCell (p := ⟨gb, r / 8, none⟩) (by show w.heap.size ≤ gb; omega) _
      have HT4 : Hid (Slot W4 w3.heap.size (.int .i64 kd) (.int .i64 lv) (.int .i64 ct) (.slice g3 248 c3)) := (slot_new w3 _ _ _ _ 25).same (hsame _ (by omega))
      have HS4 : Hid (Slot W4 w.heap.size (.int .i64 kd) (.int .i64 lv) (.int .i64 ct) (.slice a0 bd.length cap0)) := (HS3.out.below ((Below.refl _ _).alloc (Nat.le_refl _) _)).same (hsame _ (by omega))
      have HQ4 : Hid (Own w2.heap.size W4 (.slice g3 248 c3) B) := Own.keep (World.ownsRow.alloc HQ3.out _) (fun j hj => hsame j (by omega))
      have HR4 : Hid (Row W4 (some ⟨gb, 0, none⟩) c2 (Z.set (r / 8) y)) := by rw [← hW4, ← hy]; rw [hy]; exact hrow
      rw [hW4]
      rw [← hz] at f2
      refine (CT.out _ _ _ (r / 8) y (by omega) f0 f1 f2 HR4.out).mono ?_
      clear hrow hW4 hsame hst hcl hfr
      rintro e w5 ⟨v0, v1, v2, gx, nx, cx, rfl, hb5⟩
      have HB5 : Hid (Below w.heap.size w w5) := HB4.out.trans (hb5.mono HB4.out.size)
      have HT5 : Hid (Slot w5 w3.heap.size (.int .i64 kd) (.int .i64 lv) (.int .i64 ct) (.slice g3 248 c3)) := HT4.out.below hb5
      have HS5 : Hid (Slot w5 w.heap.size (.int .i64 kd) (.int .i64 lv) (.int .i64 ct) (.slice a0 bd.length cap0)) := HS4.out.below hb5
      have HQ5 : Hid (Row w5 g3 c3 B) := ((HQ4.out.below' hb5).row' HPB.out).2
      clear hb5
      obtain ⟨W5, hW5⟩ : ∃ W5, w5.alloc (.cells #[.int .i64 v0, .int .i64 v1, .int .i64 v2, .slice gx nx cx] 25) = W5 := ⟨_, rfl⟩
      have hb5a : Below w5.heap.size w5 W5 := by rw [← hW5]; exact (Below.refl _ _).alloc (Nat.le_refl _) _
      have HB6 : Hid (Below w.heap.size w W5) := HB5.out.trans (hb5a.mono HB5.out.size)
      have HT6 : Hid (Slot W5 w3.heap.size (.int .i64 kd) (.int .i64 lv) (.int .i64 ct) (.slice g3 248 c3)) := HT5.out.below hb5a
      have HS6 : Hid (Slot W5 w.heap.size (.int .i64 kd) (.int .i64 lv) (.int .i64 ct) (.slice a0 bd.length cap0)) := HS5.out.below hb5a
      have HQ6 : Hid (Row W5 g3 c3 B) := HQ5.out.below hb5a
      have k3 : W5.cell? ⟨w.heap.size, 3, none⟩ = some (.slice a0 bd.length cap0) := HS6.out.1.2.2.2
      go_wp2_with fail
      clear hW5 hb5a HB5 HT5 HS5 HQ5 HB4 HT4 HS4 HQ4 HR4 HB3 HQ3 HS3 HO3 HB2 HR2 HO2 HS2 CT CO CS
      obtain ⟨b3, o3, rfl⟩ := HQ6.out.some' (by rw [HPL.out]; omega)
      have hc3 := HQ6.out.2.1
      have hm3 := HQ6.out.2.2.1
      unfold maxLen at hm3
      rw [HPL.out] at hc3
      go_loopw [11] (fun i wr => ∃ k : Nat, bd.length ≤ k ∧ k ≤ 248 ∧ i = .int .i64 k ∧ Below W5.heap.size W5 wr) (fun i _ => 248 - (intOf i).toNat)
      case atStart => exact ⟨bd.length, Nat.le_refl _, hl, rfl, Below.refl _ _⟩
      case round =>
        obtain ⟨k, hk0, hk, rfl, hbel⟩ := hrel
        have HBR : Hid (Below W5.heap.size W5 wr) := hbel
        obtain ⟨⟨u0, u1, u2, u3⟩, _⟩ := HT6.out.below hbel
        clear hbel k3
        by_cases hlt : k < 248
        · have hcell : wr.cell? ⟨b3, o3 + k, none⟩ = some (.int .u8 0) := by
            have := (HQ6.out.below HBR.out).cells k (by rw [HPL.out]; exact hlt)
            rw [HPZ.out k hk0] at this
            exact this
          go_wp2
          go_roundw
          case rel => exact ⟨k + 1, by omega, by omega, by go_num, HBR.out⟩
          case measure => simp [intOf]; omega
        · have hkk : k = 248 := by omega
          subst hkk
          have SK : Hid (∀ w', Below W5.heap.size W5 w' → w'.cell? ⟨w3.heap.size, 0, none⟩ = some (.int .i64 kd) ∧ w'.cell? ⟨w3.heap.size, 1, none⟩ = some (.int .i64 lv) ∧ w'.cell? ⟨w3.heap.size, 2, none⟩ = some (.int .i64 ct) ∧ w'.cell? ⟨w3.heap.size, 3, none⟩ = some (.slice (some ⟨b3, o3, none⟩) 248 c3) ∧ w'.cell? ⟨w.heap.size, 0, none⟩ = some (.int .i64 kd) ∧ w'.cell? ⟨w.heap.size, 1, none⟩ = some (.int .i64 lv) ∧ w'.cell? ⟨w.heap.size, 2, none⟩ = some (.int .i64 ct) ∧ w'.cell? ⟨w.heap.size, 3, none⟩ = some (.slice a0 bd.length cap0)) := by
            intro w' hb
            obtain ⟨⟨x0, x1, x2, x3⟩, _⟩ := HT6.out.below hb
            obtain ⟨⟨y0, y1, y2, y3⟩, _⟩ := HS6.out.below hb
            exact ⟨x0, x1, x2, x3, y0, y1, y2, y3⟩
          have CM : Hid (∀ w', Below W5.heap.size W5 w' → Calls Try.prog 12 #[.slice (some ⟨b3, o3, none⟩) bd.length c3, .slice a0 bd.length cap0] w' fun e w'' => e = .returned (.bool true) ∧ Below w'.heap.size w' w'') := by
            intro w' hb
            have h1 := (HQ6.out.below hb).take' bd.length
            rw [HPT.out] at h1
            have h2 := HR.out w' (HB6.out.trans (hb.mono HB6.out.size))
            have := same_any _ _ _ _ _ _ _ h1 h2
            rwa [show sameB bd bd = true by simp [sameB]] at this
          have hlc : bd.length ≤ c3 := by omega
          go_wp2_with fail
          clear u0 u1 u2 u3
          go_region_held3 (fun w' => w'.cell? ⟨w3.heap.size, 0, none⟩ = some (.int .i64 kd) ∧ w'.cell? ⟨w3.heap.size, 1, none⟩ = some (.int .i64 lv) ∧ w'.cell? ⟨w3.heap.size, 2, none⟩ = some (.int .i64 ct) ∧ w'.cell? ⟨w3.heap.size, 3, none⟩ = some (.slice (some ⟨b3, o3, none⟩) 248 c3) ∧ w'.cell? ⟨w.heap.size, 0, none⟩ = some (.int .i64 kd) ∧ w'.cell? ⟨w.heap.size, 1, none⟩ = some (.int .i64 lv) ∧ w'.cell? ⟨w.heap.size, 2, none⟩ = some (.int .i64 ct) ∧ w'.cell? ⟨w.heap.size, 3, none⟩ = some (.slice a0 bd.length cap0)) (first | exact SK.out _ HBR.out.drew | exact SK.out _ HB7.out | exact SK.out _ HB8.out | go_keep) (first
            | (go_at_call 7; refine (awake_any wr.drew).mono ?_; rintro e w7 ⟨rfl, hb7⟩; have HB7 : Hid (Below W5.heap.size W5 w7) := HBR.out.drew.trans (hb7.mono HBR.out.size); clear hb7)
            | (go_at_call 12; refine (CM.out w7 HB7.out).mono ?_; rintro e w8 ⟨rfl, hb8⟩; have HB8 : Hid (Below W5.heap.size W5 w8) := HB7.out.trans (hb8.mono HB7.out.size); clear hb8))
          go_wp2
          go_ret
          exact ⟨rfl, HB6.out.trans (HB8.out.mono HB6.out.size)⟩
    · have hE0b : (E != 0) = true := by simpa using hE0
      clear hE hZ HR hbys hE0
      obtain ⟨kd, lv, ct, bd⟩ := p0
      dsimp only [pgV] at *
      have S0 : Hid (Slot (w.alloc (.cells #[.int .i64 kd, .int .i64 lv, .int .i64 ct, .slice a0 bd.length cap0] 25)) w.heap.size _ _ _ _) := slot_new w _ _ _ _ 25
      have HB0 : Hid (Below w.heap.size w (w.alloc (.cells #[.int .i64 kd, .int .i64 lv, .int .i64 ct, .slice a0 bd.length cap0] 25))) := (Below.refl _ _).alloc (Nat.le_refl _) _
      go_enter Try.func5, Try.ntmps5
      go_wp2_with (go_at_call 7; refine (awake_any _).mono ?_; rintro e w1 ⟨rfl, hb1⟩; have HB1 : Hid (Below w.heap.size w w1) := HB0.out.trans (hb1.mono HB0.out.size); obtain ⟨⟨k0, k1, k2, k3⟩, _⟩ := S0.out.below hb1; clear hb1)
      refine (CS.out _ HB1.out).mono ?_
      rintro e w2 ⟨g2, c2, rfl, ho2, hb2⟩
      have HB2 : Hid (Below w.heap.size w w2) := HB1.out.trans (hb2.mono HB1.out.size)
      clear hb2 ho2 k0 k1 k2 k3
      go_wp2_with fail
      refine (awake_any _).mono ?_
      rintro e w3 ⟨rfl, hb3⟩
      have HB3 : Hid (Below w.heap.size w w3) := HB2.out.trans (hb3.mono HB2.out.size)
      clear hb3
      go_wp2
      go_ret
      exact ⟨rfl, HB3.out⟩

end Go.Proofs.Ytehdcmefmkmcnaa.pageBack
