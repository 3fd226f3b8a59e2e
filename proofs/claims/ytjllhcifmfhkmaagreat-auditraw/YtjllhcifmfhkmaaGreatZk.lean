/-
  The document's Seal.
-/
import Derived.Test.YtjllhcifmfhkmaaGreatZh
import Derived.Deep.RegionHeld3
import Derived.Test.YtjllhcifmfhkmaaGreatZb
namespace Go.Proofs.YtjllhcifmfhkmaaGreat.Oct
open Go.RowKit

set_option maxHeartbeats 1000000 in
set_option maxRecDepth 20000 in
theorem rseal_walk (p : Pg) (ba : Option Addr) (bc : Nat) (w : World) (hr : Row w ba bc p.body) (hnil : ba = none → bc = 0) :
    Calls Tryz.prog 62 #[pgV p ba bc] w fun e w' => ∃ v, e = .returned (.tuple #[v, .int .i64 (sealE p)]) ∧ Own w.heap.size w' v (sealZ p) ∧ Below w.heap.size w w' := by
  by_cases ha : argP p = true
  · by_cases hl : p.body.length ≤ 248
    · have h := argP_out ha
      have he : sealE p = 0 := by unfold sealE; rw [if_pos ha, if_pos hl]
      have hz : sealZ p = sealL p := by unfold sealZ; rw [if_pos he]
      rw [he, hz]
      clear he hz ha
      have HZ : Hid (sealL p = nums 4 (crc (tailP p)).toNat ++ tailP p) := show _ = _ from rfl
      have HT : Hid (tailP p = nums 1 p.kind.toNat ++ nums 1 p.level.toNat ++ nums 2 p.count.toNat ++ p.body ++ List.replicate (248 - p.body.length) 0) := show _ = _ from rfl
      have HTB : Hid (Bys (tailP p)) := tail_bys hr.1
      have HTL : Hid ((tailP p).length = 252) := tail_len hl
      have F1 : Hid (fitB 1 p.kind = true) := by show _ = _; rw [fit1]; exact decide_eq_true (by omega)
      have F2 : Hid (fitB 1 p.level = true) := by show _ = _; rw [fit1]; exact decide_eq_true (by omega)
      have F3 : Hid (fitB 2 p.count = true) := by show _ = _; rw [fit2]; exact decide_eq_true (by omega)
      obtain ⟨Z, hZ⟩ : ∃ Z, sealL p = Z := ⟨_, rfl⟩
      obtain ⟨T, hT⟩ : ∃ T, tailP p = T := ⟨_, rfl⟩
      rw [hZ, hT] at HZ
      rw [hZ]
      rw [hT] at HT HTB HTL
      clear hZ hT
      obtain ⟨kd, lv, ct, bd⟩ := p
      dsimp only [pgV] at *
      obtain ⟨⟨a1, a2⟩, ⟨a3, a4⟩, ⟨a5, a6⟩⟩ := h
      have S0 : Hid (Slot (w.alloc (.cells #[.int .i64 kd, .int .i64 lv, .int .i64 ct, .slice ba bd.length bc] 127)) w.heap.size _ _ _ _) := slot_new w _ _ _ _ 127
      have HR : Hid (Row (w.alloc (.cells #[.int .i64 kd, .int .i64 lv, .int .i64 ct, .slice ba bd.length bc] 127)) ba bc bd) := hr.below ((Below.refl _ _).alloc (Nat.le_refl _) _)
      have HB0 : Hid (Below w.heap.size w (w.alloc (.cells #[.int .i64 kd, .int .i64 lv, .int .i64 ct, .slice ba bd.length bc] 127))) := (Below.refl _ _).alloc (Nat.le_refl _) _
      have hm := Nat.le_trans hr.2.1 hr.2.2.1
      unfold maxLen at hm
      go_enter Tryz.func62, Tryz.ntmps62
      go_wp2_with fail
      obtain ⟨W, hW⟩ : ∃ W, w.alloc (.cells #[.int .i64 kd, .int .i64 lv, .int .i64 ct, .slice ba bd.length bc] 127) = W := ⟨_, rfl⟩
      rw [hW] at S0 HR HB0 ⊢
      have HSZ : Hid (w.heap.size < W.heap.size) := block_lt_of_cell S0.out.1.1
      clear hW hr
      have tok1 : True := trivial
      go_region_held3 (fun w' => w'.cell? ⟨w.heap.size, 0, none⟩ = some (.int .i64 kd) ∧ w'.cell? ⟨w.heap.size, 1, none⟩ = some (.int .i64 lv)) (first | exact ⟨S0.out.1.1, S0.out.1.2.1⟩ | exact ⟨q3.1.1, q3.1.2.1⟩ | exact ⟨q2.1.1, q2.1.2.1⟩ | exact ⟨q1.1.1, q1.1.2.1⟩ | go_keep) (first
        | (go_at_call 66; have _t := tok1; refine (rput1 kd W.drew F1.out).mono ?_; rintro e w1 ⟨g1, c1, rfl, ho1, hb1⟩; have HB1 : Hid (Below W.heap.size W w1) := (Below.refl W.heap.size W).drew.trans (hb1.mono (Nat.le_refl _)); have q1 := S0.out.below HB1.out; have HO1 : Hid (Own W.heap.size w1 (.slice (some ⟨g1, 0, none⟩) 1 c1) (nums 1 kd.toNat)) := ho1; clear hb1 ho1 tok1 _t)
        | (go_at_call 66; refine (rput1 lv w1 F2.out).mono ?_; rintro e w2 ⟨g2, c2, rfl, ho2, hb2⟩; have q2 := q1.below hb2; have HB2 : Hid (Below W.heap.size W w2) := HB1.out.trans (hb2.mono HB1.out.size); have HO2 : Hid (Own w1.heap.size w2 (.slice (some ⟨g2, 0, none⟩) 1 c2) (nums 1 lv.toNat)) := ho2; have HP2 : Hid (Own W.heap.size w2 (.slice (some ⟨g1, 0, none⟩) 1 c1) (nums 1 kd.toNat)) := HO1.out.below' hb2; clear hb2 ho2)
        | (have _t := HP2; clear _t; refine step_append_bytes (by rfl) (.tmp 39) (.tmp 42) (by rfl) W.heap.size _ (nums 1 kd.toNat) (by rfl) HP2.out ⟨g2, 0, none⟩ (nums 1 lv.toNat) 1 c2 (by rfl) (by rw [nums_len]) (by omega) (HO2.out.row' (nums_bys _ _)).2 (by rw [nums_len, nums_len]; omega) HB2.out.size 2 (by rw [nums_len, nums_len]) ?_; intro g3 c3 w3 ho3 hb3; have q3 := S0.out.below (HB2.out.trans hb3); have HB3 : Hid (Below W.heap.size W w3) := HB2.out.trans hb3; have HO3 : Hid (Own W.heap.size w3 (.slice (some ⟨g3, 0, none⟩) 2 c3) (nums 1 kd.toNat ++ nums 1 lv.toNat)) := ho3; clear hb3 ho3))
      clear q1 q2 HO1 HP2 HO2 HB1 HB2
      obtain ⟨⟨_, _, k2, k3⟩, _⟩ := q3
      go_wp2_with fail
      refine (rput2 ct w3 F3.out).mono ?_
      rintro e w4 ⟨g4, c4, rfl, ho4, hb4⟩
      have HB4 : Hid (Below W.heap.size W w4) := HB3.out.trans (hb4.mono HB3.out.size)
      have HO4 : Hid (Own w3.heap.size w4 (.slice (some ⟨g4, 0, none⟩) 2 c4) (nums 2 ct.toNat)) := ho4
      have HP4 : Hid (Own W.heap.size w4 (.slice (some ⟨g3, 0, none⟩) 2 c3) (nums 1 kd.toNat ++ nums 1 lv.toNat)) := HO3.out.below' hb4
      clear hb4 ho4 k2 k3
      have BY5 : Hid (Bys (nums 1 kd.toNat ++ nums 1 lv.toNat ++ nums 2 ct.toNat)) := ((nums_bys _ _).app (nums_bys _ _)).app (nums_bys _ _)
      have BY6 : Hid (Bys (nums 1 kd.toNat ++ nums 1 lv.toNat ++ nums 2 ct.toNat ++ bd)) := BY5.out.app HR.out.1
      have LN5 : Hid ((nums 1 kd.toNat ++ nums 1 lv.toNat ++ nums 2 ct.toNat).length = 4) := show _ = _ by simp [nums_len]
      have LN6 : Hid ((nums 1 kd.toNat ++ nums 1 lv.toNat ++ nums 2 ct.toNat ++ bd).length = 4 + bd.length) := show _ = _ by rw [List.length_append, LN5.out]
      have HNIL : Hid (ba = none → bc = 0) := hnil
      have tok5 : True := trivial
      go_wp2_with (first
        | (at_builtin; have _t := tok5; refine append_row rfl _ _ rfl W.heap.size _ (nums 1 kd.toNat ++ nums 1 lv.toNat) rfl HP4.out (some ⟨g4, 0, none⟩) (nums 2 ct.toNat) c4 (by rw [nums_len]; rfl) (HO4.out.row' (nums_bys _ _)).2 (by intro e; cases e) (by simp [nums_len]) HB4.out.size ?_; intro v5 w5 ho5 hb5; obtain ⟨a5, c5, rfl, _⟩ := ho5.row BY5.out; rw [LN5.out] at ho5 ⊢; have HB5 : Hid (Below W.heap.size W w5) := HB4.out.trans hb5; have HO5 : Hid (Own W.heap.size w5 (.slice a5 4 c5) (nums 1 kd.toNat ++ nums 1 lv.toNat ++ nums 2 ct.toNat)) := ho5; have k3 := (S0.out.below HB5.out).1.2.2.2; clear tok5 _t ho5 hb5)
        | (at_builtin; have _t := HO5; refine append_row rfl _ _ rfl W.heap.size _ (nums 1 kd.toNat ++ nums 1 lv.toNat ++ nums 2 ct.toNat) rfl HO5.out ba bd bc rfl (HR.out.below HB5.out) HNIL.out (by rw [LN5.out]; omega) HB5.out.size ?_; intro v6 w6 ho6 hb6; have HB6 : Hid (Below W.heap.size W w6) := HB5.out.trans hb6; have HO6 : Hid (Own W.heap.size w6 v6 (nums 1 kd.toNat ++ nums 1 lv.toNat ++ nums 2 ct.toNat ++ bd)) := ho6; clear _t ho6 hb6 k3))
      obtain ⟨X, hX⟩ : ∃ X, nums 1 kd.toNat ++ nums 1 lv.toNat ++ nums 2 ct.toNat ++ bd = X := ⟨_, rfl⟩
      rw [hX] at HO6 BY6 LN6 HT
      clear hX BY5 LN5 HO5 HB5 HP4 HO4 HB4 HO3 HB3
      obtain ⟨i0, hi, hz0, hz1, hz2⟩ := info_parts info5
      go_loopw [4] (fun v wr => ∃ k : Nat, k ≤ 248 - bd.length ∧ Own W.heap.size wr v (X ++ List.replicate k 0) ∧ Below W.heap.size W wr) (fun v _ => 252 - (match v with | .slice _ n _ => n | _ => 0))
      case atStart => exact ⟨0, Nat.zero_le _, by rw [List.replicate_zero, List.append_nil]; exact HO6.out, HB6.out⟩
      case round =>
        obtain ⟨k, hk, hown, hbel⟩ := hrel
        have hlen : (X ++ List.replicate k 0).length = 4 + bd.length + k := by rw [List.length_append, LN6.out, List.length_replicate]
        obtain ⟨a, cap, rfl, hrow⟩ := hown.row (BY6.out.app (bys_rep k))
        rw [hlen] at hown ⊢
        by_cases hlt : k < 248 - bd.length
        · have HO : Hid (Own W.heap.size wr (.slice a (4 + bd.length + k) cap) (X ++ List.replicate k 0)) := hown
          have HB : Hid (Below W.heap.size W wr) := hbel
          have HLEN : Hid ((X ++ List.replicate k 0).length = 4 + bd.length + k) := hlen
          clear hown hbel hrow hlen
          have BO : Hid (Bys [0]) := show Bys [0] from bysOf (by decide)
          go_wp2_with (at_builtin; refine append_row rfl _ _ rfl W.heap.size _ (X ++ List.replicate k 0) rfl (World.ownsRow.alloc HO.out _) (some ⟨wr.heap.size, 0, none⟩) [0] 1 rfl (row_new _ [0] _ BO.out (by simp [maxLen])) (by intro e; cases e) (by rw [HLEN.out]; simp; omega) (by have := HB.out.size; simp; omega) ?_; intro v' w' ho' hb'; have HB' : Hid (Below W.heap.size W w') := (HB.out.alloc HB.out.size _).trans hb'; have HO' : Hid (Own W.heap.size w' v' (X ++ List.replicate k 0 ++ [0])) := ho'; clear ho' hb')
          have HO2 : Hid (Own W.heap.size w' v' (X ++ List.replicate (k + 1) 0)) := by
            have := HO'.out
            rw [List.append_assoc, ← List.replicate_succ'] at this
            exact this
          obtain ⟨a2, c2, hv2, _⟩ := HO2.out.row (BY6.out.app (bys_rep (k + 1)))
          rw [List.length_append, LN6.out, List.length_replicate] at hv2
          subst hv2
          clear HO'
          go_wp2
          go_roundw
          case rel => exact ⟨k + 1, by omega, HO2.out, HB'.out⟩
          case measure => simp; omega
        · have hkk : k = 248 - bd.length := by omega
          subst hkk
          rw [← HT.out] at hown hrow hlen
          have e252 : 4 + bd.length + (248 - bd.length) = 252 := by omega
          rw [e252] at hown ⊢
          have HO : Hid (Own W.heap.size wr (.slice a 252 cap) T) := hown
          have HB : Hid (Below W.heap.size W wr) := hbel
          have HRW : Hid (Row wr a cap T) := hrow
          obtain ⟨b, off, rfl⟩ := hrow.some' (by rw [HTL.out]; omega)
          have bs := crc_bd HTB.out
          have F4 : Hid (fitB 4 (crc T) = true) := by show _ = _; rw [fit4]; exact decide_eq_true (by omega)
          have CC : Hid (∀ w1, Below wr.heap.size wr w1 → Calls Tryz.prog 42 #[.slice (some ⟨b, off, none⟩) 252 cap] w1 fun e w' => e = .returned (.int .u32 (crc T)) ∧ Below w1.heap.size w1 w') := by
            intro w1 hb1
            have := refcrc_any _ _ _ _ (HRW.out.below hb1)
            rw [HTL.out] at this
            exact this.mono fun e w' ⟨h1, h2⟩ => ⟨h1, h2 ▸ Below.refl _ _⟩
          have ws : IntKind.i64.wrap (crc T) = crc T := wrap_i64 bs.1 bs.2
          obtain ⟨S, hS⟩ : ∃ S, crc T = S := ⟨_, rfl⟩
          rw [hS] at ws F4 CC HZ bs
          clear hS hown hbel hrow hlen e252 hk hlt
          go_wp2_with fail
          refine (CC.out wr (Below.refl _ _)).mono ?_
          rintro e w8 ⟨rfl, hb8⟩
          have HB8 : Hid (Below W.heap.size W w8) := HB.out.trans (hb8.mono HB.out.size)
          have HR8 : Hid (Row w8 (some ⟨b, off, none⟩) cap T) := HRW.out.below hb8
          clear hb8
          go_wp2_with fail
          refine (rput4 S w8 F4.out).mono ?_
          rintro e w9 ⟨g9, c9, rfl, ho9, hb9⟩
          have HB9 : Hid (Below W.heap.size W w9) := HB8.out.trans (hb9.mono HB8.out.size)
          have HR9 : Hid (Row w9 (some ⟨b, off, none⟩) cap T) := HR8.out.below hb9
          have HO9 : Hid (Own W.heap.size w9 (.slice (some ⟨g9, 0, none⟩) 4 c9) (nums 4 S.toNat)) := ho9.weaken HB8.out.size
          clear hb9 ho9
          go_wp2_with (at_builtin; refine append_row rfl _ _ rfl W.heap.size _ (nums 4 S.toNat) rfl HO9.out (some ⟨b, off, none⟩) T cap (by rw [HTL.out]; rfl) HR9.out (by intro e; cases e) (by rw [HTL.out, nums_len]; omega) HB9.out.size ?_; intro v7 w7 ho7 hb7; have HB7 : Hid (Below W.heap.size W w7) := HB9.out.trans hb7; have HO7 : Hid (Own W.heap.size w7 v7 (nums 4 S.toNat ++ T)) := ho7; clear ho7 hb7)
          go_ret2
          exact ⟨_, rfl, by rw [HZ.out]; exact HO7.out.weaken (Nat.le_of_lt HSZ.out), HB0.out.trans (HB7.out.mono (Nat.le_of_lt HSZ.out))⟩
    · have h := argP_out ha
      have he : sealE p = 3 := by unfold sealE; rw [if_pos ha, if_neg hl]
      have hz : sealZ p = [] := by unfold sealZ; rw [he]; rfl
      rw [he, hz]
      clear he hz ha
      obtain ⟨kd, lv, ct, bd⟩ := p
      dsimp only [pgV] at *
      obtain ⟨⟨a1, a2⟩, ⟨a3, a4⟩, ⟨a5, a6⟩⟩ := h
      have hm := Nat.le_trans hr.2.1 hr.2.2.1
      unfold maxLen at hm
      have hdb : (248 : Int) < bd.length := by omega
      clear hr hnil hl
      go_enter Tryz.func62, Tryz.ntmps62
      go_wp2
      go_ret2
      exact ⟨_, rfl, World.ownsRow_nil _ _ _ _, (Below.refl _ _).alloc (Nat.le_refl _) _⟩
  · have he : sealE p = 1 := by unfold sealE; rw [if_neg ha]
    have hz : sealZ p = [] := by unfold sealZ; rw [he]; rfl
    rw [he, hz]
    have h : ¬ ((1 ≤ p.kind ∧ p.kind ≤ 5) ∧ (0 ≤ p.level ∧ p.level ≤ 255) ∧ (0 ≤ p.count ∧ p.count ≤ 65535)) := fun e => ha (decide_eq_true e)
    clear he hz ha
    obtain ⟨kd, lv, ct, bd⟩ := p
    dsimp only [pgV] at *
    clear hr hnil
    have h' : kd < 1 ∨ (1 ≤ kd ∧ (5 < kd ∨ (kd ≤ 5 ∧ (lv < 0 ∨ (0 ≤ lv ∧ (255 < lv ∨ (lv ≤ 255 ∧ (ct < 0 ∨ (0 ≤ ct ∧ 65535 < ct))))))))) := by omega
    clear h
    rcases h' with h1 | ⟨h1, h2 | ⟨h2, h3 | ⟨h3, h4 | ⟨h4, h5 | ⟨h5, h6⟩⟩⟩⟩⟩
    all_goals
      go_enter Tryz.func62, Tryz.ntmps62
      go_wp2
      go_ret2
      exact ⟨_, rfl, World.ownsRow_nil _ _ _ _, (Below.refl _ _).alloc (Nat.le_refl _) _⟩
end Go.Proofs.YtjllhcifmfhkmaaGreat.Oct

/-
  The document's Open.
-/
namespace Go.Proofs.YtjllhcifmfhkmaaGreat.Oct
open Go.RowKit

theorem get1 {zs : List Int} (hb : Bys zs) (k : Nat) (hk : k < zs.length) : getI zs k 1 = zs.getD k 0 := by
  have hi : insB zs.length k 1 = true := by simp [insB]; omega
  have h := hb.at k
  unfold getI
  rw [hi, if_pos rfl]
  have e : num zs (k : Int).toNat (1 : Int).toNat = zs.getD k 0 := by
    rw [Int.toNat_natCast]
    show num zs k 1 = _
    rw [num_succ]
    show 0 * 256 + _ = _
    simp
  rw [e]
  exact (cap_yes (by omega)).1

set_option maxHeartbeats 1000000 in
theorem ropen_any (a : Option Addr) (cap : Nat) (zs : List Int) (w : World) (h : Row w a cap zs) :
    Calls Tryz.prog 95 #[.slice a zs.length cap] w fun e w' => ∃ v, e = .returned (.tuple #[v, .int .i64 (opE zs)]) ∧ Opened w.heap.size w' v (opP zs) ∧ Below w.heap.size w w' := by
  by_cases hl : zs.length = 256
  · obtain ⟨b, off, rfl⟩ := h.some' (by omega)
    have cn : ∀ (p n : Int) (w1 : World), Below w.heap.size w w1 → Calls Tryz.prog 96 #[.slice (some ⟨b, off, none⟩) 256 cap, .int .i64 p, .int .i64 n] w1 fun e w' => e = .returned (.int .i64 (getI zs p n)) ∧ Below w1.heap.size w1 w' := fun p n w1 hb => by
      have := rnumber_any _ _ _ p n _ (h.below hb)
      rw [hl] at this
      exact this.mono fun e w' ⟨h1, h2⟩ => ⟨h1, h2 ▸ Below.refl _ _⟩
    have cs : ∀ (w1 : World), Below w.heap.size w w1 → Calls Tryz.prog 42 #[.slice (some ⟨b, off + 4, none⟩) 252 (cap - 4)] w1 fun e w' => e = .returned (.int .u32 (crc (zs.drop 4))) ∧ Below w1.heap.size w1 w' := fun w1 hb => by
      have e : (zs.drop 4).length = 252 := by simp [hl]
      have := refcrc_any _ _ _ _ ((h.below hb).drop' 4 (by omega))
      rw [e] at this
      exact this.mono fun e w' ⟨h1, h2⟩ => ⟨h1, h2 ▸ Below.refl _ _⟩
    have cc : ∀ (w1 : World), Below w.heap.size w w1 → Calls Tryz.prog 40 #[.slice (some ⟨b, off + 8, none⟩) 248 (cap - 8)] w1 fun e w' => ∃ g c, e = .returned (.slice g 248 c) ∧ Own w1.heap.size w' (.slice g 248 c) (zs.drop 8) ∧ Below w1.heap.size w1 w' := fun w1 hb => by
      have e : (zs.drop 8).length = 248 := by simp [hl]
      have hr := (h.below hb).drop' 8 (by omega)
      have := copy_any _ _ _ _ hr (by omega)
      rw [e] at this
      refine this.mono ?_
      rintro e' w' ⟨v, rfl, ho, hb'⟩
      obtain ⟨g, c, hv, _⟩ := ho.row hr.1
      rw [e] at hv
      rw [hv] at ho ⊢
      exact ⟨g, c, rfl, ho, hb'⟩
    have hc := h.2.1
    have hm := h.2.2.1
    unfold maxLen at hm
    rw [hl] at hc
    have e1 : opE zs = if getI zs 0 4 = crc (zs.drop 4) then (if okK (getI zs 4 1) then 0 else 4) else 5 := by simp [opE, hl]
    have hno : ∀ {base : Nat} {w : World}, opE zs ≠ 0 → Opened base w (.agg #[.int .i64 0, .int .i64 0, .int .i64 0, .slice none 0 0]) (opP zs) := fun hh => opened_no _ _ zs hh
    have hyes : opE zs = 0 → opP zs = ⟨getI zs 4 1, getI zs 5 1, getI zs 6 2, zs.drop 8⟩ := fun hh => by simp [opP, hh]
    have l4 : ∀ (w1 : World), Below w.heap.size w w1 → w1.cell? ⟨b, off + 4, none⟩ = some (.int .u8 (getI zs 4 1)) := fun w1 hb => by
      rw [show getI zs 4 1 = zs.getD 4 0 from get1 h.1 4 (by omega)]; exact (h.below hb).cells 4 (by omega)
    have l5 : ∀ (w1 : World), Below w.heap.size w w1 → w1.cell? ⟨b, off + 5, none⟩ = some (.int .u8 (getI zs 5 1)) := fun w1 hb => by
      rw [show getI zs 5 1 = zs.getD 5 0 from get1 h.1 5 (by omega)]; exact (h.below hb).cells 5 (by omega)
    have b4 : 0 ≤ getI zs 4 1 ∧ getI zs 4 1 ≤ 255 := by rw [show getI zs 4 1 = zs.getD 4 0 from get1 h.1 4 (by omega)]; exact h.1.at 4
    have b5 : 0 ≤ getI zs 5 1 ∧ getI zs 5 1 ≤ 255 := by rw [show getI zs 5 1 = zs.getD 5 0 from get1 h.1 5 (by omega)]; exact h.1.at 5
    have bs := crc_bd (zs := zs.drop 4) (fun z hz => h.1 z (List.mem_of_mem_drop hz))
    rw [hl]
    obtain ⟨E, hE⟩ : ∃ E, opE zs = E := ⟨_, rfl⟩
    obtain ⟨p, hp⟩ : ∃ p, opP zs = p := ⟨_, rfl⟩
    rw [hE, hp] at hno hyes
    rw [hE] at e1 ⊢
    rw [hp]
    obtain ⟨x0, h0⟩ : ∃ x, getI zs 0 4 = x := ⟨_, rfl⟩
    obtain ⟨s0, hs0⟩ : ∃ x, crc (zs.drop 4) = x := ⟨_, rfl⟩
    obtain ⟨x4, h4⟩ : ∃ x, getI zs 4 1 = x := ⟨_, rfl⟩
    obtain ⟨x5, h5⟩ : ∃ x, getI zs 5 1 = x := ⟨_, rfl⟩
    obtain ⟨x6, h6⟩ : ∃ x, getI zs 6 2 = x := ⟨_, rfl⟩
    have c0 := cn 0 4
    have c6 := cn 6 2
    rw [h0] at c0 e1
    rw [h4] at e1 hyes l4 b4
    rw [h5] at hyes l5 b5
    rw [h6] at c6 hyes
    rw [hs0] at cs e1 bs
    have C0 : Hid _ := c0
    have L4 : Hid _ := l4
    have L5 : Hid _ := l5
    have C6 : Hid _ := c6
    have CS : Hid _ := cs
    have CC : Hid _ := cc
    have HE : Hid _ := e1
    have HNO : Hid (∀ {base : Nat} {w : World}, E ≠ 0 → Opened base w (.agg #[.int .i64 0, .int .i64 0, .int .i64 0, .slice none 0 0]) p) := @hno
    have HYES : Hid _ := hyes
    clear c0 c6 cs cc cn h0 h4 h5 h6 hs0 e1 hno hyes hE hp h hl l4 l5
    have HB0 : Hid (Below w.heap.size w (w.alloc (.cells #[.int .i64 0, .int .i64 0, .int .i64 0, .slice none 0 0] 127))) := (Below.refl _ _).alloc (Nat.le_refl _) _
    have S0 : Hid (Slot (w.alloc (.cells #[.int .i64 0, .int .i64 0, .int .i64 0, .slice none 0 0] 127)) w.heap.size _ _ _ _) := slot_new w _ _ _ _ 127
    have ws : IntKind.i64.wrap s0 = s0 := wrap_i64 bs.1 bs.2
    have w4 : IntKind.i64.wrap x4 = x4 := wrap_i64 b4.1 (by omega)
    have w5 : IntKind.i64.wrap x5 = x5 := wrap_i64 b5.1 (by omega)
    by_cases hs : x0 = s0
    · have hsb : (x0 != s0) = false := by simp [hs]
      have hsw : (x0 != IntKind.i64.wrap s0) = false := by rw [ws]; exact hsb
      have HS : Hid (x0 = s0) := hs
      clear hs
      cases hk : okK x4
      · have he : E = 4 := by rw [HE.out, if_pos HS.out, hk]; rfl
        subst he
        have hx : x4 < 1 ∨ 5 < x4 := by simp [okK] at hk; omega
        clear hk
        rcases hx with hx | hx
        all_goals
          go_enter Tryz.func95, Tryz.ntmps95
          go_wp2_with fail
          go_region_held3 (fun _ => True) (first | trivial | go_keep) (first
            | (go_at_call 96; refine (C0.out _ HB0.out.drew).mono ?_; rintro e w1 ⟨rfl, hb1⟩; have HB1 : Hid (Below w.heap.size w w1) := HB0.out.drew.trans (hb1.mono HB0.out.size); have S1 : Hid (Slot w1 w.heap.size _ _ _ _) := (S0.out.below (Below.refl _ _).drew).below hb1; clear hb1)
            | (go_at_call 42; refine (CS.out _ HB1.out).mono ?_; rintro e w2 ⟨rfl, hb2⟩; have HB2 : Hid (Below w.heap.size w w2) := HB1.out.trans (hb2.mono HB1.out.size); have S2 : Hid (Slot w2 w.heap.size _ _ _ _) := S1.out.below hb2; clear hb2))
          obtain ⟨⟨k0, k1, k2, k3⟩, f0, f1, f2, f3⟩ := S2.out
          have k4 := L4.out _ HB2.out
          go_wp2
          clear k0 k1 k2 k3 f0 f1 f2 f3
          obtain ⟨⟨q0, q1, q2, q3⟩, _⟩ := S2.out.wrote (.int .i64 0) (.int .i64 0) (.int .i64 0) (.slice none 0 0)
          refine bodyPost_ret (v := .tuple #[.agg #[.int .i64 0, .int .i64 0, .int .i64 0, .slice none 0 0], .int .i64 4]) ?_ rfl ⟨_, rfl, HNO.out (by decide), below_wrote HB2.out (Nat.le_refl _) _ _ _ _⟩
          simp [results, Tryz.results95, go_sem, q0, q1, q2, q3]
      · have he : E = 0 := by rw [HE.out, if_pos HS.out, hk]; rfl
        subst he
        have hp := HYES.out rfl
        subst hp
        have hx : 1 ≤ x4 ∧ x4 ≤ 5 := by simpa [okK] using hk
        obtain ⟨hx1, hx2⟩ := hx
        clear hk
        go_enter Tryz.func95, Tryz.ntmps95
        go_wp2_with fail
        go_region_held3 (fun _ => True) (first | trivial | go_keep) (first
          | (go_at_call 96; refine (C0.out _ HB0.out.drew).mono ?_; rintro e w1 ⟨rfl, hb1⟩; have HB1 : Hid (Below w.heap.size w w1) := HB0.out.drew.trans (hb1.mono HB0.out.size); have S1 : Hid (Slot w1 w.heap.size _ _ _ _) := (S0.out.below (Below.refl _ _).drew).below hb1; clear hb1)
          | (go_at_call 42; refine (CS.out _ HB1.out).mono ?_; rintro e w2 ⟨rfl, hb2⟩; have HB2 : Hid (Below w.heap.size w w2) := HB1.out.trans (hb2.mono HB1.out.size); have S2 : Hid (Slot w2 w.heap.size _ _ _ _) := S1.out.below hb2; clear hb2))
        have k4 := L4.out _ HB2.out
        have k5 := L5.out _ HB2.out
        go_wp2
        go_region_held3 (fun w' => w'.cell? ⟨b, off + 4, none⟩ = some (.int .u8 x4) ∧ w'.cell? ⟨b, off + 5, none⟩ = some (.int .u8 x5)) (first | exact ⟨L4.out _ HB2.out.drew, L5.out _ HB2.out.drew⟩ | exact ⟨L4.out _ HB3.out, L5.out _ HB3.out⟩ | exact ⟨L4.out _ HB4.out, L5.out _ HB4.out⟩ | exact ⟨L4.out _ (below_wrote HB4.out (Nat.le_refl _) _ _ _ _), L5.out _ (below_wrote HB4.out (Nat.le_refl _) _ _ _ _)⟩ | go_keep) (first
          | (go_at_call 96; refine (C6.out _ HB2.out.drew).mono ?_; rintro e w3 ⟨rfl, hb3⟩; have HB3 : Hid (Below w.heap.size w w3) := HB2.out.drew.trans (hb3.mono HB2.out.size); have S3 : Hid (Slot w3 w.heap.size _ _ _ _) := (S2.out.below (Below.refl _ _).drew).below hb3; clear hb3)
          | (go_at_call 40; refine (CC.out _ HB3.out).mono ?_; rintro e w4 ⟨g, c, rfl, ho, hb4⟩; have HB4 : Hid (Below w.heap.size w w4) := HB3.out.trans (hb4.mono HB3.out.size); have S4 : Hid (Slot w4 w.heap.size _ _ _ _) := S3.out.below hb4; have HO : Hid (Own w3.heap.size w4 (.slice g 248 c) (zs.drop 8)) := ho; have HS4 : Hid (w.heap.size < w3.heap.size) := block_lt_of_cell S3.out.1.1; clear hb4 ho; obtain ⟨⟨k0, k1, k2, k3⟩, f0, f1, f2, f3⟩ := S4.out))
        go_wp2
        clear k0 k1 k2 k3 f0 f1 f2 f3
        obtain ⟨⟨q0, q1, q2, q3⟩, _⟩ := S4.out.wrote (.int .i64 x4) (.int .i64 x5) (.int .i64 x6) (.slice g 248 c)
        refine bodyPost_ret (v := .tuple #[.agg #[.int .i64 x4, .int .i64 x5, .int .i64 x6, .slice g 248 c], .int .i64 0]) ?_ rfl ⟨_, rfl, ⟨_, rfl, ?_⟩, below_wrote HB4.out (Nat.le_refl _) _ _ _ _⟩
        · simp [results, Tryz.results95, go_sem, q0, q1, q2, q3]
        · exact (HO.out.keep (fun j hj => heap_wrote _ _ _ _ _ _ _ (by have := HS4.out; omega))).weaken (Nat.le_of_lt HS4.out)
    · have hsb : (x0 != s0) = true := by simpa using hs
      have hsw : (x0 != IntKind.i64.wrap s0) = true := by rw [ws]; exact hsb
      have he : E = 5 := by rw [HE.out, if_neg hs]
      subst he
      clear hs
      go_enter Tryz.func95, Tryz.ntmps95
      go_wp2_with fail
      go_region_held3 (fun _ => True) (first | trivial | go_keep) (first
        | (go_at_call 96; refine (C0.out _ HB0.out.drew).mono ?_; rintro e w1 ⟨rfl, hb1⟩; have HB1 : Hid (Below w.heap.size w w1) := HB0.out.drew.trans (hb1.mono HB0.out.size); have S1 : Hid (Slot w1 w.heap.size _ _ _ _) := (S0.out.below (Below.refl _ _).drew).below hb1; clear hb1)
        | (go_at_call 42; refine (CS.out _ HB1.out).mono ?_; rintro e w2 ⟨rfl, hb2⟩; have HB2 : Hid (Below w.heap.size w w2) := HB1.out.trans (hb2.mono HB1.out.size); have S2 : Hid (Slot w2 w.heap.size _ _ _ _) := S1.out.below hb2; clear hb2))
      obtain ⟨⟨k0, k1, k2, k3⟩, f0, f1, f2, f3⟩ := S2.out
      go_wp2
      clear k0 k1 k2 k3 f0 f1 f2 f3
      obtain ⟨⟨q0, q1, q2, q3⟩, _⟩ := S2.out.wrote (.int .i64 0) (.int .i64 0) (.int .i64 0) (.slice none 0 0)
      refine bodyPost_ret (v := .tuple #[.agg #[.int .i64 0, .int .i64 0, .int .i64 0, .slice none 0 0], .int .i64 5]) ?_ rfl ⟨_, rfl, HNO.out (by decide), below_wrote HB2.out (Nat.le_refl _) _ _ _ _⟩
      simp [results, Tryz.results95, go_sem, q0, q1, q2, q3]
  · have hv : opE zs = 1 := by simp [opE, hl]
    have hp := opened_no w.heap.size w zs (by omega)
    have hlb : ((zs.length : Int) != 256) = true := by simp; omega
    have hm := Nat.le_trans h.2.1 h.2.2.1
    unfold maxLen at hm
    rw [hv]
    clear hv h hl
    go_enter Tryz.func95, Tryz.ntmps95
    go_wp2
    refine bodyPost_ret (v := .tuple #[.agg #[.int .i64 0, .int .i64 0, .int .i64 0, .slice none 0 0], .int .i64 1]) ?_ rfl ⟨_, rfl, hp.alloc _, (Below.refl _ _).alloc (Nat.le_refl _) _⟩
    simp [results, Tryz.results95, go_sem]
end Go.Proofs.YtjllhcifmfhkmaaGreat.Oct

/-
  There and back, plainly; a byte that is turned.
-/
namespace Go.Proofs.YtjllhcifmfhkmaaGreat.Oct
open Go.RowKit

theorem getI_mid (A Z B : List Int) (p n : Int) (hz : Bys Z) (hp : p = A.length) (hn : n = Z.length) (h1 : 1 ≤ Z.length) (h7 : Z.length ≤ 7) : getI (A ++ (Z ++ B)) p n = num Z 0 Z.length := by
  have hb := num_bd7 hz 0 Z.length h7
  unfold getI
  rw [hp, hn, ins_yes h1 (by omega) (by simp), if_pos rfl, Int.toNat_natCast, Int.toNat_natCast, num_mid _ _ _ _ (Nat.le_refl _)]
  exact (cap_yes (by omega)).1

def padP (p : Pg) : Pg := ⟨p.kind, p.level, p.count, p.body ++ List.replicate (248 - p.body.length) 0⟩

theorem seal_parts (p : Pg) : sealL p = nums 4 (crc (tailP p)).toNat ++ (nums 1 p.kind.toNat ++ (nums 1 p.level.toNat ++ (nums 2 p.count.toNat ++ (padP p).body))) := by
  unfold sealL tailP padP
  simp only [List.append_assoc]

theorem numsZ {n X : Nat} (h : X < 256 ^ n) : num (nums n X) 0 (nums n X).length = (X : Int) := by rw [nums_len]; exact num_nums n X h

theorem open_seal {p : Pg} (hb : Bys p.body) (h : sealE p = 0) : opE (sealL p) = 0 ∧ opP (sealL p) = padP p := by
  obtain ⟨ha, hl⟩ := sealE_zero h
  obtain ⟨h1, h2, h3⟩ := argP_out ha
  have hc := crc_bd (tail_bys hb)
  have hlen := seal_len hl
  have hd4 : (sealL p).drop 4 = tailP p := by
    unfold sealL
    rw [List.drop_append, nums_len, List.drop_of_length_le (by rw [nums_len]; omega)]
    simp
  have g0 : getI (sealL p) 0 4 = crc (tailP p) := by
    have := getI_mid [] (nums 4 (crc (tailP p)).toNat) (tailP p) 0 4 (nums_bys _ _) rfl (by rw [nums_len]; rfl) (by rw [nums_len]; omega) (by rw [nums_len]; omega)
    rw [List.nil_append] at this
    show getI (nums 4 (crc (tailP p)).toNat ++ tailP p) 0 4 = _
    rw [this, numsZ (by omega)]
    omega
  have g4 : getI (sealL p) 4 1 = p.kind := by
    rw [seal_parts, getI_mid (nums 4 _) (nums 1 p.kind.toNat) _ 4 1 (nums_bys _ _) (by rw [nums_len]; rfl) (by rw [nums_len]; rfl) (by rw [nums_len]; omega) (by rw [nums_len]; omega), numsZ (by omega)]
    omega
  have g5 : getI (sealL p) 5 1 = p.level := by
    rw [seal_parts, ← List.append_assoc, getI_mid (nums 4 _ ++ nums 1 p.kind.toNat) (nums 1 p.level.toNat) _ 5 1 (nums_bys _ _) (by simp [nums_len]) (by rw [nums_len]; rfl) (by rw [nums_len]; omega) (by rw [nums_len]; omega), numsZ (by omega)]
    omega
  have g6 : getI (sealL p) 6 2 = p.count := by
    rw [seal_parts, ← List.append_assoc, ← List.append_assoc, getI_mid ((nums 4 _ ++ nums 1 p.kind.toNat) ++ nums 1 p.level.toNat) (nums 2 p.count.toNat) _ 6 2 (nums_bys _ _) (by simp [nums_len]) (by rw [nums_len]; rfl) (by rw [nums_len]; omega) (by rw [nums_len]; omega), numsZ (by omega)]
    omega
  have hd8 : (sealL p).drop 8 = (padP p).body := by
    rw [seal_parts, ← List.append_assoc, ← List.append_assoc, ← List.append_assoc]
    have hl8 : (((nums 4 (crc (tailP p)).toNat ++ nums 1 p.kind.toNat) ++ nums 1 p.level.toNat) ++ nums 2 p.count.toNat).length = 8 := by simp [nums_len]
    rw [List.drop_append, hl8, List.drop_of_length_le (by omega)]
    simp
  have he : opE (sealL p) = 0 := by
    unfold opE
    rw [if_pos hlen, g0, hd4, if_pos rfl, g4, show okK p.kind = true from decide_eq_true h1]
    rfl
  refine ⟨he, ?_⟩
  unfold opP
  rw [if_pos he, g4, g5, g6, hd8]
  rfl

theorem cut5 (raw : List Int) (hl : raw.length = 256) : ∃ A B C D F : List Int, raw = A ++ (B ++ (C ++ (D ++ F))) ∧ A.length = 4 ∧ B.length = 1 ∧ C.length = 1 ∧ D.length = 2 ∧ F.length = 248 := by
  refine ⟨raw.take 4, (raw.drop 4).take 1, ((raw.drop 4).drop 1).take 1, (((raw.drop 4).drop 1).drop 1).take 2, (((raw.drop 4).drop 1).drop 1).drop 2, ?_, ?_, ?_, ?_, ?_, ?_⟩
  · simp only [List.take_append_drop]
  all_goals simp [hl]

theorem seal_open {raw : List Int} (hb : Bys raw) (h : opE raw = 0) : sealE (opP raw) = 0 ∧ sealL (opP raw) = raw ∧ Bys (opP raw).body ∧ (opP raw).body.length = 248 := by
  have hp : opP raw = ⟨getI raw 4 1, getI raw 5 1, getI raw 6 2, raw.drop 8⟩ := by unfold opP; rw [if_pos h]
  unfold opE at h
  by_cases hl : raw.length = 256
  · rw [if_pos hl] at h
    by_cases hs : getI raw 0 4 = crc (raw.drop 4)
    · rw [if_pos hs] at h
      by_cases hk : okK (getI raw 4 1) = true
      · have hk' : 1 ≤ getI raw 4 1 ∧ getI raw 4 1 ≤ 5 := of_decide_eq_true hk
        obtain ⟨A, B, C, D, F, e, lA, lB, lC, lD, lF⟩ := cut5 raw hl
        have bA : Bys A := fun z hz => hb z (by rw [e]; simp [hz])
        have bB : Bys B := fun z hz => hb z (by rw [e]; simp [hz])
        have bC : Bys C := fun z hz => hb z (by rw [e]; simp [hz])
        have bD : Bys D := fun z hz => hb z (by rw [e]; simp [hz])
        have bF : Bys F := fun z hz => hb z (by rw [e]; simp [hz])
        have g0 : getI raw 0 4 = num A 0 A.length := by
          have := getI_mid [] A (B ++ (C ++ (D ++ F))) 0 4 bA rfl (by rw [lA]; rfl) (by omega) (by omega)
          rw [List.nil_append] at this
          rw [e]; exact this
        have g4 : getI raw 4 1 = num B 0 B.length := by
          rw [e, getI_mid A B _ 4 1 bB (by rw [lA]; rfl) (by rw [lB]; rfl) (by omega) (by omega)]
        have g5 : getI raw 5 1 = num C 0 C.length := by
          rw [e, ← List.append_assoc, getI_mid (A ++ B) C _ 5 1 bC (by rw [List.length_append, lA, lB]; rfl) (by rw [lC]; rfl) (by omega) (by omega)]
        have g6 : getI raw 6 2 = num D 0 D.length := by
          rw [e, ← List.append_assoc, ← List.append_assoc, getI_mid ((A ++ B) ++ C) D _ 6 2 bD (by rw [List.length_append, List.length_append, lA, lB, lC]; rfl) (by rw [lD]; rfl) (by omega) (by omega)]
        have d4 : raw.drop 4 = B ++ (C ++ (D ++ F)) := by rw [e, List.drop_append, lA, List.drop_of_length_le (by omega)]; simp
        have d8 : raw.drop 8 = F := by
          rw [e, ← List.append_assoc, ← List.append_assoc, ← List.append_assoc, List.drop_append, List.drop_of_length_le (by simp [lA, lB, lC, lD])]
          simp [lA, lB, lC, lD]
        have n1 : nums 1 (num B 0 B.length).toNat = B := by have := nums_num bB; rwa [lB] at this ⊢
        have n2 : nums 1 (num C 0 C.length).toNat = C := by have := nums_num bC; rwa [lC] at this ⊢
        have n3 : nums 2 (num D 0 D.length).toNat = D := by have := nums_num bD; rwa [lD] at this ⊢
        have n0 : nums 4 (num A 0 A.length).toNat = A := by have := nums_num bA; rwa [lA] at this ⊢
        have ht : tailP (opP raw) = raw.drop 4 := by
          rw [hp, d4]
          unfold tailP
          dsimp only
          rw [g4, g5, g6, d8, n1, n2, n3, lF]
          simp
        have b5 := num_bd bC 0 C.length
        have b6 := num_bd bD 0 D.length
        rw [lC] at b5
        rw [lD] at b6
        have e5 : getI raw 5 1 = num C 0 1 := by rw [g5, lC]
        have e6 : getI raw 6 2 = num D 0 2 := by rw [g6, lD]
        refine ⟨?_, ?_, ?_, ?_⟩
        · unfold sealE
          have : argP (opP raw) = true := by
            rw [hp]
            refine decide_eq_true ⟨hk', ?_, ?_⟩
            · show 0 ≤ getI raw 5 1 ∧ getI raw 5 1 ≤ 255
              rw [e5]; omega
            · show 0 ≤ getI raw 6 2 ∧ getI raw 6 2 ≤ 65535
              rw [e6]; omega
          rw [if_pos this, if_pos (by rw [hp]; show (raw.drop 8).length ≤ 248; rw [d8]; omega)]
        · unfold sealL
          rw [ht, ← hs, g0, n0, d4, ← e]
        · rw [hp]; show Bys (raw.drop 8); rw [d8]; exact bF
        · rw [hp]; show (raw.drop 8).length = 248; rw [d8]; exact lF
      · rw [if_neg hk] at h; exact absurd h (by decide)
    · rw [if_neg hs] at h; exact absurd h (by decide)
  · rw [if_neg hl] at h; exact absurd h (by decide)

theorem open_turned {p : Pg} (hb : Bys p.body) (h : sealE p = 0) (j : Nat) (hj : j < 256) (y : Int) (h0 : 0 ≤ y) (h1 : y ≤ 255) (hy : y ≠ (sealL p).getD j 0) : opE ((sealL p).set j y) = 5 := by
  obtain ⟨ha, hl⟩ := sealE_zero h
  have hlen := seal_len hl
  have htl := tail_len hl
  have hc := crc_bd (tail_bys hb)
  have htb := tail_bys hb
  unfold opE
  rw [if_pos (by rw [List.length_set]; exact hlen), if_neg]
  unfold sealL at hy ⊢
  obtain ⟨T, hT⟩ : ∃ T, tailP p = T := ⟨_, rfl⟩
  rw [hT] at hy htl hc htb ⊢
  obtain ⟨N, hN⟩ : ∃ N, nums 4 (crc T).toNat = N := ⟨_, rfl⟩
  have lN : N.length = 4 := by rw [← hN, nums_len]
  have bN : Bys N := by rw [← hN]; exact nums_bys _ _
  have vN : num N 0 N.length = crc T := by rw [← hN, numsZ (by omega)]; omega
  rw [hN] at hy ⊢
  by_cases hj4 : j < 4
  · have e : (N ++ T).set j y = N.set j y ++ T := by rw [List.set_append, if_pos (by omega)]
    have bS : Bys (N.set j y) := bN.set j h0 h1
    have lS : (N.set j y).length = 4 := by rw [List.length_set, lN]
    have g := getI_mid [] (N.set j y) T 0 4 bS rfl (by rw [lS]; rfl) (by omega) (by omega)
    rw [List.nil_append] at g
    have d : (N.set j y ++ T).drop 4 = T := by rw [List.drop_append, lS, List.drop_of_length_le (by omega)]; simp
    rw [e, g, d, ← vN]
    intro eq
    have d1 := dgt_num bS 0 4 j hj4
    have d2 := dgt_num bN 0 4 j hj4
    rw [lS, lN] at eq
    rw [eq, d2, Nat.zero_add, getD_set_same _ _ _ (by omega)] at d1
    apply hy
    rw [app_at, if_pos (by omega)]
    exact d1.symm
  · have e : (N ++ T).set j y = N ++ T.set (j - 4) y := by rw [List.set_append, if_neg (by omega), lN]
    have g := getI_mid [] N (T.set (j - 4) y) 0 4 bN rfl (by rw [lN]; rfl) (by omega) (by omega)
    rw [List.nil_append] at g
    have d : (N ++ T.set (j - 4) y).drop 4 = T.set (j - 4) y := by rw [List.drop_append, lN, List.drop_of_length_le (by omega)]; simp
    rw [e, g, d, vN]
    rw [app_at, if_neg (by omega), lN] at hy
    exact fun eq => crc_turn htb (j := j - 4) (by omega) h0 h1 hy eq.symm
end Go.Proofs.YtjllhcifmfhkmaaGreat.Oct
