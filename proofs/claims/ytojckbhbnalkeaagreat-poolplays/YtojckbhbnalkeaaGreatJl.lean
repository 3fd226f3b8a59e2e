/-
  The document's Pin.
-/
import Derived.Test.YtojckbhbnalkeaaGreatJj
namespace Go.Proofs.YtojckbhbnalkeaaGreat.Oct
open Go.RowKit

theorem tkD_bd (D : Dv) (N : Nat) (L : List Fr) : (tkD D N L).n = D.n ∧ (tkD D N L).ops ≤ D.ops + 1 ∧ (tkD D N L).since.length ≤ D.since.length + 1 := by
  unfold tkD
  split
  · exact ⟨rfl, by omega, by omega⟩
  · split
    · exact evD_bd _ _
    · exact ⟨rfl, by omega, by omega⟩
theorem tkL_len (D : Dv) (N : Nat) (L : List Fr) : (tkL D N L).length ≤ L.length := by
  unfold tkL
  split
  · omega
  · split
    · split
      · exact List.length_eraseIdx_le _ _
      · omega
    · omega

section
variable {w : World} {p q : Nat} {F : Nat → Prop} {D : Dv} {N : Nat} {L : List Fr}

theorem rPin_bad (h : RP w p q F D N L) (pg : Int) (hb : decide (0 ≤ pg ∧ pg < (D.n : Int)) = false) :
    Calls Tryz.prog 11 #[.pointer (some ⟨p, 0, none⟩), .int .i64 pg] w fun x w' => x = .returned (.tuple #[.slice none 0 0, .int .i64 1]) ∧ w = w' := by
  have hp := rpage_all h pg
  rw [hb] at hp
  obtain ⟨a, cap, c0, -⟩ := h.look
  clear h hb
  go_enter Tryz.func11, Tryz.ntmps11
  go_wp2_with (go_at_call 47; refine hp.mono ?_; rintro x w1 ⟨rfl, rfl⟩)
  go_ret2
  exact ⟨rfl, rfl⟩

set_option maxHeartbeats 4000000 in
set_option maxRecDepth 20000 in
theorem rPin_any (h : RP w p q F D N L) (hops : D.ops ≤ 900000) (hsl : D.since.length ≤ 900000) (hK : L.length ≤ 4500) (hpn : ∀ f ∈ L, f.pins ≤ 1000000) (hfr : ∀ f ∈ L, f.page < D.n ∧ f.ok) (pg : Nat) (hpg : pg < D.n) :
    Calls Tryz.prog 11 #[.pointer (some ⟨p, 0, none⟩), .int .i64 pg] w fun x w' => PinR D N L pg w x w' ∧ ∃ F', RP w' p q F' (usD D N L pg true) N (pnL D N L pg) ∧ Step F F' w w' := by
  have hpa := rpage_all h (pg : Int)
  rw [show decide ((0 : Int) ≤ pg ∧ (pg : Int) < (D.n : Int)) = true by simp; omega] at hpa
  have hfi := rfind_all h (pg : Int)
  obtain ⟨a0, cap0, c0, -⟩ := h.look
  have HP : Hid (RP w p q F D N L) := h
  by_cases hf : fiP L pg < L.length
  · rw [fdV_yes hf] at hfi
    have hla := rlast_all h (by omega) _ hf
    obtain ⟨fp, fo⟩ := hfr _ (getD_memF hf)
    have hpn3 := hpn _ (getD_memF hf)
    have e1 : usE D N L pg true = 0 := if_pos hf
    have e3 : usL D N L pg true = L.eraseIdx (fiP L pg) ++ [L.getD (fiP L pg) fr0] := if_pos hf
    have hX : (L.eraseIdx (fiP L pg)).length ≤ 5000 := by have := List.length_eraseIdx_le L (fiP L pg); omega
    have hu : usE D N L pg true = 0 ∧ usD D N L pg true = D ∧ pnL D N L pg = L.eraseIdx (fiP L pg) ++ [{ L.getD (fiP L pg) fr0 with pins := (L.getD (fiP L pg) fr0).pins + 1 }] ∧ pnB D N L pg = (L.getD (fiP L pg) fr0).b := by
      refine ⟨e1, if_pos hf, ?_, ?_⟩
      · unfold pnL; rw [if_pos e1, e3, lastUp_snoc]
      · unfold pnB; rw [e3]; simp
    obtain ⟨X, hXe⟩ : ∃ X, L.eraseIdx (fiP L pg) = X := ⟨_, rfl⟩
    obtain ⟨f, hfe⟩ : ∃ f, L.getD (fiP L pg) fr0 = f := ⟨_, rfl⟩
    rw [hXe, hfe] at hu hla
    rw [hXe] at hX
    rw [hfe] at fo hpn3
    obtain ⟨D3, hD3⟩ : ∃ D3, D = D3 := ⟨_, rfl⟩
    have HU : Hid (usE D N L pg true = 0 ∧ usD D N L pg true = D3 ∧ pnL D N L pg = X ++ [{ f with pins := f.pins + 1 }] ∧ pnB D N L pg = f.b) := by rw [← hD3]; exact hu
    have HOK : Hid f.ok := fo
    have HD3 : Hid (D = D3) := hD3
    obtain ⟨i, hi⟩ : ∃ i, fiP L (pg : Int) = i := ⟨_, rfl⟩
    rw [hi] at hfi hla
    clear h hu fp fo e1 e3 hXe hfe hi hf hfr hpn hD3
    go_enter Tryz.func11, Tryz.ntmps11
    go_wp2_with (first | (go_at_call 47; refine hpa.mono ?_; rintro x w1 ⟨rfl, rfl⟩) | (go_at_call 48; refine hfi.mono ?_; rintro x w1 ⟨rfl, rfl⟩))
    refine hla.mono ?_
    clear hla hfi hpa
    rintro x w3 ⟨rfl, F3, h3, st3⟩
    have H3 : Hid (RP w3 p q F3 D3 N (X ++ [f]) ∧ Step F F3 w w3) := by
      have := HD3.out
      subst this
      exact ⟨h3, st3⟩
    clear h3 st3
    have hgl : (X ++ [f]).length = X.length + 1 := by simp
    have hgd : (X ++ [f]).getD X.length fr0 = f := by simp [List.getD_eq_getElem?_getD]
    have hst : ∀ f' : Fr, (X ++ [f]).set X.length f' = X ++ [f'] := fun f' => by rw [List.set_append_right _ _ (Nat.le_refl _), Nat.sub_self]; rfl
    obtain ⟨g, cap, c2', hle', hmx', hz, -, d1, -, ⟨_, _, _, _, hgp⟩, hset, -⟩ := H3.out.1.field X.length (by rw [hgl]; omega)
    rw [hgl] at c2' hle'
    rw [hgd] at d1 hset
    have h4 := hset (f.pins + 1)
    rw [hst] at h4
    obtain ⟨g4, cap4, c24, -, -, -, -, -, -, ⟨xg, xc, d34, ho4, -⟩, -, -⟩ := h4.1.field X.length (by simp)
    have hgl' : (X ++ [{ f with pins := f.pins + 1 }]).length = X.length + 1 := by simp
    have hgd' : (X ++ [{ f with pins := f.pins + 1 }]).getD X.length fr0 = { f with pins := f.pins + 1 } := by simp [List.getD_eq_getElem?_getD]
    rw [hgl'] at c24
    rw [hgd'] at ho4
    have hpg' : ¬ p = g := fun e => hgp e.symm
    have c2k : (w3.setCell ⟨g, X.length * 4 + 1, none⟩ (.int .i64 ((f.pins + 1 : Nat) : Int))).cell? ⟨p, 2, none⟩ = some (.slice (some ⟨g, 0, none⟩) (X.length + 1) cap) := (World.cell?_of_block (w := w3) (a := ⟨p, 2, none⟩) (Below.heap_setCell _ _ _ _ hpg')).trans c2'
    rw [c2k] at c24
    simp only [Option.some.injEq, Value.slice.injEq, Addr.mk.injEq, and_true, true_and] at c24
    obtain ⟨rfl, rfl⟩ := c24
    have hcp := copy_page (some ⟨xg, 0, none⟩) xc f.b _ (ho4.row' HOK.out.2).2 HOK.out.1
    have z1 := hz (X.length * 4 + 1)
    have H4 : Hid _ := h4
    obtain ⟨pn, hpe⟩ : ∃ pn, f.pins = pn := ⟨_, rfl⟩
    rw [hpe] at d1 hcp c2k d34 hpn3
    have HPE : Hid (f.pins = pn) := hpe
    have hwrap : ((pn + 1 : Nat) : Int) = (pn : Int) + 1 := by omega
    rw [hwrap] at hcp c2k d34
    unfold maxLen at hmx'
    clear hgl hgd hst hset h4 hgl' hgd' hz ho4 hpe hwrap
    go_wp2_with (go_at_call 52; refine hcp.mono ?_; rintro x w5 ⟨gg, cc, rfl, ho5, hb5⟩; have HO5 : Hid _ := ho5; have HB5 : Hid _ := hb5; clear ho5 hb5)
    go_ret2
    have h4 := H4.out
    have hs3 := H3.out.2.1.size
    have e4 : ((f.pins + 1 : Nat) : Int) = (pn : Int) + 1 := by rw [HPE.out]; omega
    rw [e4] at h4
    refine ⟨.inl ⟨HU.out.1, gg, cc, rfl, ?_⟩, F3, ?_, ?_⟩
    · rw [HU.out.2.2.2]
      exact owns_base HO5.out (fun k hk => by have := (World.ownsRow.lt HO5.out k hk).1; rw [size_setCell] at this; omega)
    · rw [HU.out.2.1, HU.out.2.2.1]
      exact h4.1.below HB5.out
    · exact (H3.out.2.trans (Step.of h4.2)).trans (Step.ofB HB5.out)
  · rw [fdV_no hf] at hfi
    have htk := rtake_any h (by omega) (by omega) (by omega) hfr
    obtain ⟨b1, b2, b3⟩ := tkD_bd D N L
    have hll := tkL_len D N L
    by_cases hte : tkE D N L = 0
    · rw [hte] at htk
      have eD : usD D N L pg true = readD (tkD D N L) := by unfold usD; rw [if_neg hf, if_pos hte, if_pos rfl]
      by_cases htl : tellsD (tkD D N L) = true
      · have e1 : usE D N L pg true = 0 := by unfold usE; rw [if_neg hf, if_pos hte, if_neg (by rintro ⟨-, e⟩; rw [htl] at e; simp at e)]
        have e3 : usL D N L pg true = tkL D N L ++ [⟨pg, pageOf (tkD D N L).now pg, false, 0⟩] := by unfold usL; rw [if_neg hf, if_pos e1]; rfl
        have hu : usE D N L pg true = 0 ∧ usD D N L pg true = readD (tkD D N L) ∧ pnL D N L pg = tkL D N L ++ [{ (⟨pg, pageOf (tkD D N L).now pg, false, 0⟩ : Fr) with pins := (⟨pg, pageOf (tkD D N L).now pg, false, 0⟩ : Fr).pins + 1 }] ∧ pnB D N L pg = (⟨pg, pageOf (tkD D N L).now pg, false, 0⟩ : Fr).b := by
          refine ⟨e1, eD, ?_, ?_⟩
          · unfold pnL; rw [if_pos e1, e3, lastUp_snoc]
          · unfold pnB; rw [e3]; simp
        obtain ⟨X, hXe⟩ : ∃ X, tkL D N L = X := ⟨_, rfl⟩
        obtain ⟨D1, hD1⟩ : ∃ D1, tkD D N L = D1 := ⟨_, rfl⟩
        rw [hXe, hD1] at hu htk
        rw [hXe] at hll
        rw [hD1] at htl b1 b2 b3
        obtain ⟨f, hfe⟩ : ∃ f, (⟨pg, pageOf D1.now pg, false, 0⟩ : Fr) = f := ⟨_, rfl⟩
        have hpn3 : f.pins ≤ 1000000 := by rw [← hfe]; show 0 ≤ 1000000; omega
        rw [hfe] at hu
        have HU : Hid (usE D N L pg true = 0 ∧ usD D N L pg true = readD D1 ∧ pnL D N L pg = X ++ [{ f with pins := f.pins + 1 }] ∧ pnB D N L pg = f.b) := hu
        have HFE : Hid ((⟨pg, pageOf D1.now pg, false, 0⟩ : Fr) = f) := hfe
        have HTL : Hid (tellsD D1 = true) := htl
        have hX : X.length ≤ 5000 := by omega
        obtain ⟨i0, zz, hi0, hz0, hz1, hz2, hz3⟩ := partsRF
        clear hu e1 e3 eD hXe hD1 hfe hte htl hfr hpn h hf
        go_enter Tryz.func11, Tryz.ntmps11
        go_wp2_with (first | (go_at_call 47; refine hpa.mono ?_; rintro x w1 ⟨rfl, rfl⟩) | (go_at_call 48; refine hfi.mono ?_; rintro x w1 ⟨rfl, rfl⟩))
        refine htk.mono ?_
        clear htk hfi hpa
        rintro x w1 ⟨rfl, F1, h1, st1⟩
        obtain ⟨a1, cap1, c01, -⟩ := h1.look
        have hrd := rread_all h1 (by omega) pg (by omega)
        have hok1 : D1.ok := by obtain ⟨Fd, hd, -⟩ := h1.dev; exact hd.1
        have HOK : Hid f.ok := by
          show f.ok
          rw [← HFE.out]
          exact ⟨pgLen hok1 (by omega), pgBys hok1 pg⟩
        have HF1 : Hid (∀ k, F1 k → k < w1.heap.size) := h1.1
        have HS1 : Hid (Step F F1 w w1) := st1
        clear h1 st1 hok1
        go_wp2_with fail
        refine hrd.mono ?_
        clear hrd
        rintro x w2 ⟨hx, h2, hc2⟩
        unfold ReadEnd at hx
        rw [if_pos HTL.out] at hx
        obtain ⟨rg, rc, rfl, ho2⟩ := hx
        obtain ⟨a2, cap2, xs, c22, hpl2, hrow2, hfin⟩ := h2.pushed
        have hrgl := ho2.lt2
        have HR2 : Hid (w2.ownsRow 0 81 4 (.slice a2 X.length cap2) X.length xs) := hrow2
        have HFIN : Hid (∀ (w3 : World) (g2 cap3 : Nat) (o : Obj), w3.ownsRow 0 81 4 (.slice (some ⟨g2, 0, none⟩) (X.length + 1) cap3) (X.length + 1) (xs ++ [.int .i64 pg, .int .i64 0, .bool false, .slice (some ⟨rg, 0, none⟩) 256 rc]) → (w2.alloc o).grownBy w3 (Value.slice a2 X.length cap2).ownBlock → ((Value.slice a2 X.length cap2).ownBlock = some g2 ∨ g2 = w2.heap.size + 1) →
            (w3.cell? ⟨p, 2, none⟩ = some (.slice a2 X.length cap2) ∧ w3.frozen? ⟨p, 2, none⟩ = false) ∧ ∃ F', RP (w3.setCell ⟨p, 2, none⟩ (.slice (some ⟨g2, 0, none⟩) (X.length + 1) cap3)) p q F' (readD D1) N (X ++ [f]) ∧ Step F F' w (w3.setCell ⟨p, 2, none⟩ (.slice (some ⟨g2, 0, none⟩) (X.length + 1) cap3))) := fun w3 g2 cap3 o k1 k2 k3 => by
          have hok := HOK.out
          obtain ⟨r1, F', r2, r3⟩ := hfin w3 g2 cap3 o ⟨pg, pageOf D1.now pg, false, 0⟩ rg rc k1 k2 k3 ho2.zero (by rw [HFE.out]; exact hok.1) w1 HF1.out (Step.of hc2) hrgl.1
          rw [HFE.out] at r2
          exact ⟨r1, F', r2, HS1.out.trans r3⟩
        have c2a : ∀ o, (w2.alloc o).cell? ⟨p, 2, none⟩ = some (.slice a2 X.length cap2) := fun o => (World.cell?_alloc_lt _ _ _ hpl2).trans c22
        clear hfin hrow2 ho2 hc2 h2 hrgl HF1 HS1
        go_wp2_with (at_builtin; refine wpList_append_lies _ rfl _ _ 73 rfl 0 81 i0 zz 4 48 Tryz.underlying73 hi0 hz0 hz1 hz2 hz3 (by omega) (.slice a2 X.length cap2) X.length xs rfl (World.ownsRow.alloc HR2.out _) ⟨w2.heap.size, 0, none⟩ 1 1 [.int .i64 pg, .int .i64 0, .bool false, .slice (some ⟨rg, 0, none⟩) 256 rc] rfl rfl (World.news_of_block (heap_alloc_new w2 _)) (by simp [Value.oneCell']) (by omega) (by unfold maxLen; omega) (by omega) (by simp) (w2.heap.size + 1) (by simp) ?_; intro g2 cap3 w3a hown3 hgrow3 hat3 hlt3; obtain ⟨⟨r2, rz⟩, F3, h3, st3⟩ := HFIN.out w3a g2 cap3 _ hown3 hgrow3 hat3; obtain ⟨w3, hw3⟩ : ∃ w3, w3a.setCell ⟨p, 2, none⟩ (.slice (some ⟨g2, 0, none⟩) (X.length + 1) cap3) = w3 := ⟨_, rfl⟩; rw [hw3] at h3 st3; have H3 : Hid (RP w3 p q F3 (readD D1) N (X ++ [f]) ∧ Step F F3 w w3) := ⟨h3, st3⟩; clear hown3 hgrow3 hat3 hlt3 h3 st3; have hgl : (X ++ [f]).length = X.length + 1 := (by simp); have hgd : (X ++ [f]).getD X.length fr0 = f := (by simp [List.getD_eq_getElem?_getD]); have hst : ∀ f' : Fr, (X ++ [f]).set X.length f' = X ++ [f'] := fun f' => (by rw [List.set_append_right _ _ (Nat.le_refl _), Nat.sub_self]; rfl); obtain ⟨g, cap, c2', hle', hmx', hz, -, d1, -, ⟨_, _, _, _, hgp⟩, hset, -⟩ := H3.out.1.field X.length (by rw [hgl]; omega); rw [hgl] at c2' hle'; rw [hgd] at d1 hset; have h4 := hset (f.pins + 1); rw [hst] at h4; obtain ⟨g4, cap4, c24, -, -, -, -, -, -, ⟨xg, xc, d34, ho4, -⟩, -, -⟩ := h4.1.field X.length (by simp); have hgl' : (X ++ [{ f with pins := f.pins + 1 }]).length = X.length + 1 := (by simp); have hgd' : (X ++ [{ f with pins := f.pins + 1 }]).getD X.length fr0 = { f with pins := f.pins + 1 } := (by simp [List.getD_eq_getElem?_getD]); rw [hgl'] at c24; rw [hgd'] at ho4; have hpg' : ¬ p = g := fun e => hgp e.symm; have c2k : (w3.setCell ⟨g, X.length * 4 + 1, none⟩ (.int .i64 ((f.pins + 1 : Nat) : Int))).cell? ⟨p, 2, none⟩ = some (.slice (some ⟨g, 0, none⟩) (X.length + 1) cap) := (World.cell?_of_block (w := w3) (a := ⟨p, 2, none⟩) (Below.heap_setCell _ _ _ _ hpg')).trans c2'; rw [c2k] at c24; simp only [Option.some.injEq, Value.slice.injEq, Addr.mk.injEq, and_true, true_and] at c24; obtain ⟨rfl, rfl⟩ := c24; have hcp := copy_page (some ⟨xg, 0, none⟩) xc f.b _ (ho4.row' HOK.out.2).2 HOK.out.1; have z1 := hz (X.length * 4 + 1); have H4 : Hid _ := h4; obtain ⟨pn, hpe⟩ : ∃ pn, f.pins = pn := ⟨_, rfl⟩; rw [hpe] at d1 hcp c2k d34 hpn3; have HPE : Hid (f.pins = pn) := hpe; have hwrap : ((pn + 1 : Nat) : Int) = (pn : Int) + 1 := (by omega); rw [hwrap] at hcp c2k d34; unfold maxLen at hmx'; clear hgl hgd hst hset h4 hgl' hgd' hz ho4 hpe hwrap)
        refine hcp.mono ?_
        clear hcp
        rintro x w5 ⟨gg, cc, rfl, ho5, hb5⟩
        have HO5 : Hid _ := ho5
        have HB5 : Hid _ := hb5
        clear ho5 hb5
        go_wp2
        go_ret2
        have h4 := H4.out
        have hs3 := H3.out.2.1.size
        have e4 : ((f.pins + 1 : Nat) : Int) = (pn : Int) + 1 := by rw [HPE.out]; omega
        rw [e4] at h4
        refine ⟨.inl ⟨HU.out.1, gg, cc, rfl, ?_⟩, F3, ?_, ?_⟩
        · rw [HU.out.2.2.2]
          exact owns_base HO5.out (fun k hk => by have := (World.ownsRow.lt HO5.out k hk).1; rw [size_setCell] at this; omega)
        · rw [HU.out.2.1, HU.out.2.2.1]
          exact h4.1.below HB5.out
        · exact (H3.out.2.trans (Step.of h4.2)).trans (Step.ofB HB5.out)
      · have htl' : tellsD (tkD D N L) = false := by simpa using htl
        have e1 : usE D N L pg true = 7 := by unfold usE; rw [if_neg hf, if_pos hte, if_pos ⟨rfl, htl'⟩]
        have e3 : usL D N L pg true = tkL D N L := by unfold usL; rw [if_neg hf, if_neg (by rw [e1]; omega)]
        have e4 : pnL D N L pg = tkL D N L := by unfold pnL; rw [if_neg (by rw [e1]; omega), e3]
        obtain ⟨X, hXe⟩ : ∃ X, tkL D N L = X := ⟨_, rfl⟩
        obtain ⟨D1, hD1⟩ : ∃ D1, tkD D N L = D1 := ⟨_, rfl⟩
        rw [hXe] at e4 htk
        rw [hD1] at eD htk htl b1 b2 b3
        have HU : Hid (usE D N L pg true = 7 ∧ usD D N L pg true = readD D1 ∧ pnL D N L pg = X) := ⟨e1, eD, e4⟩
        have HTL : Hid (¬ tellsD D1 = true) := htl
        clear e1 e3 e4 eD hXe hD1 hte htl htl' hfr hpn h hf
        go_enter Tryz.func11, Tryz.ntmps11
        go_wp2_with (first | (go_at_call 47; refine hpa.mono ?_; rintro x w1 ⟨rfl, rfl⟩) | (go_at_call 48; refine hfi.mono ?_; rintro x w1 ⟨rfl, rfl⟩))
        refine htk.mono ?_
        clear htk hfi hpa
        rintro x w1 ⟨rfl, F1, h1, st1⟩
        obtain ⟨a1, cap1, c01, -⟩ := h1.look
        have hrd := rread_all h1 (by omega) pg (by omega)
        have HS1 : Hid (Step F F1 w w1) := st1
        clear h1 st1
        go_wp2_with fail
        refine hrd.mono ?_
        clear hrd
        rintro x w2 ⟨hx, h2, hc2⟩
        unfold ReadEnd at hx
        rw [if_neg HTL.out] at hx
        subst hx
        have H2 : Hid (RP w2 p q F1 (readD D1) N X ∧ Step F F1 w w2) := ⟨h2, HS1.out.trans (Step.of hc2)⟩
        clear h2 hc2 HS1
        go_wp2
        go_ret2
        refine ⟨.inr ⟨by rw [HU.out.1]; omega, by rw [HU.out.1]; rfl⟩, F1, ?_, H2.out.2⟩
        rw [HU.out.2.1, HU.out.2.2]
        exact H2.out.1
    · have e1 : usE D N L pg true = tkE D N L := by unfold usE; rw [if_neg hf, if_neg hte]
      have eD : usD D N L pg true = tkD D N L := by unfold usD; rw [if_neg hf, if_neg hte]
      have e3 : usL D N L pg true = tkL D N L := by unfold usL; rw [if_neg hf, if_neg (by rw [e1]; exact hte)]
      have e4 : pnL D N L pg = tkL D N L := by unfold pnL; rw [if_neg (by rw [e1]; exact hte), e3]
      have HU : Hid (usD D N L pg true = tkD D N L ∧ pnL D N L pg = tkL D N L) := ⟨eD, e4⟩
      obtain ⟨ke, hke⟩ : ∃ ke, tkE D N L = ke := ⟨_, rfl⟩
      rw [hke] at e1 hte htk
      have HU1 : Hid (usE D N L pg true = ke ∧ ¬ ke = 0) := ⟨e1, hte⟩
      have hte' : (ke != 0) = true := by simpa using hte
      clear e1 eD e3 e4 hke hte hfr hpn h hf
      go_enter Tryz.func11, Tryz.ntmps11
      go_wp2_with (first | (go_at_call 47; refine hpa.mono ?_; rintro x w1 ⟨rfl, rfl⟩) | (go_at_call 48; refine hfi.mono ?_; rintro x w1 ⟨rfl, rfl⟩))
      refine htk.mono ?_
      clear htk hfi hpa
      rintro x w1 ⟨rfl, H1⟩
      have H2 : Hid _ := H1
      clear H1
      go_wp2
      go_ret2
      refine ⟨.inr ⟨by rw [HU1.out.1]; exact HU1.out.2, by rw [HU1.out.1]; rfl⟩, ?_⟩
      rw [HU.out.1, HU.out.2]
      exact H2.out
end
end Go.Proofs.YtojckbhbnalkeaaGreat.Oct
