/-
  The document's Put.
-/
import Derived.Test.YtojckbhbnalkeaaGreatJm
namespace Go.Proofs.YtojckbhbnalkeaaGreat.Oct
open Go.RowKit

section
variable {w : World} {p q : Nat} {F : Nat → Prop} {D : Dv} {N : Nat} {L : List Fr}

theorem rPut_bad (h : RP w p q F D N L) (pg : Int) (a : Option Addr) (n cap : Nat) (hb : (decide (0 ≤ pg ∧ pg < (D.n : Int)) && decide (n = 256)) = false) :
    Calls Tryz.prog 17 #[.pointer (some ⟨p, 0, none⟩), .int .i64 pg, .slice a n cap] w fun x w' => x = .returned (.int .i64 1) ∧ w = w' := by
  have hp := rpage_all h pg
  obtain ⟨a1, cap1, c0, -⟩ := h.look
  clear h
  by_cases hpg : (0 ≤ pg ∧ pg < (D.n : Int))
  · rw [decide_eq_true hpg] at hp hb
    have hne : ((n : Int) != 256) = true := by simp at hb; simp; omega
    clear hb hpg
    go_enter Tryz.func17, Tryz.ntmps17
    go_wp2_with (go_at_call 47; refine hp.mono ?_; rintro x w1 ⟨rfl, rfl⟩)
    go_ret
    exact ⟨rfl, rfl⟩
  · rw [decide_eq_false hpg] at hp
    clear hb hpg
    go_enter Tryz.func17, Tryz.ntmps17
    go_wp2_with (go_at_call 47; refine hp.mono ?_; rintro x w1 ⟨rfl, rfl⟩)
    go_ret
    exact ⟨rfl, rfl⟩

set_option maxHeartbeats 4000000 in
set_option maxRecDepth 20000 in
theorem rPut_any (h : RP w p q F D N L) (hops : D.ops ≤ 900000) (hsl : D.since.length ≤ 900000) (hK : L.length ≤ 4500) (hfr : ∀ f ∈ L, f.page < D.n ∧ f.ok) (pg : Nat) (hpg : pg < D.n) (ab ao cap : Nat) (b : List Int) (hbl : b.length = 256) (hrow : Row w (some ⟨ab, ao, none⟩) cap b) (haF : ¬ F ab) :
    Calls Tryz.prog 17 #[.pointer (some ⟨p, 0, none⟩), .int .i64 pg, .slice (some ⟨ab, ao, none⟩) 256 cap] w fun x w' => x = .returned (.int .i64 (usE D N L pg false)) ∧ ∃ F', RP w' p q F' (usD D N L pg false) N (ptL D N L pg b) ∧ Step F F' w w' := by
  have hpa := rpage_all h (pg : Int)
  rw [show decide ((0 : Int) ≤ pg ∧ (pg : Int) < (D.n : Int)) = true by simp; omega] at hpa
  have hfi := rfind_all h (pg : Int)
  obtain ⟨a0, cap0, c0, -⟩ := h.look
  have HRW : Hid (Row w (some ⟨ab, ao, none⟩) cap b ∧ ¬ F ab) := ⟨hrow, haF⟩
  by_cases hf : fiP L pg < L.length
  · rw [fdV_yes hf] at hfi
    have hla := rlast_all h (by omega) _ hf
    have e1 : usE D N L pg false = 0 := if_pos hf
    have e3 : usL D N L pg false = L.eraseIdx (fiP L pg) ++ [L.getD (fiP L pg) fr0] := if_pos hf
    have hX : (L.eraseIdx (fiP L pg)).length ≤ 5000 := by have := List.length_eraseIdx_le L (fiP L pg); omega
    have hu : usE D N L pg false = 0 ∧ usD D N L pg false = D ∧ ptL D N L pg b = L.eraseIdx (fiP L pg) ++ [{ L.getD (fiP L pg) fr0 with b := b, dirty := true }] := by
      refine ⟨e1, if_pos hf, ?_⟩
      unfold ptL
      rw [if_pos e1, e3, lastUp_snoc]
    obtain ⟨X, hXe⟩ : ∃ X, L.eraseIdx (fiP L pg) = X := ⟨_, rfl⟩
    obtain ⟨f, hfe⟩ : ∃ f, L.getD (fiP L pg) fr0 = f := ⟨_, rfl⟩
    rw [hXe, hfe] at hu hla
    rw [hXe] at hX
    have HU : Hid (usE D N L pg false = 0 ∧ usD D N L pg false = D ∧ ptL D N L pg b = X ++ [⟨f.page, b, true, f.pins⟩]) := hu
    obtain ⟨i, hi⟩ : ∃ i, fiP L (pg : Int) = i := ⟨_, rfl⟩
    rw [hi] at hfi hla
    clear h hu e1 e3 hXe hfe hi hf hfr hrow haF
    go_enter Tryz.func17, Tryz.ntmps17
    go_wp2_with (first | (go_at_call 47; refine hpa.mono ?_; rintro x w1 ⟨rfl, rfl⟩) | (go_at_call 48; refine hfi.mono ?_; rintro x w1 ⟨rfl, rfl⟩))
    refine hla.mono ?_
    clear hla hfi hpa
    rintro x w3 ⟨rfl, F3, h3, st3⟩
    obtain ⟨v, hx3⟩ := XP.ofRP h3
    have HX : Hid (XP w3 p q F3 D N X [.int .i64 f.page, .int .i64 f.pins, .bool f.dirty, v] ∧ Step F F3 w w3) := ⟨hx3, st3⟩
    have HRW3 : Hid (Row w3 (some ⟨ab, ao, none⟩) cap b) := HRW.out.1.ch st3.1 (fun x e => by cases e; exact HRW.out.2)
    clear h3 st3 hx3
    obtain ⟨g, cp, hc1, hc2, c23, hpl3, hpg3, hput⟩ := HX.out.1.put
    have HPUT : Hid _ := hput
    have hcp := copy_drew (some ⟨ab, ao, none⟩) cap b w3 HRW3.out hbl
    unfold maxLen at hc2
    have hXi : (X.length : Int) < (X.length : Int) + 1 := by omega
    clear hput
    go_wp2_with fail
    go_region_held3 (fun w' => w'.cell? ⟨p, 2, none⟩ = some (.slice (some ⟨g, 0, none⟩) (X.length + 1) cp)) (first | go_keep | assumption) (first | (go_at_call 52; refine hcp.mono ?_; rintro e w4 ⟨gb, cb, rfl, ho4, hb4⟩; obtain ⟨⟨r1, r2, r3⟩, ⟨r4, r5, r6⟩, hfin⟩ := HPUT.out w4 gb cb b hb4 ho4 hbl; have HFIN : Hid _ := hfin; clear ho4 hb4 hfin))
    go_wp2
    go_ret
    obtain ⟨F5, h5, st5⟩ := HFIN.out
    rw [HU.out.1, HU.out.2.1, HU.out.2.2]
    exact ⟨rfl, F5, h5, HX.out.2.trans st5⟩
  · rw [fdV_no hf] at hfi
    have htk := rtake_any h (by omega) (by omega) (by omega) hfr
    have hll := tkL_len D N L
    by_cases hte : tkE D N L = 0
    · rw [hte] at htk
      have eD : usD D N L pg false = tkD D N L := by unfold usD; rw [if_neg hf, if_pos hte, if_neg (by simp)]
      have e1 : usE D N L pg false = 0 := by unfold usE; rw [if_neg hf, if_pos hte, if_neg (by simp)]
      have e3 : usL D N L pg false = tkL D N L ++ [⟨pg, List.replicate 256 0, false, 0⟩] := by unfold usL; rw [if_neg hf, if_pos e1]; rfl
      have e4 : ptL D N L pg b = tkL D N L ++ [⟨pg, b, true, 0⟩] := by unfold ptL; rw [if_pos e1, e3, lastUp_snoc]
      obtain ⟨X, hXe⟩ : ∃ X, tkL D N L = X := ⟨_, rfl⟩
      rw [hXe] at e4 htk hll
      have HU : Hid (usE D N L pg false = 0 ∧ usD D N L pg false = tkD D N L ∧ ptL D N L pg b = X ++ [⟨pg, b, true, 0⟩]) := ⟨e1, eD, e4⟩
      have hX : X.length ≤ 5000 := by omega
      obtain ⟨i0, zz, hi0, hz0, hz1, hz2, hz3⟩ := partsRF
      clear e1 e3 e4 eD hXe hte hfr h hf hrow haF
      go_enter Tryz.func17, Tryz.ntmps17
      go_wp2_with (first | (go_at_call 47; refine hpa.mono ?_; rintro x w1 ⟨rfl, rfl⟩) | (go_at_call 48; refine hfi.mono ?_; rintro x w1 ⟨rfl, rfl⟩))
      refine htk.mono ?_
      clear htk hfi hpa
      rintro x w2 ⟨rfl, F1, h2, st2⟩
      obtain ⟨a2, cap2, xs, c22, hpl2, hrow2, hfin⟩ := h2.pushX
      have HR2 : Hid (w2.ownsRow 0 81 4 (.slice a2 X.length cap2) X.length xs) := hrow2
      have HFN : Hid _ := hfin
      have HS2 : Hid (Step F F1 w w2) := st2
      have HRW2 : Hid (Row w2 (some ⟨ab, ao, none⟩) cap b ∧ ¬ F1 ab ∧ ab < w2.heap.size) := by
        have hlt : ab < w.heap.size := by
          have := HRW.out.1.cells 0 (by omega)
          exact block_lt_of_cell this
        have := HRW.out.1.step HRW.out.2 hlt st2
        exact ⟨this.1, this.2.1, this.2.2⟩
      have c2a : ∀ o, (w2.alloc o).cell? ⟨p, 2, none⟩ = some (.slice a2 X.length cap2) := fun o => (World.cell?_alloc_lt _ _ _ hpl2).trans c22
      clear hfin hrow2 h2 st2
      go_wp2_with (at_builtin; refine wpList_append_lies _ rfl _ _ 73 rfl 0 81 i0 zz 4 48 Tryz.underlying73 hi0 hz0 hz1 hz2 hz3 (by omega) (.slice a2 X.length cap2) X.length xs rfl (World.ownsRow.alloc HR2.out _) ⟨w2.heap.size, 0, none⟩ 1 1 [.int .i64 pg, .int .i64 0, .bool false, .slice none 0 0] rfl rfl (World.news_of_block (heap_alloc_new w2 _)) (by simp [Value.oneCell']) (by omega) (by unfold maxLen; omega) (by omega) (by simp) (w2.heap.size + 1) (by simp) ?_; intro g2 cap3 w3a hown3 hgrow3 hat3 hlt3; obtain ⟨⟨r2, rz⟩, F3, h3, st3⟩ := HFN.out w3a g2 cap3 _ _ rfl hown3 hgrow3 hat3; obtain ⟨w3, hw3⟩ : ∃ w3, w3a.setCell ⟨p, 2, none⟩ (.slice (some ⟨g2, 0, none⟩) (X.length + 1) cap3) = w3 := ⟨_, rfl⟩; rw [hw3] at h3 st3; have HX : Hid (XP w3 p q F3 (tkD D N L) N X [.int .i64 pg, .int .i64 (0 : Nat), .bool false, .slice none 0 0] ∧ Step F F3 w w3) := ⟨h3, HS2.out.trans st3⟩; have HRW3 : Hid (Row w3 (some ⟨ab, ao, none⟩) cap b) := HRW2.out.1.ch st3.1 (fun x e => (by cases e; exact HRW2.out.2.1)); clear hown3 hgrow3 hat3 hlt3 h3 st3; obtain ⟨g, cp, hc1, hc2, c23, hpl3, hpg3, hput⟩ := HX.out.1.put; have HPUT : Hid _ := hput; have hcp := copy_drew (some ⟨ab, ao, none⟩) cap b w3 HRW3.out hbl; unfold maxLen at hc2; have hXi : (X.length : Int) < (X.length : Int) + 1 := (by omega); clear hput)
      go_region_held3 (fun w' => w'.cell? ⟨p, 2, none⟩ = some (.slice (some ⟨g, 0, none⟩) (X.length + 1) cp)) (first | go_keep | assumption) (first | (go_at_call 52; refine hcp.mono ?_; rintro e w4 ⟨gb, cb, rfl, ho4, hb4⟩; obtain ⟨⟨r1, r2, r3⟩, ⟨r4, r5, r6⟩, hfin⟩ := HPUT.out w4 gb cb b hb4 ho4 hbl; have HFIN : Hid _ := hfin; clear ho4 hb4 hfin))
      go_wp2
      go_ret
      obtain ⟨F5, h5, st5⟩ := HFIN.out
      rw [HU.out.1, HU.out.2.1, HU.out.2.2]
      exact ⟨rfl, F5, h5, HX.out.2.trans st5⟩
    · have e1 : usE D N L pg false = tkE D N L := by unfold usE; rw [if_neg hf, if_neg hte]
      have eD : usD D N L pg false = tkD D N L := by unfold usD; rw [if_neg hf, if_neg hte]
      have e3 : usL D N L pg false = tkL D N L := by unfold usL; rw [if_neg hf, if_neg (by rw [e1]; exact hte)]
      have e4 : ptL D N L pg b = tkL D N L := by unfold ptL; rw [if_neg (by rw [e1]; exact hte), e3]
      have HU : Hid (usD D N L pg false = tkD D N L ∧ ptL D N L pg b = tkL D N L) := ⟨eD, e4⟩
      obtain ⟨ke, hke⟩ : ∃ ke, tkE D N L = ke := ⟨_, rfl⟩
      rw [hke] at e1 hte htk
      have HU1 : Hid (usE D N L pg false = ke) := e1
      have hte' : (ke != 0) = true := by simpa using hte
      clear e1 eD e3 e4 hke hte hfr h hf
      go_enter Tryz.func17, Tryz.ntmps17
      go_wp2_with (first | (go_at_call 47; refine hpa.mono ?_; rintro x w1 ⟨rfl, rfl⟩) | (go_at_call 48; refine hfi.mono ?_; rintro x w1 ⟨rfl, rfl⟩))
      refine htk.mono ?_
      clear htk hfi hpa
      rintro x w1 ⟨rfl, H1⟩
      have H2 : Hid _ := H1
      clear H1
      go_wp2
      go_ret
      rw [HU1.out, HU.out.1, HU.out.2]
      exact ⟨rfl, H2.out⟩
end
end Go.Proofs.YtojckbhbnalkeaaGreat.Oct
