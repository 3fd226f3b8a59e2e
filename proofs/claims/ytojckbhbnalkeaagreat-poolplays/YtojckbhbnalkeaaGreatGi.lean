/-
  device: what a Write does (writing.do), walked.
-/
import Derived.Test.YtojckbhbnalkeaaGreatGg
namespace Go.Proofs.YtojckbhbnalkeaaGreat.Oct
open Go.RowKit

attribute [local go_sem ↓] loadW_eq buildW_eq

theorem scells_snoc (l : List (Nat × List Int)) (x : Nat × List Int) : scells (l ++ [x]) = scells l ++ wcells x := by simp [scells]

/-- A device whose page was written and whose list of writes has grown. -/
theorem wrote {w w1 w2 : World} {p : Nat} {F : Nat → Prop} {D : Dv} {gN gL cN cL : Nat} {vS vO : Value} {f : Int} {pg g cap : Nat} {b : List Int} {o : Obj} (ok : (wrD D pg b).ok) (hF : ∀ k, F k → k < w.heap.size) (h : DevC w p gN gL cN cL vS vO f D) (hfo : ∀ k, foot p gN gL vS vO k → F k)
    (ho : Own 0 w1 (.slice (some ⟨gN, 0, none⟩) D.now.length cN) (onto D.now pg b 15)) (hc : Ch w.heap.size (fun k => k = gN) w w1)
    (hown : w2.ownsRow 0 104 257 (.slice (some ⟨g, 0, none⟩) (D.since.length + 1) cap) (D.since.length + 1) (scells D.since ++ wcells (pg, b)))
    (hgrow : (w1.alloc o).grownBy w2 vS.ownBlock) (hat : vS.ownBlock = some g ∨ g = w1.heap.size + 1) (hlt : g < w2.heap.size) :
    ∃ F', Dev (w2.setCell ⟨p, 2, none⟩ (.slice (some ⟨g, 0, none⟩) (D.since.length + 1) cap)) p F' (wrD D pg b) ∧ Step F F' w (w2.setCell ⟨p, 2, none⟩ (.slice (some ⟨g, 0, none⟩) (D.since.length + 1) cap)) := by
  have s1 := hc.size
  have s2 := hgrow.size
  simp at s2
  have hp : p < w.heap.size := hF p (hfo p (.inl rfl))
  have hN : gN < w.heap.size := hF gN (hfo gN (.inr (.inl rfl)))
  have hL : gL < w.heap.size := hF gL (hfo gL (.inr (.inr (.inl rfl))))
  -- a block that is old and no row of the writes
  have k2 : ∀ k, k < w1.heap.size → vS.ownBlock ≠ some k → w2.heap[k]? = w1.heap[k]? := fun k hk hne =>
    (hgrow.block k (by simp; omega) (fun e => hne e.symm)).trans (Below.heap_alloc _ _ _ hk)
  have k1 : ∀ k, k < w.heap.size → k ≠ gN → w1.heap[k]? = w.heap[k]? := fun k hk hne => hc.block k hk hne
  have k3 : ∀ k, k ≠ p → (w2.setCell ⟨p, 2, none⟩ (.slice (some ⟨g, 0, none⟩) (D.since.length + 1) cap)).heap[k]? = w2.heap[k]? := fun k hk => Below.heap_setCell w2 ⟨p, 2, none⟩ _ k hk
  have hgp : g ≠ p := by rcases hat with e | e; exact fun e2 => h.pS (e2 ▸ e); omega
  have hgN : g ≠ gN := by rcases hat with e | e; exact fun e2 => h.NS (e2 ▸ e); omega
  have hgL : g ≠ gL := by rcases hat with e | e; exact fun e2 => h.LS (e2 ▸ e); omega
  have hgO : vO.ownBlock ≠ some g := by
    rcases hat with e | e
    · exact h.SO g e
    · intro e2
      have := hF g (hfo g (.inr (.inr (.inr (.inr e2)))))
      omega
  have hcells : w2.heap[p]? = w.heap[p]? := (k2 p (by omega) h.pS).trans (k1 p hp h.pN)
  refine ⟨fun k => F k ∨ w.heap.size ≤ k ∧ k < w2.heap.size, ⟨ok, fun k hk => ?_, gN, gL, cN, cL, .slice (some ⟨g, 0, none⟩) (D.since.length + 1) cap, vO, f, ?_, fun k hk => ?_⟩, ?_, ?_⟩
  · rw [size_setCell]
    rcases hk with hk | hk
    · have := hF k hk; omega
    · exact hk.2
  · refine { h with cells := ?_, now := ?_, sure := ?_, since := ?_, out := ?_, fuse := h.fuse, pS := by simp [Value.ownBlock]; exact hgp, NS := by simp [Value.ownBlock]; exact hgN, LS := by simp [Value.ownBlock]; exact hgL, SO := fun k hk => by simp [Value.ownBlock] at hk; subst hk; exact hgO }
    · have e := setCell_heap w2 p 2 (.slice (some ⟨g, 0, none⟩) (D.since.length + 1) cap) _ _ _ (hcells.trans h.cells)
      rw [e]
      simp only [wrD, onto_len]
      rfl
    · simp only [wrD, onto_len]
      exact ho.kept ((k3 gN h.pN.symm).trans (k2 gN (by omega) h.NS))
    · exact h.sure.kept ((k3 gL h.pL.symm).trans ((k2 gL (by omega) h.LS).trans (k1 gL hL h.NL.symm)))
    · simp only [wrD, List.length_append, List.length_cons, List.length_nil]
      rw [scells_snoc]
      exact owns_keep hown (fun k hk => by simp [Value.ownBlock] at hk; subst hk; exact k3 g hgp)
    · refine h.out.keep (fun k hk => ?_)
      have hk1 := hF k (hfo k (.inr (.inr (.inr (.inr hk)))))
      exact (k3 k (fun e => h.pO (e ▸ hk))).trans ((k2 k (by omega) (fun e => h.SO k e hk)).trans (k1 k hk1 (fun e => h.NO (e ▸ hk))))
  · rcases hk with hk | hk | hk | hk | hk
    · exact .inl (hfo k (.inl hk))
    · exact .inl (hfo k (.inr (.inl hk)))
    · exact .inl (hfo k (.inr (.inr (.inl hk))))
    · simp [Value.ownBlock] at hk
      subst hk
      rcases hat with e | e
      · exact .inl (hfo g (.inr (.inr (.inr (.inl e)))))
      · exact .inr ⟨by omega, hlt⟩
    · exact .inl (hfo k (.inr (.inr (.inr (.inr hk)))))
  · have a1 : Ch w.heap.size F w w1 := hc.mono (Nat.le_refl _) (fun k _ e => by rw [e]; exact hfo gN (.inr (.inl rfl)))
    exact ((a1.alloc s1 o).grown hgrow (by simp; omega) (fun k hk => .inr (hfo k (.inr (.inr (.inr (.inl hk))))))).setCell (p := ⟨p, 2, none⟩) (.inr (hfo p (.inl rfl))) _
  · intro k hk
    rcases hk with hk | hk
    · exact .inl hk
    · exact .inr hk.1

set_option maxRecDepth 100000 in
set_option maxHeartbeats 4000000 in
theorem wdo_any {w : World} {p : Nat} {F : Nat → Prop} {D : Dv} (h : Dev w p F D) (q pg : Nat) (b : List Int) (hq0 : w.cell? ⟨q, 0, none⟩ = some (.pointer (some ⟨p, 0, none⟩))) (hw : WriteAt w q 1 pg b) (hb : b.length = 256) (hby : Bys b) (hpg : pg < D.n) (hq : ¬ F q) (hs : D.since.length ≤ 1000000) :
    Calls Tryz.prog 87 #[.pointer (some ⟨q, 0, none⟩)] w fun e w' => e = .returned (.tuple #[]) ∧ ∃ F', Dev w' p F' (wrD D pg b) ∧ Step F F' w w' := by
  have ok' := wrD_ok h.1 hpg hb hby
  obtain ⟨ok, hF, gN, gL, cN, cL, vS, vO, f, hc, hfo⟩ := h
  obtain ⟨c0, _, c2, _, _, _, _, z⟩ := hc.at
  have z2 := z 2
  have hFN : F gN := hfo gN (.inr (.inl rfl))
  have hqN : gN ≠ q := fun e => hq (e ▸ hFN)
  have hlen := ok.now
  have hn4 := ok.n4
  have hbq : q < w.heap.size := block_lt_of_cell hq0
  have hp : p < w.heap.size := hF p (hfo p (.inl rfl))
  have hon := onto_any w.drew q 1 pg gN D.now.length cN b D.now 15 hw hb hc.now (by omega) (by omega) hqN (by omega) (by omega)
  have hend := fun (w1 w2 : World) (g cap : Nat) (o : Obj) ho hc1 hown hgrow hat hlt => wrote (w := w) (w1 := w1) (w2 := w2) (g := g) (cap := cap) (o := o) ok' hF hc hfo ho hc1 hown hgrow hat hlt
  have hsince := hc.since
  have hpN := hc.pN
  have hNS := hc.NS
  have hpS := hc.pS
  have hqS : vS.ownBlock ≠ some q := fun e => hq (hfo q (.inr (.inr (.inr (.inl e)))))
  have HE : Hid _ := hend
  have HW : Hid (WriteAt w q 1 pg b) := hw
  have HS : Hid (w.ownsRow 0 104 257 vS D.since.length (scells D.since)) := hsince
  have hSF : ∀ k, vS.ownBlock = some k → k < w.heap.size ∧ k ≠ gN := fun k hk => ⟨hF k (hfo k (.inr (.inr (.inr (.inl hk))))), fun e => hNS (e ▸ hk)⟩
  have HSF : Hid (∀ k, vS.ownBlock = some k → k < w.heap.size ∧ k ≠ gN) := hSF
  have HL : Hid (D.now.length = D.n * 256) := hlen
  clear hend hw hsince hSF ok ok' hF hc hfo z hlen hFN hby
  go_enter Tryz.func87, Tryz.ntmps87
  go_wp2_with fail
  go_region_held3 (fun w' => w'.cell? ⟨q, 0, none⟩ = some (.pointer (some ⟨p, 0, none⟩)) ∧ w'.cell? ⟨p, 0, none⟩ = some (.slice (some ⟨gN, 0, none⟩) D.now.length cN))
    (first | go_keep | exact ⟨(hc1.cell (p := ⟨q, 0, none⟩) hbq (fun e => hqN e.symm)).trans hq0, (hc1.cell (p := ⟨p, 0, none⟩) hp hpN).trans c0⟩)
    (first | (go_at_call 90; refine hon.mono ?_; rintro e w1 ⟨rfl, ho1, hc1⟩))
  have hch : Ch w.heap.size (fun k => k = gN) w w1 := ⟨hc1.os, hc1.tape, hc1.output, hc1.size, hc1.block⟩
  have HO : Hid (Own 0 w1 (.slice (some ⟨gN, 0, none⟩) D.now.length cN) (onto D.now pg b 15)) := ho1
  have HC : Hid (Ch w.heap.size (fun k => k = gN) w w1) := hch
  have s1 := hch.size
  have d0 : w1.cell? ⟨q, 0, none⟩ = some (.pointer (some ⟨p, 0, none⟩)) := (hch.cell (p := ⟨q, 0, none⟩) hbq (fun e => hqN e.symm)).trans hq0
  have d2 : w1.cell? ⟨p, 2, none⟩ = some vS := (hch.cell (p := ⟨p, 2, none⟩) hp hpN).trans c2
  have y2 : w1.frozen? ⟨p, 2, none⟩ = false := (hch.frozen (p := ⟨p, 2, none⟩) hp hpN).trans z2
  have hw1 : WriteAt w1 q 1 pg b := HW.out.ch hch (fun e => hqN e.symm)
  have HS1 : Hid (w1.ownsRow 0 104 257 vS D.since.length (scells D.since)) := owns_keep HS.out (fun k hk => hch.block k (HSF.out k hk).1 (HSF.out k hk).2)
  obtain ⟨i0, zz, hi0, hz0, hz1, hz2, hz3⟩ := parts64
  obtain ⟨cs, hcs⟩ : ∃ cs, (wcells (pg, b)).toArray = cs := ⟨_, rfl⟩
  have hcl : cs.size = 257 := by rw [← hcs]; simpa using wcells_len (x := (pg, b)) hb
  have rL : (LoadW (.pointer (some ⟨q, 1, none⟩))).run Tryz.prog w1.drew = .ok (.agg cs) w1.drew := by
    rw [← hcs]
    exact load_write w1.drew q 1 _ (wcells_len hb) (hw1.range hb)
  have rB : (BuildW #[(0, .agg cs)]).run Tryz.prog w1.drew = .ok (.slice (some ⟨w1.heap.size, 0, none⟩) 1 1) (w1.drew.alloc (.cells cs 104)) := build_write w1.drew cs hcl
  have HCS : Hid ((wcells (pg, b)).toArray = cs) := hcs
  have lq : q < w1.heap.size := by omega
  have lp : p < w1.heap.size := by omega
  have a0 : ∀ o, (w1.alloc o).cell? ⟨q, 0, none⟩ = some (.pointer (some ⟨p, 0, none⟩)) := fun o => (World.cell?_alloc_lt _ _ _ lq).trans d0
  have a2 : ∀ o, (w1.alloc o).cell? ⟨p, 2, none⟩ = some vS := fun o => (World.cell?_alloc_lt _ _ _ lp).trans d2
  have b2 : ∀ o, (w1.alloc o).frozen? ⟨p, 2, none⟩ = false := fun o => (World.frozen?_alloc_past _ _ _ lp).trans y2
  have HNW : Hid (∀ (j : Nat) (u : Value), (wcells (pg, b))[j]? = some u → (w1.alloc (.cells cs 104)).drew.cell? ((⟨w1.heap.size, 0, none⟩ : Addr).add j) = some u) := by
    intro j u hj
    refine World.news_of_block (w := w1.alloc (.cells cs 104)) (cs := cs) (t := 104) (fr := (0, 0)) (heap_alloc_new w1 _) j u ?_
    rw [← hcs]
    exact hj
  have hfar : ∀ (w2 : World) (k o : Nat), (w1.alloc (.cells cs 104)).drew.grownBy w2 vS.ownBlock → k < w1.heap.size → vS.ownBlock ≠ some k → w2.cell? ⟨k, o, none⟩ = w1.cell? ⟨k, o, none⟩ ∧ w2.frozen? ⟨k, o, none⟩ = w1.frozen? ⟨k, o, none⟩ := fun w2 k o hg hk hne => by
    have e : w2.heap[k]? = w1.heap[k]? := (hg.block k (by simp; omega) (fun e => hne e.symm)).trans (Below.heap_alloc w1 _ k hk)
    exact ⟨World.cell?_of_block (w := w1) (a := ⟨k, o, none⟩) e, World.frozen?_of_block (w := w1) (a := ⟨k, o, none⟩) e⟩
  have HFR : Hid _ := hfar
  clear hfar hcs hw1 ho1 hc1 hch hon hq0 c0 c2 z2 hcl
  go_wp2_with fail
  go_region_law ((refine step_append_lies _ (by rfl) (.tmp 23) (.tmp 28) 87 (by rfl) 0 104 i0 zz 257 264 Tryz.underlying87 hi0 hz0 hz1 hz2 hz3 (by omega) vS D.since.length (scells D.since) (by rfl) (World.ownsRow.alloc HS1.out _) ⟨w1.heap.size, 0, none⟩ 1 1 (wcells (pg, b)) (by rfl) (by rw [wcells_len hb]) HNW.out (wcells_one _) (by omega) (by unfold maxLen; omega) (by omega) (by simp) (w1.heap.size + 1) (by simp) ?_; intro g cap w2 hown2 hgrow hat hlt; have hp2 := (HFR.out w2 p 2 hgrow lp hpS).1.trans d2; have hz2' := (HFR.out w2 p 2 hgrow lp hpS).2.trans y2; have hq2 := (HFR.out w2 q 0 hgrow lq hqS).1.trans d0; have HE2 := HE.out w1 w2 g cap (.cells cs 104) HO.out HC.out hown2 ⟨hgrow.os, hgrow.tape, hgrow.output, hgrow.size, hgrow.block⟩ hat hlt; clear hown2 hgrow hat hlt; have HE3 : Hid _ := HE2; clear HE2))
  all_goals
    go_wp2
    go_end0
    exact ⟨rfl, HE3.out⟩
end Go.Proofs.YtojckbhbnalkeaaGreat.Oct
