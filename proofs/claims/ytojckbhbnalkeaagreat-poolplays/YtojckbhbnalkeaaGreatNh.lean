/-
  The document's Write, walked.
-/
import Derived.Test.YtojckbhbnalkeaaGreatNf
import Derived.Deep.RegionLaw
namespace Go.Proofs.YtojckbhbnalkeaaGreat.Oct
open Go.RowKit

theorem Row.far {w w' : World} {ad : Option Addr} {cap : Nat} {b : List Int} {G : Nat → Prop} (h : Row w ad cap b) (k : Ch w.heap.size G w w') (hF : ∀ x, ad = some x → ¬ G x.block) : Row w' ad cap b := h.ch k hF

/-- What a walk over 'Now[page] = Copy(b)' wants. -/
theorem put_prep {w w1 w5 : World} {q g2 c2 ga ca pg cap : Nat} {P F : Nat → Prop} {v1 vS vO : Value} {s1 s2 sS : List Value} {D : Dv} {b : List Int} {ad : Option Addr} (ok : D.ok) (h : RefC w1 q P v1 (.slice (some ⟨g2, 0, none⟩) D.n c2) vS vO s1 s2 sS D)
    (hF : ∀ k, F k → k < w1.heap.size) (hfo : ∀ k, footR q P v1 (.slice (some ⟨g2, 0, none⟩) D.n c2) vS vO k → F k) (hs : Step F F w w1) (hp : pg < D.n) (hb : b.length = 256) (hr : Row w1 ad cap b) (hn : ∀ x, ad = some x → ¬ F x.block)
    (ho : Own w1.heap.size w5 (.slice (some ⟨ga, 0, none⟩) 256 ca) b) (hbe : Below w1.heap.size w1 w5) :
    w5.cell? ⟨q, 1, none⟩ = some (.slice (some ⟨g2, 0, none⟩) D.n c2) ∧ (∃ u, w5.cell? ⟨g2, pg, none⟩ = some u) ∧ w5.frozen? ⟨g2, pg, none⟩ = false ∧ (w5.setCell ⟨g2, pg, none⟩ (.slice (some ⟨ga, 0, none⟩) 256 ca)).cell? ⟨q, 1, none⟩ = some (.slice (some ⟨g2, 0, none⟩) D.n c2) ∧
    RefC (w5.setCell ⟨g2, pg, none⟩ (.slice (some ⟨ga, 0, none⟩) 256 ca)) q (fun k => P k ∨ k = ga) v1 (.slice (some ⟨g2, 0, none⟩) D.n c2) vS vO s1 (s2.set pg (.slice (some ⟨ga, 0, none⟩) 256 ca)) sS { D with now := onto D.now pg b 15 } ∧
    (∀ k, footR q (fun k => P k ∨ k = ga) v1 (.slice (some ⟨g2, 0, none⟩) D.n c2) vS vO k → F k ∨ k = ga) ∧ (∀ k, F k ∨ k = ga → k < (w5.setCell ⟨g2, pg, none⟩ (.slice (some ⟨ga, 0, none⟩) 256 ca)).heap.size) ∧ Step F (fun k => F k ∨ k = ga) w (w5.setCell ⟨g2, pg, none⟩ (.slice (some ⟨ga, 0, none⟩) 256 ca)) ∧ Row (w5.setCell ⟨g2, pg, none⟩ (.slice (some ⟨ga, 0, none⟩) 256 ca)) ad cap b := by
  have h5 : RefC w5 q P v1 (.slice (some ⟨g2, 0, none⟩) D.n c2) vS vO s1 s2 sS D := h.keep (fun g hg => hbe.block g (hF g (hfo g hg)))
  have hF5 : ∀ k, F k → k < w5.heap.size := fun k hk => Nat.lt_of_lt_of_le (hF k hk) hbe.size
  have f2 : F g2 := hfo g2 (.inr (.inr (.inr (.inl rfl))))
  have hlo := ho.lt2
  have hnew : ¬ footR q P v1 (.slice (some ⟨g2, 0, none⟩) D.n c2) vS vO ga := foot_new hF hfo hlo.1
  have h6 := h5.put2 ok.now hp hb ho.zero hnew
  obtain ⟨g', c', e1, e2, _⟩ := h5.p2 pg hp
  have hs1 := hs.1.size
  refine ⟨h5.at.2.1, ⟨_, (World.ownsRow.cellAt h5.o2 pg (by omega)).trans e1⟩, World.ownsRow.frozenAt h5.o2 pg, h6.at.2.1, h6, ?_, ?_, ?_, ?_⟩
  · intro k hk
    rcases hk with e | e | e
    · exact .inl (hfo k (.inl e))
    · rcases e with e | e
      · exact .inl (hfo k (.inr (.inl e)))
      · exact .inr e
    · exact .inl (hfo k (.inr (.inr e)))
  · intro k hk
    rw [size_setCell]
    rcases hk with e | e
    · exact hF5 k e
    · omega
  · refine ⟨(hs.1.trans (Ch.of F (hbe.mono hs1))).trans ((Ch.set f2 _ _).mono (by have := hbe.size; omega) (fun _ _ e => e)), fun k hk => ?_⟩
    rcases hk with e | e
    · exact .inl e
    · exact .inr (by omega)
  · exact (hr.below hbe).ch (F := F) (Ch.set f2 _ _) hn

theorem push_fin {w w6 w7 w8 : World} {q gb cb g cp pg : Nat} {P F F6 : Nat → Prop} {v1 v2 vS vO : Value} {s1 s2 sS : List Value} {D : Dv} {b : List Int} (h : RefC w6 q P v1 v2 vS vO s1 s2 sS D) (hok : ({ D with since := D.since ++ [(pg, b)] } : Dv).ok)
    (hF6 : ∀ k, F6 k → k < w6.heap.size) (hfo : ∀ k, footR q P v1 v2 vS vO k → F6 k) (hs6 : Step F F6 w w6) (ho : Own w6.heap.size w7 (.slice (some ⟨gb, 0, none⟩) 256 cb) b) (hb : Below w6.heap.size w6 w7)
    (hown : w8.ownsRow 0 99 2 (.slice (some ⟨g, 0, none⟩) (D.since.length + 1) cp) (D.since.length + 1) (sS ++ [.int .i64 pg, .slice (some ⟨gb, 0, none⟩) 256 cb])) (hgrow : (w7.alloc (.cells #[.int .i64 pg, .slice (some ⟨gb, 0, none⟩) 256 cb] 99)).grownBy w8 vS.ownBlock) (hat : vS.ownBlock = some g ∨ g = w7.heap.size + 1) (hlt : g < w8.heap.size) :
    ∃ F', RD (w8.setCell ⟨q, 2, none⟩ (.slice (some ⟨g, 0, none⟩) (D.since.length + 1) cp)) q F' { D with since := D.since ++ [(pg, b)] } ∧ Step F F' w (w8.setCell ⟨q, 2, none⟩ (.slice (some ⟨g, 0, none⟩) (D.since.length + 1) cp)) := by
  have hC := (push_prep (pg := pg) h (fun k hk => hF6 k (hfo k hk)) ho hb).2.2.2.2.2 w8 g cp hown hgrow hat
  have hlo := ho.lt2
  have hs7 := hb.size
  have hs8 := hgrow.size
  simp at hs8
  refine ⟨fun k => F6 k ∨ k = gb ∨ k = g, ⟨hok, fun k hk => ?_, _, _, _, _, _, _, _, _, hC, fun k hk => ?_⟩, hs6.trans ⟨?_, fun k hk => ?_⟩⟩
  · rw [size_setCell]
    rcases hk with e | e | e
    · have := hF6 k e; omega
    · omega
    · omega
  · rcases hk with e | (e | e) | e | e | e | e
    · exact .inl (hfo k (.inl e))
    · exact .inl (hfo k (.inr (.inl e)))
    · exact .inr (.inl e)
    · exact .inl (hfo k (.inr (.inr (.inl e))))
    · exact .inl (hfo k (.inr (.inr (.inr (.inl e)))))
    · simp [Value.ownBlock] at e; exact .inr (.inr e.symm)
    · exact .inl (hfo k (.inr (.inr (.inr (.inr (.inr e))))))
  · exact (((Ch.of F6 hb).alloc hs7 _).grown hgrow (by simp; omega) (fun k hk => .inr (hfo k (.inr (.inr (.inr (.inr (.inl hk)))))))).setCell (p := ⟨q, 2, none⟩) (.inr (hfo q (.inl rfl))) _
  · rcases hk with e | e | e
    · exact .inl e
    · exact .inr (by omega)
    · rcases hat with e2 | e2
      · exact .inl (hfo k (.inr (.inr (.inr (.inr (.inl (e ▸ e2)))))))
      · exact .inr (by omega)

set_option maxRecDepth 20000 in
set_option maxHeartbeats 4000000 in
theorem rwrite_any {w : World} {q : Nat} {F : Nat → Prop} {D : Dv} (h : RD w q F D) (hops : D.ops ≤ 1000000) (hsl : D.since.length ≤ 1000000) (pg : Nat) (hpg : pg < D.n) (ad : Option Addr) (cap : Nat) (b : List Int) (hr : Row w ad cap b) (hb : b.length = 256) (hnF : ∀ x, ad = some x → ¬ F x.block) :
    Calls Tryz.prog 60 #[.pointer (some ⟨q, 0, none⟩), .int .i64 pg, .slice ad 256 cap] w fun e w' => e = .returned (.int .i64 (saysD D)) ∧ ∃ F', RD w' q F' (writeD D pg b) ∧ Step F F' w w' := by
  have hp := rpage_any h pg
  rw [show decide ((0 : Int) ≤ pg ∧ (pg : Int) < (D.n : Int)) = true by simp; omega] at hp
  have c6 := h.dead
  have n4 := h.1.n4
  have i1 : (0 : Int) ≤ (pg : Int) := by omega
  have i2 : (pg : Int) < (D.n : Int) := by omega
  obtain ⟨i0, zz, hi0, hz0, hz1, hz2, hz3⟩ := partsD
  have HB : Hid (b.length = 256) := hb
  have HROW : Hid (Row w ad cap b) := hr
  have HNF : Hid (∀ x, ad = some x → ¬ F x.block) := hnF
  clear hb hr hnF
  cases hd : D.dead with
  | true =>
    rw [hd] at c6
    have HR : Hid (RD w q F D) := h
    have HE : Hid (writeD D pg b = D) := by show writeD D pg b = D; simp [writeD, hd]
    have HS : Hid (saysD D = 7) := by show saysD D = 7; simp [saysD, hd]
    clear h hd hi0 hz0
    go_enter Tryz.func60, Tryz.ntmps60
    go_wp2_with (go_at_call 47; refine hp.mono ?_; rintro e w' ⟨rfl, rfl⟩)
    go_ret
    exact ⟨by rw [HS.out]; rfl, F, by rw [HE.out]; exact HR.out, Step.refl F w⟩
  | false =>
    rw [hd] at c6
    by_cases hf : D.fuse = 0
    · have ho := rop_die h hf hops
      have HE : Hid (writeD D pg b = wrD (dieD D) pg b) := by show writeD D pg b = _; simp [writeD, hd, hf]
      have HS : Hid (saysD D = 7) := by show saysD D = 7; simp [saysD, hf]
      clear h hd hf
      obtain ⟨D1, hD1⟩ : ∃ D1, dieD D = D1 := ⟨_, rfl⟩
      have hDn : D1.n = D.n := by rw [← hD1]; rfl
      have hDs : D1.since.length = D.since.length := by rw [← hD1]; rfl
      rw [hD1] at ho HE
      rw [← hDn] at n4 i2 hpg
      rw [← hDs] at hsl
      clear hD1 hDn hDs
      go_enter Tryz.func60, Tryz.ntmps60
      go_wp2_with (first | (go_at_call 47; refine hp.mono ?_; rintro e w' ⟨rfl, rfl⟩) | (go_at_call 80; refine ho.mono ?_; rintro e w1 ⟨rfl, hr1, hc1⟩; have HR1 : Hid (RD w1 q F D1) := hr1; have HC1 : Hid (Ch w.heap.size F w w1) := hc1; clear hr1 hc1 c6))
      obtain ⟨ok, hF, P, v1, v2, vS, vO, s1, s2, sS, hc, hfo⟩ := HR1.out
      have hrow1 : Row w1 ad cap b := HROW.out.ch HC1.out HNF.out
      have hcp := copy_drew _ _ _ w1 hrow1 HB.out
      obtain ⟨g2, c2, hv2, _, _⟩ := hc.o2.form (by omega)
      subst hv2
      have x1 := hc.at.2.1
      have HP : Hid (∀ (w5 : World) (ga ca : Nat), Own w1.heap.size w5 (.slice (some ⟨ga, 0, none⟩) 256 ca) b → Below w1.heap.size w1 w5 → _) := fun w5 ga ca h1 h2 => put_prep (w := w) (pg := pg) ok hc hF hfo ⟨HC1.out, fun k hk => .inl hk⟩ hpg HB.out hrow1 HNF.out h1 h2
      have n12 : g2 ≠ q := (hc.d2 g2 rfl).2.1
      have hok1 : Hid D1.ok := ok
      clear ok hF hc hfo hrow1 HR1 HC1
      go_region_held3 (fun w' => w'.cell? ⟨q, 1, none⟩ = some (.slice (some ⟨g2, 0, none⟩) D1.n c2)) (first | go_keep | assumption) (first | (go_at_call 52; refine hcp.mono ?_; rintro e w5 ⟨ga, ca, rfl, ho5, hb5⟩; obtain ⟨t1, ⟨u5, tu⟩, tz, q1, hC6, hfo6, hF6, hS6, hR6⟩ := HP.out w5 ga ca ho5 hb5; have HC6 : Hid _ := hC6; have HFO6 : Hid _ := hfo6; have HF6 : Hid _ := hF6; have HS6 : Hid _ := hS6; have HR6 : Hid _ := hR6; clear hC6 hfo6 hF6 hS6 hR6 ho5 hb5))
      clear t1 tu tz hcp x1 HP
      go_wp2_with fail
      have HOK : Hid (wrD D1 pg b).ok := wrD_ok hok1.out hpg HB.out HROW.out.1
      generalize hw6 : w5.setCell ⟨g2, pg, none⟩ (.slice (some ⟨ga, 0, none⟩) 256 ca) = w6 at HC6 HFO6 HF6 HS6 HR6 q1 ⊢
      have hcp6 := copy_drew _ _ _ w6 HR6.out HB.out
      have y2 := HC6.out.at.2.2.1
      have HPP : Hid (∀ (w7 : World) (gb cb : Nat), Own w6.heap.size w7 (.slice (some ⟨gb, 0, none⟩) 256 cb) b → Below w6.heap.size w6 w7 → _) := fun w7 gb cb h1 h2 => push_prep (pg := pg) HC6.out (fun k hk => HF6.out k (HFO6.out k hk)) h1 h2
      have HFIN : Hid (∀ (w7 w8 : World) (gb cb g cp : Nat), Own w6.heap.size w7 (.slice (some ⟨gb, 0, none⟩) 256 cb) b → Below w6.heap.size w6 w7 → _) := fun w7 w8 gb cb g cp h1 h2 => push_fin (w := w) (F := F) (w8 := w8) (g := g) (cp := cp) (pg := pg) HC6.out HOK.out HF6.out HFO6.out HS6.out h1 h2
      clear hw6 q1 HC6 HFO6 HF6 HS6 HR6 HROW HNF hok1 HOK hp ho n12 i2 i1
      go_region_law (first | (refine step_append_lies _ (by rfl) (.tmp 44) (.tmp 49) 56 (by rfl) 0 99 i0 zz 2 32 Tryz.underlying56 hi0 hz0 hz1 hz2 hz3 (by omega) vS D1.since.length sS (by rfl) (World.ownsRow.alloc HS7.out _) ⟨w7.heap.size, 0, none⟩ 1 1 [.int .i64 pg, .slice (some ⟨gb, 0, none⟩) 256 cb] (by rfl) (by rfl) HN7.out (by simp [Value.oneCell']) (by omega) (by unfold maxLen; omega) (by omega) (by simp) (w7.heap.size + 1) (by simp) ?_; intro g cp w8 hown8 hgrow8 hat8 hlt8; have r2 := (HFR7.out w8 hgrow8).1; have rz := (HFR7.out w8 hgrow8).2; have HE8 : Hid (∃ F', RD (w8.setCell ⟨q, 2, none⟩ (.slice (some ⟨g, 0, none⟩) (D1.since.length + 1) cp)) q F' (wrD D1 pg b) ∧ Step F F' w (w8.setCell ⟨q, 2, none⟩ (.slice (some ⟨g, 0, none⟩) (D1.since.length + 1) cp))) := HFIN.out w7 w8 gb cb g cp HO7.out HB7.out hown8 hgrow8 hat8 hlt8; clear hown8 hgrow8 hat8 hlt8) | (go_simp; go_at_call 52; refine hcp6.mono ?_; rintro e w7 ⟨gb, cb, rfl, ho7, hb7⟩; obtain ⟨t2, t2a, hS7, hN7, hfr7, -⟩ := HPP.out w7 gb cb ho7 hb7; have HS7 : Hid _ := hS7; have HN7 : Hid _ := hN7; have HFR7 : Hid _ := hfr7; have HO7 : Hid _ := ho7; have HB7 : Hid _ := hb7; clear hS7 hN7 hfr7 ho7 hb7))
      all_goals
        clear HPP HFIN hcp6
        go_wp2
        go_ret
        exact ⟨by rw [HS.out]; rfl, by rw [HE.out]; exact HE8.out⟩
    · have ho := rop_go h hf hops
      have h3 : oc D = 0 ∨ oc D = 1 ∨ oc D = 2 := by unfold oc; omega
      rcases h3 with e | e | e
      · rw [e] at ho
        have HE : Hid (writeD D pg b = wrD (opD D) pg b) := by show writeD D pg b = _; simp [writeD, hd, hf, e]
        have HS : Hid (saysD D = 0) := by show saysD D = 0; simp [saysD, hd, hf, e]
        clear h hd hf e
        obtain ⟨D1, hD1⟩ : ∃ D1, opD D = D1 := ⟨_, rfl⟩
        have hDn : D1.n = D.n := by rw [← hD1]; rfl
        have hDs : D1.since.length = D.since.length := by rw [← hD1]; rfl
        rw [hD1] at ho HE
        rw [← hDn] at n4 i2 hpg
        rw [← hDs] at hsl
        clear hD1 hDn hDs
        go_enter Tryz.func60, Tryz.ntmps60
        go_wp2_with (first | (go_at_call 47; refine hp.mono ?_; rintro e w' ⟨rfl, rfl⟩) | (go_at_call 80; refine ho.mono ?_; rintro e w1 ⟨rfl, hr1, hc1⟩; have HR1 : Hid (RD w1 q F D1) := hr1; have HC1 : Hid (Ch w.heap.size F w w1) := hc1; clear hr1 hc1 c6))
        obtain ⟨ok, hF, P, v1, v2, vS, vO, s1, s2, sS, hc, hfo⟩ := HR1.out
        have hrow1 : Row w1 ad cap b := HROW.out.ch HC1.out HNF.out
        have hcp := copy_drew _ _ _ w1 hrow1 HB.out
        obtain ⟨g2, c2, hv2, _, _⟩ := hc.o2.form (by omega)
        subst hv2
        have x1 := hc.at.2.1
        have HP : Hid (∀ (w5 : World) (ga ca : Nat), Own w1.heap.size w5 (.slice (some ⟨ga, 0, none⟩) 256 ca) b → Below w1.heap.size w1 w5 → _) := fun w5 ga ca h1 h2 => put_prep (w := w) (pg := pg) ok hc hF hfo ⟨HC1.out, fun k hk => .inl hk⟩ hpg HB.out hrow1 HNF.out h1 h2
        have n12 : g2 ≠ q := (hc.d2 g2 rfl).2.1
        have hok1 : Hid D1.ok := ok
        clear ok hF hc hfo hrow1 HR1 HC1
        go_region_held3 (fun w' => w'.cell? ⟨q, 1, none⟩ = some (.slice (some ⟨g2, 0, none⟩) D1.n c2)) (first | go_keep | assumption) (first | (go_at_call 52; refine hcp.mono ?_; rintro e w5 ⟨ga, ca, rfl, ho5, hb5⟩; obtain ⟨t1, ⟨u5, tu⟩, tz, q1, hC6, hfo6, hF6, hS6, hR6⟩ := HP.out w5 ga ca ho5 hb5; have HC6 : Hid _ := hC6; have HFO6 : Hid _ := hfo6; have HF6 : Hid _ := hF6; have HS6 : Hid _ := hS6; have HR6 : Hid _ := hR6; clear hC6 hfo6 hF6 hS6 hR6 ho5 hb5))
        clear t1 tu tz hcp x1 HP
        go_wp2_with fail
        have HOK : Hid (wrD D1 pg b).ok := wrD_ok hok1.out hpg HB.out HROW.out.1
        generalize hw6 : w5.setCell ⟨g2, pg, none⟩ (.slice (some ⟨ga, 0, none⟩) 256 ca) = w6 at HC6 HFO6 HF6 HS6 HR6 q1 ⊢
        have hcp6 := copy_drew _ _ _ w6 HR6.out HB.out
        have y2 := HC6.out.at.2.2.1
        have HPP : Hid (∀ (w7 : World) (gb cb : Nat), Own w6.heap.size w7 (.slice (some ⟨gb, 0, none⟩) 256 cb) b → Below w6.heap.size w6 w7 → _) := fun w7 gb cb h1 h2 => push_prep (pg := pg) HC6.out (fun k hk => HF6.out k (HFO6.out k hk)) h1 h2
        have HFIN : Hid (∀ (w7 w8 : World) (gb cb g cp : Nat), Own w6.heap.size w7 (.slice (some ⟨gb, 0, none⟩) 256 cb) b → Below w6.heap.size w6 w7 → _) := fun w7 w8 gb cb g cp h1 h2 => push_fin (w := w) (F := F) (w8 := w8) (g := g) (cp := cp) (pg := pg) HC6.out HOK.out HF6.out HFO6.out HS6.out h1 h2
        clear hw6 q1 HC6 HFO6 HF6 HS6 HR6 HROW HNF hok1 HOK hp ho n12 i2 i1
        go_region_law (first | (refine step_append_lies _ (by rfl) (.tmp 44) (.tmp 49) 56 (by rfl) 0 99 i0 zz 2 32 Tryz.underlying56 hi0 hz0 hz1 hz2 hz3 (by omega) vS D1.since.length sS (by rfl) (World.ownsRow.alloc HS7.out _) ⟨w7.heap.size, 0, none⟩ 1 1 [.int .i64 pg, .slice (some ⟨gb, 0, none⟩) 256 cb] (by rfl) (by rfl) HN7.out (by simp [Value.oneCell']) (by omega) (by unfold maxLen; omega) (by omega) (by simp) (w7.heap.size + 1) (by simp) ?_; intro g cp w8 hown8 hgrow8 hat8 hlt8; have r2 := (HFR7.out w8 hgrow8).1; have rz := (HFR7.out w8 hgrow8).2; have HE8 : Hid (∃ F', RD (w8.setCell ⟨q, 2, none⟩ (.slice (some ⟨g, 0, none⟩) (D1.since.length + 1) cp)) q F' (wrD D1 pg b) ∧ Step F F' w (w8.setCell ⟨q, 2, none⟩ (.slice (some ⟨g, 0, none⟩) (D1.since.length + 1) cp))) := HFIN.out w7 w8 gb cb g cp HO7.out HB7.out hown8 hgrow8 hat8 hlt8; clear hown8 hgrow8 hat8 hlt8) | (go_simp; go_at_call 52; refine hcp6.mono ?_; rintro e w7 ⟨gb, cb, rfl, ho7, hb7⟩; obtain ⟨t2, t2a, hS7, hN7, hfr7, -⟩ := HPP.out w7 gb cb ho7 hb7; have HS7 : Hid _ := hS7; have HN7 : Hid _ := hN7; have HFR7 : Hid _ := hfr7; have HO7 : Hid _ := ho7; have HB7 : Hid _ := hb7; clear hS7 hN7 hfr7 ho7 hb7))
        all_goals
          clear HPP HFIN hcp6
          go_wp2
          go_ret
          exact ⟨by rw [HS.out]; rfl, by rw [HE.out]; exact HE8.out⟩
      · rw [e] at ho
        have HE : Hid (writeD D pg b = opD D) := by show writeD D pg b = _; simp [writeD, hd, hf, e]
        have HS : Hid (saysD D = 7) := by show saysD D = 7; simp [saysD, hd, e]
        clear h hd hf e hi0 hz0
        go_enter Tryz.func60, Tryz.ntmps60
        go_wp2_with (first | (go_at_call 47; refine hp.mono ?_; rintro e w' ⟨rfl, rfl⟩) | (go_at_call 80; refine ho.mono ?_; rintro e w1 ⟨rfl, hr1, hc1⟩; have HR1 : Hid (RD w1 q F (opD D)) := hr1; clear hr1))
        go_ret
        exact ⟨by rw [HS.out]; rfl, F, by rw [HE.out]; exact HR1.out, ⟨hc1, fun k hk => .inl hk⟩⟩
      · rw [e] at ho
        have HE : Hid (writeD D pg b = wrD (opD D) pg b) := by show writeD D pg b = _; simp [writeD, hd, hf, e]
        have HS : Hid (saysD D = 7) := by show saysD D = 7; simp [saysD, hd, hf, e]
        clear h hd hf e
        obtain ⟨D1, hD1⟩ : ∃ D1, opD D = D1 := ⟨_, rfl⟩
        have hDn : D1.n = D.n := by rw [← hD1]; rfl
        have hDs : D1.since.length = D.since.length := by rw [← hD1]; rfl
        rw [hD1] at ho HE
        rw [← hDn] at n4 i2 hpg
        rw [← hDs] at hsl
        clear hD1 hDn hDs
        go_enter Tryz.func60, Tryz.ntmps60
        go_wp2_with (first | (go_at_call 47; refine hp.mono ?_; rintro e w' ⟨rfl, rfl⟩) | (go_at_call 80; refine ho.mono ?_; rintro e w1 ⟨rfl, hr1, hc1⟩; have HR1 : Hid (RD w1 q F D1) := hr1; have HC1 : Hid (Ch w.heap.size F w w1) := hc1; clear hr1 hc1 c6))
        obtain ⟨ok, hF, P, v1, v2, vS, vO, s1, s2, sS, hc, hfo⟩ := HR1.out
        have hrow1 : Row w1 ad cap b := HROW.out.ch HC1.out HNF.out
        have hcp := copy_drew _ _ _ w1 hrow1 HB.out
        obtain ⟨g2, c2, hv2, _, _⟩ := hc.o2.form (by omega)
        subst hv2
        have x1 := hc.at.2.1
        have HP : Hid (∀ (w5 : World) (ga ca : Nat), Own w1.heap.size w5 (.slice (some ⟨ga, 0, none⟩) 256 ca) b → Below w1.heap.size w1 w5 → _) := fun w5 ga ca h1 h2 => put_prep (w := w) (pg := pg) ok hc hF hfo ⟨HC1.out, fun k hk => .inl hk⟩ hpg HB.out hrow1 HNF.out h1 h2
        have n12 : g2 ≠ q := (hc.d2 g2 rfl).2.1
        have hok1 : Hid D1.ok := ok
        clear ok hF hc hfo hrow1 HR1 HC1
        go_region_held3 (fun w' => w'.cell? ⟨q, 1, none⟩ = some (.slice (some ⟨g2, 0, none⟩) D1.n c2)) (first | go_keep | assumption) (first | (go_at_call 52; refine hcp.mono ?_; rintro e w5 ⟨ga, ca, rfl, ho5, hb5⟩; obtain ⟨t1, ⟨u5, tu⟩, tz, q1, hC6, hfo6, hF6, hS6, hR6⟩ := HP.out w5 ga ca ho5 hb5; have HC6 : Hid _ := hC6; have HFO6 : Hid _ := hfo6; have HF6 : Hid _ := hF6; have HS6 : Hid _ := hS6; have HR6 : Hid _ := hR6; clear hC6 hfo6 hF6 hS6 hR6 ho5 hb5))
        clear t1 tu tz hcp x1 HP
        go_wp2_with fail
        have HOK : Hid (wrD D1 pg b).ok := wrD_ok hok1.out hpg HB.out HROW.out.1
        generalize hw6 : w5.setCell ⟨g2, pg, none⟩ (.slice (some ⟨ga, 0, none⟩) 256 ca) = w6 at HC6 HFO6 HF6 HS6 HR6 q1 ⊢
        have hcp6 := copy_drew _ _ _ w6 HR6.out HB.out
        have y2 := HC6.out.at.2.2.1
        have HPP : Hid (∀ (w7 : World) (gb cb : Nat), Own w6.heap.size w7 (.slice (some ⟨gb, 0, none⟩) 256 cb) b → Below w6.heap.size w6 w7 → _) := fun w7 gb cb h1 h2 => push_prep (pg := pg) HC6.out (fun k hk => HF6.out k (HFO6.out k hk)) h1 h2
        have HFIN : Hid (∀ (w7 w8 : World) (gb cb g cp : Nat), Own w6.heap.size w7 (.slice (some ⟨gb, 0, none⟩) 256 cb) b → Below w6.heap.size w6 w7 → _) := fun w7 w8 gb cb g cp h1 h2 => push_fin (w := w) (F := F) (w8 := w8) (g := g) (cp := cp) (pg := pg) HC6.out HOK.out HF6.out HFO6.out HS6.out h1 h2
        clear hw6 q1 HC6 HFO6 HF6 HS6 HR6 HROW HNF hok1 HOK hp ho n12 i2 i1
        go_region_law (first | (refine step_append_lies _ (by rfl) (.tmp 44) (.tmp 49) 56 (by rfl) 0 99 i0 zz 2 32 Tryz.underlying56 hi0 hz0 hz1 hz2 hz3 (by omega) vS D1.since.length sS (by rfl) (World.ownsRow.alloc HS7.out _) ⟨w7.heap.size, 0, none⟩ 1 1 [.int .i64 pg, .slice (some ⟨gb, 0, none⟩) 256 cb] (by rfl) (by rfl) HN7.out (by simp [Value.oneCell']) (by omega) (by unfold maxLen; omega) (by omega) (by simp) (w7.heap.size + 1) (by simp) ?_; intro g cp w8 hown8 hgrow8 hat8 hlt8; have r2 := (HFR7.out w8 hgrow8).1; have rz := (HFR7.out w8 hgrow8).2; have HE8 : Hid (∃ F', RD (w8.setCell ⟨q, 2, none⟩ (.slice (some ⟨g, 0, none⟩) (D1.since.length + 1) cp)) q F' (wrD D1 pg b) ∧ Step F F' w (w8.setCell ⟨q, 2, none⟩ (.slice (some ⟨g, 0, none⟩) (D1.since.length + 1) cp))) := HFIN.out w7 w8 gb cb g cp HO7.out HB7.out hown8 hgrow8 hat8 hlt8; clear hown8 hgrow8 hat8 hlt8) | (go_simp; go_at_call 52; refine hcp6.mono ?_; rintro e w7 ⟨gb, cb, rfl, ho7, hb7⟩; obtain ⟨t2, t2a, hS7, hN7, hfr7, -⟩ := HPP.out w7 gb cb ho7 hb7; have HS7 : Hid _ := hS7; have HN7 : Hid _ := hN7; have HFR7 : Hid _ := hfr7; have HO7 : Hid _ := ho7; have HB7 : Hid _ := hb7; clear hS7 hN7 hfr7 ho7 hb7))
        all_goals
          clear HPP HFIN hcp6
          go_wp2
          go_ret
          exact ⟨by rw [HS.out]; rfl, by rw [HE.out]; exact HE8.out⟩
end Go.Proofs.YtojckbhbnalkeaaGreat.Oct
