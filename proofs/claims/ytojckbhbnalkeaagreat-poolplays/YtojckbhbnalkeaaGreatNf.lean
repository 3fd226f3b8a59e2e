/-
  The document's Read, Fuse.
-/
import Derived.Test.YtojckbhbnalkeaaGreatNe
namespace Go.Proofs.YtojckbhbnalkeaaGreat.Oct
open Go.RowKit

theorem RD.q {w : World} {q : Nat} {F : Nat → Prop} {D : Dv} (h : RD w q F D) : F q ∧ q < w.heap.size := by
  obtain ⟨_, h2, P, v1, v2, vS, vO, s1, s2, sS, h3, h4⟩ := h
  exact ⟨h4 q (.inl rfl), h2 q (h4 q (.inl rfl))⟩
theorem RD.dead {w : World} {q : Nat} {F : Nat → Prop} {D : Dv} (h : RD w q F D) : w.cell? ⟨q, 6, none⟩ = some (.bool D.dead) := by
  obtain ⟨_, h2, P, v1, v2, vS, vO, s1, s2, sS, h3, h4⟩ := h
  exact h3.at.2.2.2.2.2.2.1
theorem RD.ops {w : World} {q : Nat} {F : Nat → Prop} {D : Dv} (h : RD w q F D) : w.cell? ⟨q, 5, none⟩ = some (.int .i64 D.ops) := by
  obtain ⟨_, h2, P, v1, v2, vS, vO, s1, s2, sS, h3, h4⟩ := h
  exact h3.at.2.2.2.2.2.1
theorem RD.now {w : World} {q : Nat} {F : Nat → Prop} {D : Dv} (h : RD w q F D) : ∃ g c, w.cell? ⟨q, 1, none⟩ = some (.slice (some ⟨g, 0, none⟩) D.n c) := by
  obtain ⟨ok, h2, P, v1, v2, vS, vO, s1, s2, sS, h3, h4⟩ := h
  have := ok.n8
  obtain ⟨g, c, hv, _, _⟩ := h3.o2.form (by omega)
  exact ⟨g, c, by rw [← hv]; exact h3.at.2.1⟩
/-- A page now. -/
theorem RD.pg {w : World} {q : Nat} {F : Nat → Prop} {D : Dv} (h : RD w q F D) {pg : Nat} (hp : pg < D.n) : ∃ g c g' c', w.cell? ⟨q, 1, none⟩ = some (.slice (some ⟨g, 0, none⟩) D.n c) ∧ w.cell? ⟨g, pg, none⟩ = some (.slice (some ⟨g', 0, none⟩) 256 c') ∧ Row w (some ⟨g', 0, none⟩) c' (pageOf D.now pg) ∧ (pageOf D.now pg).length = 256 := by
  obtain ⟨ok, h2, P, v1, v2, vS, vO, s1, s2, sS, h3, h4⟩ := h
  have := ok.n8
  obtain ⟨g, c, hv, _, _⟩ := h3.o2.form (by omega)
  subst hv
  obtain ⟨g', c', e1, e2, _⟩ := h3.p2 pg hp
  have hl : (pageOf D.now pg).length = 256 := pageOf_len (by rw [ok.now]; omega)
  exact ⟨g, c, g', c', h3.at.2.1, (World.ownsRow.cellAt h3.o2 pg (by omega)).trans e1, (e2.row' (fun x hx => ok.bnow x (List.mem_of_mem_drop (List.mem_of_mem_take hx)))).2, hl⟩

theorem rread_bad {w : World} {q : Nat} {F : Nat → Prop} {D : Dv} (h : RD w q F D) (pg : Int) (hb : decide (0 ≤ pg ∧ pg < (D.n : Int)) = false) :
    Calls Tryz.prog 50 #[.pointer (some ⟨q, 0, none⟩), .int .i64 pg] w fun e w' => e = .returned (.tuple #[.slice none 0 0, .int .i64 1]) ∧ w = w' := by
  have hp := rpage_any h pg
  rw [hb] at hp
  clear h hb
  go_enter Tryz.func50, Tryz.ntmps50
  go_wp2_with (go_at_call 47; refine hp.mono ?_; rintro e w' ⟨rfl, rfl⟩)
  go_ret2
  exact ⟨rfl, rfl⟩

set_option maxHeartbeats 1000000 in
theorem rread_any {w : World} {q : Nat} {F : Nat → Prop} {D : Dv} (h : RD w q F D) (hops : D.ops ≤ 1000000) (pg : Nat) (hpg : pg < D.n) :
    Calls Tryz.prog 50 #[.pointer (some ⟨q, 0, none⟩), .int .i64 pg] w fun e w' => ReadEnd D pg w e w' ∧ RD w' q F (readD D) ∧ Ch w.heap.size F w w' := by
  have hp := rpage_any h pg
  rw [show decide ((0 : Int) ≤ pg ∧ (pg : Int) < (D.n : Int)) = true by simp; omega] at hp
  have c6 := h.dead
  have HR : Hid (RD w q F D) := h
  have n4 := h.1.n4
  cases hd : D.dead with
  | true =>
    rw [hd] at c6
    have HT : Hid (tellsD D = false) := by show tellsD D = false; simp [tellsD, hd]
    have HE : Hid (readD D = D) := by show readD D = D; simp [readD, hd]
    clear h hd
    go_enter Tryz.func50, Tryz.ntmps50
    go_wp2_with (go_at_call 47; refine hp.mono ?_; rintro e w' ⟨rfl, rfl⟩)
    go_ret2
    exact ⟨by unfold ReadEnd; rw [HT.out]; rfl, by rw [HE.out]; exact HR.out, Ch.refl _ _ _⟩
  | false =>
    rw [hd] at c6
    by_cases hf : D.fuse = 0
    · have ho := rop_die h hf hops
      have HT : Hid (tellsD D = false) := by show tellsD D = false; simp [tellsD, hf]
      have HE : Hid (readD D = dieD D) := by show readD D = dieD D; simp [readD, hd, hf]
      clear h hd hf HR
      go_enter Tryz.func50, Tryz.ntmps50
      go_wp2_with (first | (go_at_call 47; refine hp.mono ?_; rintro e w' ⟨rfl, rfl⟩) | (go_at_call 80; refine ho.mono ?_; rintro e w1 ⟨rfl, hr1, hc1⟩; have HR1 : Hid (RD w1 q F (dieD D)) := hr1; clear hr1))
      go_ret2
      exact ⟨by unfold ReadEnd; rw [HT.out]; rfl, by rw [HE.out]; exact HR1.out, hc1⟩
    · have ho := rop_go h hf hops
      obtain ⟨o, hoc⟩ : ∃ o, oc D = o := ⟨_, rfl⟩
      rw [hoc] at ho
      have HE : Hid (readD D = opD D) := by show readD D = opD D; simp [readD, hd, hf]
      by_cases h1 : o = 1
      · have HT : Hid (tellsD D = false) := by show tellsD D = false; simp [tellsD, hoc, h1]
        subst h1
        clear h hd hf HR hoc
        go_enter Tryz.func50, Tryz.ntmps50
        go_wp2_with (first | (go_at_call 47; refine hp.mono ?_; rintro e w' ⟨rfl, rfl⟩) | (go_at_call 80; refine ho.mono ?_; rintro e w1 ⟨rfl, hr1, hc1⟩; have HR1 : Hid (RD w1 q F (opD D)) := hr1; clear hr1))
        go_ret2
        exact ⟨by unfold ReadEnd; rw [HT.out]; rfl, by rw [HE.out]; exact HR1.out, hc1⟩
      · have HT : Hid (tellsD D = true) := by show tellsD D = true; simp [tellsD, hd, hf, hoc, h1]
        have h1b : (o == 1) = false := by simp [h1]
        clear h hd hf HR hoc
        go_enter Tryz.func50, Tryz.ntmps50
        go_wp2_with (first | (go_at_call 47; refine hp.mono ?_; rintro e w' ⟨rfl, rfl⟩) | (go_at_call 80; refine ho.mono ?_; rintro e w1 ⟨rfl, hr1, hc1⟩; obtain ⟨g, c, g', c', x1, x2, x3, x4⟩ := hr1.pg (pg := pg) hpg; have hcp := copy_page _ _ _ w1 x3 x4; have HR1 : Hid (RD w1 q F (opD D)) := hr1; have HC1 : Hid (Ch w.heap.size F w w1) := hc1; rw [show (opD D).n = D.n from rfl] at x1; clear hr1 hc1 x3 x4) | (go_at_call 52; refine hcp.mono ?_; rintro e w2 ⟨gr, cr, rfl, hor, hbr⟩))
        go_ret2
        have s1 := HC1.out.size
        have HO : Own w.heap.size w2 (.slice (some ⟨gr, 0, none⟩) 256 cr) (pageOf D.now pg) := owns_base hor (fun k hk => Nat.le_trans s1 (World.ownsRow.lt hor k hk).1)
        exact ⟨by unfold ReadEnd; rw [HT.out, if_pos rfl]; exact ⟨gr, cr, rfl, HO⟩, by rw [HE.out]; exact HR1.out.below hbr, HC1.out.trans (Ch.of F (hbr.mono s1))⟩

theorem rarm_any {w : World} {q : Nat} {F : Nat → Prop} {D : Dv} (h : RD w q F D) (n : Int) (h1 : -9223372036854775808 ≤ n) (h2 : n ≤ 9223372036854775807) :
    Calls Tryz.prog 26 #[.pointer (some ⟨q, 0, none⟩), .int .i64 n] w fun e w' => e = .returned (.tuple #[]) ∧ RD w' q F (fuseD D n) ∧ Ch w.heap.size F w w' := by
  have c6 := h.dead
  have HR : Hid (RD w q F D) := h
  cases hd : D.dead with
  | true =>
    rw [hd] at c6
    have HE : Hid (fuseD D n = D) := by show fuseD D n = D; simp [fuseD, hd]
    clear h hd
    go_enter Tryz.func26, Tryz.ntmps26
    go_wp2
    go_end0
    exact ⟨rfl, by rw [HE.out]; exact HR.out, Ch.refl _ _ _⟩
  | false =>
    rw [hd] at c6
    obtain ⟨ok, hF, P, v1, v2, vS, vO, s1, s2, sS, hc, hfo⟩ := h
    have z4 := hc.at.2.2.2.2.2.2.2 4
    have c4 := hc.at.2.2.2.2.1
    have hq : F q := hfo q (.inl rfl)
    obtain ⟨m, hm⟩ : ∃ m, max n (-1) = m := ⟨_, rfl⟩
    have HD : Hid (RD (w.setCell ⟨q, 4, none⟩ (.int .i64 m)) q F (fuseD D n)) := by
      have e : fuseD D n = { D with fuse := m, ops := D.ops, dead := D.dead, out := D.out } := by simp [fuseD, hd, hm]
      rw [e]
      refine ⟨⟨ok.n8, ok.n4, ok.now, ok.sure, ok.bnow, ok.bsure, ok.bout, ok.since, by show -1 ≤ m; omega⟩, fun k hk => by simp only [size_setCell]; exact hF k hk, P, v1, v2, vS, vO, s1, s2, sS, ?_, fun k hk => hfo k hk⟩
      refine hc.setq (fu := m) (op := D.ops) (dd := D.dead) (ou := D.out) ?_ (fun b hb => Below.heap_setCell _ _ _ b hb) hc.oO (fun g hg => hg) (by omega)
      rw [setCell_heap _ q 4 _ _ _ _ hc.cells]
      rfl
    clear ok hF hc hfo HR hd
    by_cases hn : -1 ≤ n
    · obtain rfl : m = n := by omega
      clear hm
      go_enter Tryz.func26, Tryz.ntmps26
      go_wp2
      go_end0
      exact ⟨rfl, HD.out, Ch.set hq _ _⟩
    · obtain rfl : m = -1 := by omega
      clear hm
      go_enter Tryz.func26, Tryz.ntmps26
      go_wp2
      go_end0
      exact ⟨rfl, HD.out, Ch.set hq _ _⟩
end Go.Proofs.YtojckbhbnalkeaaGreat.Oct

/-
  The document's Write.
-/
namespace Go.Proofs.YtojckbhbnalkeaaGreat.Oct
open Go.RowKit

theorem onto_rest {L b : List Int} {pg i : Nat} {c : Int} (hL : i * 256 + 256 ≤ L.length) (hi : i ≠ pg) : pageOf (onto L pg b c) i = pageOf L i := by
  refine eq_of_getD (by rw [pageOf_len (by rw [onto_len]; exact hL), pageOf_len hL]) fun j hj => ?_
  rw [pageOf_len (by rw [onto_len]; exact hL)] at hj
  rw [pageOf_at _ _ _ hj, pageOf_at _ _ _ hj, onto_at _ _ _ _ _ (by omega), if_neg (by rintro ⟨e, _⟩; omega)]

theorem foot_new {w : World} {q : Nat} {P : Nat → Prop} {v1 v2 vS vO : Value} {F : Nat → Prop} (hF : ∀ k, F k → k < w.heap.size) (hfo : ∀ k, footR q P v1 v2 vS vO k → F k) {g : Nat} (hg : w.heap.size ≤ g) : ¬ footR q P v1 v2 vS vO g := fun e => by
  have := hF g (hfo g e); omega

/-- A page is another one now. -/
theorem RefC.put2 {w : World} {q g2 c2 : Nat} {P : Nat → Prop} {v1 vS vO : Value} {s1 s2 sS : List Value} {D : Dv} (h : RefC w q P v1 (.slice (some ⟨g2, 0, none⟩) D.n c2) vS vO s1 s2 sS D) (hn : D.now.length = D.n * 256) {pg : Nat} (hp : pg < D.n) {ga ca : Nat} {b : List Int} (hb : b.length = 256)
    (ho : Own 0 w (.slice (some ⟨ga, 0, none⟩) 256 ca) b) (hg : ¬ footR q P v1 (.slice (some ⟨g2, 0, none⟩) D.n c2) vS vO ga) :
    RefC (w.setCell ⟨g2, pg, none⟩ (.slice (some ⟨ga, 0, none⟩) 256 ca)) q (fun k => P k ∨ k = ga) v1 (.slice (some ⟨g2, 0, none⟩) D.n c2) vS vO s1 (s2.set pg (.slice (some ⟨ga, 0, none⟩) 256 ca)) sS { D with now := onto D.now pg b 15 } := by
  have hst := World.ownsRow.stored h.o2 pg (.slice (some ⟨ga, 0, none⟩) 256 ca)
  have k3 : ∀ b, b ≠ g2 → (w.setCell ⟨g2, pg, none⟩ (.slice (some ⟨ga, 0, none⟩) 256 ca)).heap[b]? = w.heap[b]? := fun b hb => Below.heap_setCell w ⟨g2, pg, none⟩ _ b hb
  obtain ⟨e1, e2, e3, e4⟩ := h.d2 g2 rfl
  have hP : ∀ g, P g → (w.setCell ⟨g2, pg, none⟩ (.slice (some ⟨ga, 0, none⟩) 256 ca)).heap[g]? = w.heap[g]? := fun g hg => k3 g (fun e => e1 (e ▸ hg))
  have nq : ga ≠ q := fun e => hg (.inl e)
  have n2 : ga ≠ g2 := fun e => hg (.inr (.inr (.inr (.inl (by rw [e]; rfl)))))
  have n1 : v1.ownBlock ≠ some ga := fun e => hg (.inr (.inr (.inl e)))
  have nS : vS.ownBlock ≠ some ga := fun e => hg (.inr (.inr (.inr (.inr (.inl e)))))
  have nO : vO.ownBlock ≠ some ga := fun e => hg (.inr (.inr (.inr (.inr (.inr e)))))
  exact
  { cells := (k3 q (fun e => e2 e.symm)).trans h.cells
    o1 := owns_keep h.o1 (fun g hg => k3 g (fun e => (h.d1 g hg).2.2.1 (by rw [e]; rfl)))
    o2 := hst.1
    oS := owns_keep h.oS (fun g hg => k3 g (fun e => e3 (e ▸ hg)))
    oO := h.oO.keep (fun g hg => k3 g (fun e => e4 (e ▸ hg)))
    p1 := (h.p1.keep hP).mono (fun _ e => .inl e)
    p2 := ((h.p2.keep hP).mono (fun _ e => .inl e)).set (by have := h.o2.1; omega) hp (by show Own 0 _ _ (pageOf (onto D.now pg b 15) pg); rw [onto_page (by rw [hn]; omega) hb]; exact ho.kept (k3 ga n2)) (.inr rfl) (fun i hi hne => onto_rest (by rw [hn]; omega) hne)
    pS := (h.pS.keep hP).mono (fun _ e => .inl e)
    f2 := h.f2
    dq := fun e => by rcases e with e | e; exact h.dq e; exact nq e.symm
    d1 := fun g hg => ⟨fun e => by rcases e with e | e; exact (h.d1 g hg).1 e; exact n1 (e ▸ hg), (h.d1 g hg).2⟩
    d2 := fun g hg => ⟨fun e => by rcases e with e | e; exact (h.d2 g hg).1 e; exact n2 (by simp [Value.ownBlock] at hg; omega), (h.d2 g hg).2⟩
    dS := fun g hg => ⟨fun e => by rcases e with e | e; exact (h.dS g hg).1 e; exact nS (e ▸ hg), (h.dS g hg).2⟩
    dO := fun g hg => ⟨fun e => by rcases e with e | e; exact (h.dO g hg).1 e; exact nO (e ▸ hg), (h.dO g hg).2⟩ }

/-- One write more that was done: its bytes in a block of their own, the slice grown. -/
theorem RefC.push {w w2 : World} {q g cap ga ca pg : Nat} {P : Nat → Prop} {v1 v2 vS vO : Value} {s1 s2 sS : List Value} {D : Dv} {b : List Int} {o : Obj} (h : RefC w q P v1 v2 vS vO s1 s2 sS D)
    (hF : ∀ k, footR q P v1 v2 vS vO k → k < w.heap.size) (ho : Own 0 w (.slice (some ⟨ga, 0, none⟩) 256 ca) b) (hg : ¬ footR q P v1 v2 vS vO ga)
    (hown : w2.ownsRow 0 99 2 (.slice (some ⟨g, 0, none⟩) (D.since.length + 1) cap) (D.since.length + 1) (sS ++ [.int .i64 pg, .slice (some ⟨ga, 0, none⟩) 256 ca]))
    (hgrow : (w.alloc o).grownBy w2 vS.ownBlock) (hat : vS.ownBlock = some g ∨ g = w.heap.size + 1) :
    RefC (w2.setCell ⟨q, 2, none⟩ (.slice (some ⟨g, 0, none⟩) (D.since.length + 1) cap)) q (fun k => P k ∨ k = ga) v1 v2 (.slice (some ⟨g, 0, none⟩) (D.since.length + 1) cap) vO s1 s2 (sS ++ [.int .i64 pg, .slice (some ⟨ga, 0, none⟩) 256 ca]) { D with since := D.since ++ [(pg, b)] } := by
  have hgl := ho.lt2.2
  have kA : ∀ b, b < w.heap.size → vS.ownBlock ≠ some b → b ≠ q → (w2.setCell ⟨q, 2, none⟩ (.slice (some ⟨g, 0, none⟩) (D.since.length + 1) cap)).heap[b]? = w.heap[b]? := fun b hb hne hq =>
    (Below.heap_setCell w2 ⟨q, 2, none⟩ _ b hq).trans ((hgrow.block b (by simp; omega) (fun e => hne e.symm)).trans (Below.heap_alloc _ _ _ hb))
  have lq : q < w.heap.size := hF q (.inl rfl)
  have l1 : ∀ k, v1.ownBlock = some k → k < w.heap.size := fun k hk => hF k (.inr (.inr (.inl hk)))
  have l2 : ∀ k, v2.ownBlock = some k → k < w.heap.size := fun k hk => hF k (.inr (.inr (.inr (.inl hk))))
  have lS : ∀ k, vS.ownBlock = some k → k < w.heap.size := fun k hk => hF k (.inr (.inr (.inr (.inr (.inl hk)))))
  have lO : ∀ k, vO.ownBlock = some k → k < w.heap.size := fun k hk => hF k (.inr (.inr (.inr (.inr (.inr hk)))))
  have lP : ∀ k, P k → k < w.heap.size := fun k hk => hF k (.inr (.inl hk))
  have nq : ga ≠ q := fun e => hg (.inl e)
  have n1 : v1.ownBlock ≠ some ga := fun e => hg (.inr (.inr (.inl e)))
  have n2 : v2.ownBlock ≠ some ga := fun e => hg (.inr (.inr (.inr (.inl e))))
  have nS : vS.ownBlock ≠ some ga := fun e => hg (.inr (.inr (.inr (.inr (.inl e)))))
  have nO : vO.ownBlock ≠ some ga := fun e => hg (.inr (.inr (.inr (.inr (.inr e)))))
  have hSq : vS.ownBlock ≠ some q := fun e => (h.dS q e).2.1 rfl
  have hgq : g ≠ q := by rcases hat with e | e; exact fun e2 => hSq (e2 ▸ e); omega
  have hP : ∀ k, P k → (w2.setCell ⟨q, 2, none⟩ (.slice (some ⟨g, 0, none⟩) (D.since.length + 1) cap)).heap[k]? = w.heap[k]? := fun k hk => kA k (lP k hk) (fun e => (h.dS k e).1 hk) (fun e => h.dq (e ▸ hk))
  have hnew : ∀ k, (Value.slice (some ⟨g, 0, none⟩) (D.since.length + 1) cap).ownBlock = some k → k = g := fun k hk => by simp [Value.ownBlock] at hk; exact hk.symm
  have hgg : ∀ k, k < w.heap.size → k = g → vS.ownBlock = some k := fun k hk e => by rcases hat with e2 | e2; exact e ▸ e2; omega
  have hl : sS.length = 2 * D.since.length := by have := h.oS.1; omega
  exact
  { cells := by
      rw [setCell_heap w2 q 2 _ _ _ _ ((hgrow.block q (by simp; omega) (fun e => hSq e.symm)).trans ((Below.heap_alloc _ _ _ lq).trans h.cells))]
      rfl
    o1 := owns_keep h.o1 (fun k hk => kA k (l1 k hk) (h.d1 k hk).2.2.2.1 (h.d1 k hk).2.1)
    o2 := owns_keep h.o2 (fun k hk => kA k (l2 k hk) (h.d2 k hk).2.2.1 (h.d2 k hk).2.1)
    oS := by
      show World.ownsRow _ 0 _ 2 _ (D.since ++ [(pg, b)]).length _
      rw [List.length_append]
      exact owns_keep hown (fun k hk => Below.heap_setCell w2 ⟨q, 2, none⟩ _ k (by rw [hnew k hk]; exact hgq))
    oO := h.oO.keep (fun k hk => kA k (lO k hk) (fun e => (h.dS k e).2.2 hk) (h.dO k hk).2)
    p1 := (h.p1.keep hP).mono (fun _ e => .inl e)
    p2 := (h.p2.keep hP).mono (fun _ e => .inl e)
    pS := ((h.pS.keep hP).mono (fun _ e => .inl e)).snoc hl (ho.kept (kA ga hgl nS nq)) (.inr rfl)
    f2 := h.f2
    dq := fun e => by rcases e with e | e; exact h.dq e; exact nq e.symm
    d1 := fun k hk => ⟨fun e => by rcases e with e | e; exact (h.d1 k hk).1 e; exact n1 (e ▸ hk), (h.d1 k hk).2.1, (h.d1 k hk).2.2.1, fun e => (h.d1 k hk).2.2.2.1 (hgg k (l1 k hk) (hnew k e)), (h.d1 k hk).2.2.2.2⟩
    d2 := fun k hk => ⟨fun e => by rcases e with e | e; exact (h.d2 k hk).1 e; exact n2 (e ▸ hk), (h.d2 k hk).2.1, fun e => (h.d2 k hk).2.2.1 (hgg k (l2 k hk) (hnew k e)), (h.d2 k hk).2.2.2⟩
    dS := fun k hk => by
      have e := hnew k hk
      subst e
      refine ⟨fun e => ?_, hgq, fun e => ?_⟩
      · rcases e with e | e
        · exact (h.dS k (hgg k (lP k e) rfl)).1 e
        · exact nS (e ▸ hgg k (by omega) rfl)
      · exact (h.dS k (hgg k (lO k e) rfl)).2.2 e
    dO := fun k hk => ⟨fun e => by rcases e with e | e; exact (h.dO k hk).1 e; exact nO (e ▸ hk), (h.dO k hk).2⟩ }

/-- What a walk over the append wants. -/
theorem push_prep {w w7 : World} {q gb cb pg : Nat} {P : Nat → Prop} {v1 v2 vS vO : Value} {s1 s2 sS : List Value} {D : Dv} {b : List Int} (h : RefC w q P v1 v2 vS vO s1 s2 sS D)
    (hF : ∀ k, footR q P v1 v2 vS vO k → k < w.heap.size) (ho : Own w.heap.size w7 (.slice (some ⟨gb, 0, none⟩) 256 cb) b) (hb : Below w.heap.size w w7) :
    w7.cell? ⟨q, 2, none⟩ = some vS ∧ (∀ o, (w7.alloc o).cell? ⟨q, 2, none⟩ = some vS) ∧ w7.ownsRow 0 99 2 vS D.since.length sS ∧
    (∀ (j : Nat) (u : Value), ([.int .i64 pg, .slice (some ⟨gb, 0, none⟩) 256 cb] : List Value)[j]? = some u → (w7.alloc (.cells #[.int .i64 pg, .slice (some ⟨gb, 0, none⟩) 256 cb] 99)).cell? ((⟨w7.heap.size, 0, none⟩ : Addr).add j) = some u) ∧
    (∀ w2, (w7.alloc (.cells #[.int .i64 pg, .slice (some ⟨gb, 0, none⟩) 256 cb] 99)).grownBy w2 vS.ownBlock → w2.cell? ⟨q, 2, none⟩ = some vS ∧ w2.frozen? ⟨q, 2, none⟩ = false) ∧
    (∀ w2 g cap, w2.ownsRow 0 99 2 (.slice (some ⟨g, 0, none⟩) (D.since.length + 1) cap) (D.since.length + 1) (sS ++ [.int .i64 pg, .slice (some ⟨gb, 0, none⟩) 256 cb]) → (w7.alloc (.cells #[.int .i64 pg, .slice (some ⟨gb, 0, none⟩) 256 cb] 99)).grownBy w2 vS.ownBlock → (vS.ownBlock = some g ∨ g = w7.heap.size + 1) →
      RefC (w2.setCell ⟨q, 2, none⟩ (.slice (some ⟨g, 0, none⟩) (D.since.length + 1) cap)) q (fun k => P k ∨ k = gb) v1 v2 (.slice (some ⟨g, 0, none⟩) (D.since.length + 1) cap) vO s1 s2 (sS ++ [.int .i64 pg, .slice (some ⟨gb, 0, none⟩) 256 cb]) { D with since := D.since ++ [(pg, b)] }) := by
  have lq : q < w.heap.size := hF q (.inl rfl)
  have lq7 : q < w7.heap.size := Nat.lt_of_lt_of_le lq hb.size
  have h7 : RefC w7 q P v1 v2 vS vO s1 s2 sS D := h.keep (fun g hg => hb.block g (hF g hg))
  have hF7 : ∀ k, footR q P v1 v2 vS vO k → k < w7.heap.size := fun k hk => Nat.lt_of_lt_of_le (hF k hk) hb.size
  have c2 := h7.at.2.2.1
  have z2 := h7.at.2.2.2.2.2.2.2 2
  have hSq : vS.ownBlock ≠ some q := fun e => (h.dS q e).2.1 rfl
  refine ⟨c2, fun o => (World.cell?_alloc_lt _ _ _ lq7).trans c2, h7.oS, fun j u hj => ?_, fun w2 hg => ?_, fun w2 g cap ho2 hg2 hat => ?_⟩
  · exact World.news_of_block (w := w7.alloc (.cells #[.int .i64 pg, .slice (some ⟨gb, 0, none⟩) 256 cb] 99)) (cs := #[.int .i64 pg, .slice (some ⟨gb, 0, none⟩) 256 cb]) (t := 99) (fr := (0, 0)) (heap_alloc_new w7 _) j u (by simpa using hj)
  · have e : w2.heap[q]? = w7.heap[q]? := (hg.block q (by simp; omega) (fun e => hSq e.symm)).trans (Below.heap_alloc _ _ _ lq7)
    exact ⟨(World.cell?_of_block (w := w7) (a := ⟨q, 2, none⟩) e).trans c2, (World.frozen?_of_block (w := w7) (a := ⟨q, 2, none⟩) e).trans z2⟩
  · exact h7.push hF7 ho.zero (fun e => by have := hF gb e; have := ho.lt2.1; omega) ho2 hg2 hat

theorem infoD : (Tryz.prog.info? 99).map (fun i => (i.zero.map (·.cells.size), i.size, i.bytes)) = some (some 2, 2, 32) := by kernel_rfl
theorem partsD : ∃ i z, Tryz.prog.info? 99 = some i ∧ i.zero = some z ∧ i.size = 2 ∧ i.bytes = 32 ∧ z.cells.size = 2 := by
  have h := infoD
  cases e : Tryz.prog.info? 99 with
  | none => rw [e] at h; cases h
  | some i =>
    rw [e] at h
    simp only [Option.map_some, Option.some.injEq, Prod.mk.injEq] at h
    obtain ⟨h1, h2, h3⟩ := h
    cases hz : i.zero with
    | none => rw [hz] at h1; cases h1
    | some z => rw [hz] at h1; simp at h1; exact ⟨i, z, rfl, hz, h2, h3, h1⟩

theorem rwrite_bad {w : World} {q : Nat} {F : Nat → Prop} {D : Dv} (h : RD w q F D) (pg : Int) (a : Option Addr) (len cap : Nat) (hb : (decide (0 ≤ pg ∧ pg < (D.n : Int)) && decide (len = 256)) = false) :
    Calls Tryz.prog 60 #[.pointer (some ⟨q, 0, none⟩), .int .i64 pg, .slice a len cap] w fun e w' => e = .returned (.int .i64 1) ∧ w = w' := by
  have hp := rpage_any h pg
  clear h
  cases hd : decide (0 ≤ pg ∧ pg < (D.n : Int)) with
  | false =>
    rw [hd] at hp
    clear hb hd
    go_enter Tryz.func60, Tryz.ntmps60
    go_wp2_with (go_at_call 47; refine hp.mono ?_; rintro e w' ⟨rfl, rfl⟩)
    go_ret
    exact ⟨rfl, rfl⟩
  | true =>
    rw [hd] at hp
    have hl : ¬ len = 256 := by rw [hd] at hb; simpa using hb
    have hlb : ((len : Int) == 256) = false := by simp; omega
    clear hb hd
    go_enter Tryz.func60, Tryz.ntmps60
    go_wp2_with (go_at_call 47; refine hp.mono ?_; rintro e w' ⟨rfl, rfl⟩)
    go_ret
    exact ⟨rfl, rfl⟩
end Go.Proofs.YtojckbhbnalkeaaGreat.Oct
