/-
  The document's Read, Fuse.
-/
import Derived.Test.YtfbjjdjgijdlaaaNe
namespace Go.Proofs.Ytfbjjdjgijdlaaa.Oct
open Go.RowKit

theorem RD.q {w : World} {q : Nat} {F : Nat → Prop} {D : Dv} (h : RD w q F D) : F q ∧ q < w.heap.size := by
  obtain ⟨_, h2, P, v1, v2, vS, vO, s1, s2, sS, h3, h4⟩ := h
  exact ⟨h4 q (.inl rfl), h2 q (h4 q (.inl rfl))⟩
theorem RD.dead {w : World} {q : Nat} {F : Nat → Prop} {D : Dv} (h : RD w q F D) : w.cell? ⟨q, 6, none⟩ = some (.bool D.dead) := by
  obtain ⟨_, h2, P, v1, v2, vS, vO, s1, s2, sS, h3, h4⟩ := h
  exact h3.at.2.2.2.2.2.2.1
theorem RD.ops {w : World} {q : Nat} {F : Nat → Prop} {D : Dv} (h : RD w q F D) : w.cell? ⟨q, 5, none⟩ = some (.int .i64 D.ops) := by
  obtain ⟨_, h2, P, v1, v2, vS, vO, s1, s2, sS, h3, h4⟩ := h
  exact h3.at.2.2.2.2.2.1
theorem RD.now {w : World} {q : Nat} {F : Nat → Prop} {D : Dv} (h : RD w q F D) : ∃ g c, w.cell? ⟨q, 1, none⟩ = some (.slice (some ⟨g, 0, none⟩) D.n c) := by
  obtain ⟨ok, h2, P, v1, v2, vS, vO, s1, s2, sS, h3, h4⟩ := h
  have := ok.n8
  obtain ⟨g, c, hv, _, _⟩ := h3.o2.form (by omega)
  exact ⟨g, c, by rw [← hv]; exact h3.at.2.1⟩
/-- A page now. -/
theorem RD.pg {w : World} {q : Nat} {F : Nat → Prop} {D : Dv} (h : RD w q F D) {pg : Nat} (hp : pg < D.n) : ∃ g c g' c', w.cell? ⟨q, 1, none⟩ = some (.slice (some ⟨g, 0, none⟩) D.n c) ∧ w.cell? ⟨g, pg, none⟩ = some (.slice (some ⟨g', 0, none⟩) 256 c') ∧ Row w (some ⟨g', 0, none⟩) c' (pageOf D.now pg) ∧ (pageOf D.now pg).length = 256 := by
  obtain ⟨ok, h2, P, v1, v2, vS, vO, s1, s2, sS, h3, h4⟩ := h
  have := ok.n8
  obtain ⟨g, c, hv, _, _⟩ := h3.o2.form (by omega)
  subst hv
  obtain ⟨g', c', e1, e2, _⟩ := h3.p2 pg hp
  have hl : (pageOf D.now pg).length = 256 := pageOf_len (by rw [ok.now]; omega)
  exact ⟨g, c, g', c', h3.at.2.1, (World.ownsRow.cellAt h3.o2 pg (by omega)).trans e1, (e2.row' (fun x hx => ok.bnow x (List.mem_of_mem_drop (List.mem_of_mem_take hx)))).2, hl⟩

theorem rread_bad {w : World} {q : Nat} {F : Nat → Prop} {D : Dv} (h : RD w q F D) (pg : Int) (hb : decide (0 ≤ pg ∧ pg < (D.n : Int)) = false) :
    Calls Try.prog 24 #[.pointer (some ⟨q, 0, none⟩), .int .i64 pg] w fun e w' => e = .returned (.tuple #[.slice none 0 0, .int .i64 1]) ∧ w = w' := by
  have hp := rpage_any h pg
  rw [hb] at hp
  clear h hb
  go_enter Try.func24, Try.ntmps24
  go_wp2_with (go_at_call 46; refine hp.mono ?_; rintro e w' ⟨rfl, rfl⟩)
  go_ret2
  exact ⟨rfl, rfl⟩

set_option maxHeartbeats 1000000 in
theorem rread_any {w : World} {q : Nat} {F : Nat → Prop} {D : Dv} (h : RD w q F D) (hops : D.ops ≤ 1000000) (pg : Nat) (hpg : pg < D.n) :
    Calls Try.prog 24 #[.pointer (some ⟨q, 0, none⟩), .int .i64 pg] w fun e w' => ReadEnd D pg w e w' ∧ RD w' q F (readD D) ∧ Ch w.heap.size F w w' := by
  have hp := rpage_any h pg
  rw [show decide ((0 : Int) ≤ pg ∧ (pg : Int) < (D.n : Int)) = true by simp; omega] at hp
  have c6 := h.dead
  have HR : Hid (RD w q F D) := h
  have n4 := h.1.n4
  cases hd : D.dead with
  | true =>
    rw [hd] at c6
    have HT : Hid (tellsD D = false) := by show tellsD D = false; simp [tellsD, hd]
    have HE : Hid (readD D = D) := by show readD D = D; simp [readD, hd]
    clear h hd
    go_enter Try.func24, Try.ntmps24
    go_wp2_with (go_at_call 46; refine hp.mono ?_; rintro e w' ⟨rfl, rfl⟩)
    go_ret2
    exact ⟨by unfold ReadEnd; rw [HT.out]; rfl, by rw [HE.out]; exact HR.out, Ch.refl _ _ _⟩
  | false =>
    rw [hd] at c6
    by_cases hf : D.fuse = 0
    · have ho := rop_die h hf hops
      have HT : Hid (tellsD D = false) := by show tellsD D = false; simp [tellsD, hf]
      have HE : Hid (readD D = dieD D) := by show readD D = dieD D; simp [readD, hd, hf]
      clear h hd hf HR
      go_enter Try.func24, Try.ntmps24
      go_wp2_with (first | (go_at_call 46; refine hp.mono ?_; rintro e w' ⟨rfl, rfl⟩) | (go_at_call 47; refine ho.mono ?_; rintro e w1 ⟨rfl, hr1, hc1⟩; have HR1 : Hid (RD w1 q F (dieD D)) := hr1; clear hr1))
      go_ret2
      exact ⟨by unfold ReadEnd; rw [HT.out]; rfl, by rw [HE.out]; exact HR1.out, hc1⟩
    · have ho := rop_go h hf hops
      obtain ⟨o, hoc⟩ : ∃ o, oc D = o := ⟨_, rfl⟩
      rw [hoc] at ho
      have HE : Hid (readD D = opD D) := by show readD D = opD D; simp [readD, hd, hf]
      by_cases h1 : o = 1
      · have HT : Hid (tellsD D = false) := by show tellsD D = false; simp [tellsD, hoc, h1]
        subst h1
        clear h hd hf HR hoc
        go_enter Try.func24, Try.ntmps24
        go_wp2_with (first | (go_at_call 46; refine hp.mono ?_; rintro e w' ⟨rfl, rfl⟩) | (go_at_call 47; refine ho.mono ?_; rintro e w1 ⟨rfl, hr1, hc1⟩; have HR1 : Hid (RD w1 q F (opD D)) := hr1; clear hr1))
        go_ret2
        exact ⟨by unfold ReadEnd; rw [HT.out]; rfl, by rw [HE.out]; exact HR1.out, hc1⟩
      · have HT : Hid (tellsD D = true) := by show tellsD D = true; simp [tellsD, hd, hf, hoc, h1]
        have h1b : (o == 1) = false := by simp [h1]
        clear h hd hf HR hoc
        go_enter Try.func24, Try.ntmps24
        go_wp2_with (first | (go_at_call 46; refine hp.mono ?_; rintro e w' ⟨rfl, rfl⟩) | (go_at_call 47; refine ho.mono ?_; rintro e w1 ⟨rfl, hr1, hc1⟩; obtain ⟨g, c, g', c', x1, x2, x3, x4⟩ := hr1.pg (pg := pg) hpg; have hcp := copy_page _ _ _ w1 x3 x4; have HR1 : Hid (RD w1 q F (opD D)) := hr1; have HC1 : Hid (Ch w.heap.size F w w1) := hc1; rw [show (opD D).n = D.n from rfl] at x1; clear hr1 hc1 x3 x4) | (go_at_call 48; refine hcp.mono ?_; rintro e w2 ⟨gr, cr, rfl, hor, hbr⟩))
        go_ret2
        have s1 := HC1.out.size
        have HO : Own w.heap.size w2 (.slice (some ⟨gr, 0, none⟩) 256 cr) (pageOf D.now pg) := owns_base hor (fun k hk => Nat.le_trans s1 (World.ownsRow.lt hor k hk).1)
        exact ⟨by unfold ReadEnd; rw [HT.out, if_pos rfl]; exact ⟨gr, cr, rfl, HO⟩, by rw [HE.out]; exact HR1.out.below hbr, HC1.out.trans (Ch.of F (hbr.mono s1))⟩

theorem rarm_any {w : World} {q : Nat} {F : Nat → Prop} {D : Dv} (h : RD w q F D) (n : Int) (h1 : -9223372036854775808 ≤ n) (h2 : n ≤ 9223372036854775807) :
    Calls Try.prog 26 #[.pointer (some ⟨q, 0, none⟩), .int .i64 n] w fun e w' => e = .returned (.tuple #[]) ∧ RD w' q F (fuseD D n) ∧ Ch w.heap.size F w w' := by
  have c6 := h.dead
  have HR : Hid (RD w q F D) := h
  cases hd : D.dead with
  | true =>
    rw [hd] at c6
    have HE : Hid (fuseD D n = D) := by show fuseD D n = D; simp [fuseD, hd]
    clear h hd
    go_enter Try.func26, Try.ntmps26
    go_wp2
    go_end0
    exact ⟨rfl, by rw [HE.out]; exact HR.out, Ch.refl _ _ _⟩
  | false =>
    rw [hd] at c6
    obtain ⟨ok, hF, P, v1, v2, vS, vO, s1, s2, sS, hc, hfo⟩ := h
    have z4 := hc.at.2.2.2.2.2.2.2 4
    have c4 := hc.at.2.2.2.2.1
    have hq : F q := hfo q (.inl rfl)
    obtain ⟨m, hm⟩ : ∃ m, max n (-1) = m := ⟨_, rfl⟩
    have HD : Hid (RD (w.setCell ⟨q, 4, none⟩ (.int .i64 m)) q F (fuseD D n)) := by
      have e : fuseD D n = { D with fuse := m, ops := D.ops, dead := D.dead, out := D.out } := by simp [fuseD, hd, hm]
      rw [e]
      refine ⟨⟨ok.n8, ok.n4, ok.now, ok.sure, ok.bnow, ok.bsure, ok.bout, ok.since, by show -1 ≤ m; omega⟩, fun k hk => by simp only [size_setCell]; exact hF k hk, P, v1, v2, vS, vO, s1, s2, sS, ?_, fun k hk => hfo k hk⟩
      refine hc.setq (fu := m) (op := D.ops) (dd := D.dead) (ou := D.out) ?_ (fun b hb => Below.heap_setCell _ _ _ b hb) hc.oO (fun g hg => hg) (by omega)
      rw [setCell_heap _ q 4 _ _ _ _ hc.cells]
      rfl
    clear ok hF hc hfo HR hd
    by_cases hn : -1 ≤ n
    · obtain rfl : m = n := by omega
      clear hm
      go_enter Try.func26, Try.ntmps26
      go_wp2
      go_end0
      exact ⟨rfl, HD.out, Ch.set hq _ _⟩
    · obtain rfl : m = -1 := by omega
      clear hm
      go_enter Try.func26, Try.ntmps26
      go_wp2
      go_end0
      exact ⟨rfl, HD.out, Ch.set hq _ _⟩
end Go.Proofs.Ytfbjjdjgijdlaaa.Oct
