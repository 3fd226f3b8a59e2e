/-
  device.Sync, Read.
-/
import Derived.Test.YtojckbhbnalkeaaGl
namespace Go.Proofs.Ytojckbhbnalkeaa.Oct
open Go.RowKit

theorem oc_cases {D : Dv} (h : D.ok) : oc D = 0 ∨ oc D = 1 ∨ oc D = 2 := by
  have := h.bout.at 0
  unfold oc
  omega

/-- What a Read leaves and tells. -/
theorem opR_any {w : World} {p : Nat} {F : Nat → Prop} {D : Dv} (h : Dev w p F D) (hops : D.ops ≤ 4611686018427387904) (q pg : Nat) (hpg : pg < D.n) (hq : ¬ F q) (hq0 : w.cell? ⟨q, 0, none⟩ = some (.pointer (some ⟨p, 0, none⟩))) (hq1 : w.cell? ⟨q, 1, none⟩ = some (.int .i64 pg)) (v : Value) (hq2 : w.cell? ⟨q, 2, none⟩ = some v) (hz2 : w.frozen? ⟨q, 2, none⟩ = false) :
    Calls Try.prog 33 #[.pointer (some ⟨p, 0, none⟩), .func (.func 34) #[.pointer (some ⟨q, 0, none⟩)] #[], .func (.func 35) #[] #[]] w fun e w' => (∃ i, e = .returned (.tuple #[.bool (tellsD D), .int .i64 i])) ∧ Dev w' p F (readD D) ∧ Ch w.heap.size (fun k => F k ∨ k = q) w w' ∧
      (tellsD D = true → ∃ g c, w'.cell? ⟨q, 2, none⟩ = some (.slice (some ⟨g, 0, none⟩) 256 c) ∧ Own w.heap.size w' (.slice (some ⟨g, 0, none⟩) 256 c) (pageOf D.now pg)) := by
  have hF := h.2.1
  have hp := h.p
  have hbq : q < w.heap.size := block_lt_of_cell hq0
  cases hd : D.dead with
  | true =>
    refine (op_dead h hd _ _ _ _).mono ?_
    rintro e w' ⟨rfl, hb⟩
    refine ⟨⟨7, by simp [tellsD, hd]⟩, ?_, Ch.of _ hb, by simp [tellsD, hd]⟩
    rw [show readD D = D by simp [readD, hd]]
    exact h.below hb
  | false =>
    by_cases hf : D.fuse = 0
    · refine (op_die_r h hd hf hops q hbq (fun a b => a = b) (fun w1 _ _ _ => (nothing_any w1).mono (fun e w2 h => ⟨h.1, by rw [← h.2]; exact Ch.refl _ _ _, h.2⟩))).mono ?_
      rintro e w' ⟨rfl, w1, w2, hd1, hc1, _, rfl, _, hl⟩
      refine ⟨⟨7, by simp [tellsD, hd, hf]⟩, ?_, (hc1.trans (hl.ch F)).mono (Nat.le_refl _) (fun _ _ e => .inl e), by simp [tellsD, hd, hf]⟩
      rw [show readD D = dieD D by simp [readD, hd, hf]]
      exact hd1.loc hl (fun k hk => .inl (hF k hk))
    · have hdo : ∀ w1, Dev w1 p F (opD D) → Ch w.heap.size F w w1 → w.heap.size + 4 ≤ w1.heap.size → Calls Try.prog 34 #[.pointer (some ⟨q, 0, none⟩)] w1 fun e w2 => e = .returned (.tuple #[]) ∧ Ch w1.heap.size (fun k => F k ∨ k = q) w1 w2 ∧ ((∃ g c, w2.cell? ⟨q, 2, none⟩ = some (.slice (some ⟨g, 0, none⟩) 256 c) ∧ Own w1.heap.size w2 (.slice (some ⟨g, 0, none⟩) 256 c) (pageOf D.now pg)) ∧ Ch w1.heap.size (fun k => k = q) w1 w2) :=
        fun w1 h1 hc1 _ => (rdo_any h1 q pg v ((hc1.cell (p := ⟨q, 0, none⟩) hbq hq).trans hq0) ((hc1.cell (p := ⟨q, 1, none⟩) hbq hq).trans hq1) ((hc1.cell (p := ⟨q, 2, none⟩) hbq hq).trans hq2) ((hc1.frozen (p := ⟨q, 2, none⟩) hbq hq).trans hz2) hpg).mono (fun e w2 h => ⟨h.1, h.2.2.mono (Nat.le_refl _) (fun _ _ e => .inr e), h.2.1, h.2.2⟩)
      have fin : ∀ w1 w2 w' : World, Dev w1 p F (opD D) → Ch w.heap.size F w w1 → w.heap.size + 4 ≤ w1.heap.size → ((∃ g c, w2.cell? ⟨q, 2, none⟩ = some (.slice (some ⟨g, 0, none⟩) 256 c) ∧ Own w1.heap.size w2 (.slice (some ⟨g, 0, none⟩) 256 c) (pageOf D.now pg)) ∧ Ch w1.heap.size (fun k => k = q) w1 w2) → LocEq w.heap.size w2 w' →
          Dev w' p F (opD D) ∧ Ch w.heap.size (fun k => F k ∨ k = q) w w' ∧ (∃ g c, w'.cell? ⟨q, 2, none⟩ = some (.slice (some ⟨g, 0, none⟩) 256 c) ∧ Own w.heap.size w' (.slice (some ⟨g, 0, none⟩) 256 c) (pageOf D.now pg)) := fun w1 w2 w' hd1 hc1 hs hr hl => by
        obtain ⟨⟨g, c, hg, ho⟩, hc2⟩ := hr
        have lg := ho.lt2
        refine ⟨(hd1.ch hc2 (fun k hk e => hq (e ▸ hk))).loc hl (fun k hk => .inl (hF k hk)), ?_, g, c, ?_, ?_⟩
        · exact ((hc1.mono (Nat.le_refl _) (fun _ _ e => .inl e)).trans (hc2.mono (by omega) (fun _ _ e => .inr e))).trans (hl.ch _)
        · rw [World.cell?_of_block (w := w2) (a := ⟨q, 2, none⟩) (hl.2.2.2.2 q (.inl hbq))]; exact hg
        · exact owns_base (ho.kept (hl.2.2.2.2 g (.inr (by omega)))) (fun k hk => by simp [Value.ownBlock] at hk; omega)
      rcases oc_cases h.1 with ho | ho | ho
      · refine (op_done0_r h hd hf ho hops q hbq _ hdo).mono ?_
        rintro e w' ⟨rfl, w1, w2, hd1, hc1, hs, hr, _, hl⟩
        obtain ⟨f1, f2, f3⟩ := fin w1 w2 w' hd1 hc1 hs hr hl
        rw [show readD D = opD D by simp [readD, hd, hf], show tellsD D = true by simp [tellsD, hd, hf, ho]]
        exact ⟨⟨_, rfl⟩, f1, f2, fun _ => f3⟩
      · refine (op_fail_r h hd hf ho hops q).mono ?_
        rintro e w' ⟨rfl, hd1, hc1⟩
        rw [show readD D = opD D by simp [readD, hd, hf], show tellsD D = false by simp [tellsD, hd, hf, ho]]
        exact ⟨⟨_, rfl⟩, hd1, hc1.mono (Nat.le_refl _) (fun _ _ e => .inl e), fun h => by cases h⟩
      · refine (op_done2_r h hd hf ho hops q hbq _ hdo).mono ?_
        rintro e w' ⟨rfl, w1, w2, hd1, hc1, hs, hr, _, hl⟩
        obtain ⟨f1, f2, f3⟩ := fin w1 w2 w' hd1 hc1 hs hr hl
        rw [show readD D = opD D by simp [readD, hd, hf], show tellsD D = true by simp [tellsD, hd, hf, ho]]
        exact ⟨⟨_, rfl⟩, f1, f2, fun _ => f3⟩

theorem read_bad {w : World} {p : Nat} {F : Nat → Prop} {D : Dv} (h : Dev w p F D) (pg : Int) (hb : hasB D pg = false) :
    Calls Try.prog 12 #[.pointer (some ⟨p, 0, none⟩), .int .i64 pg] w fun e w' => e = .returned (.tuple #[.slice none 0 0, .int .i64 1]) ∧ w = w' := by
  have hm := made_any h
  have hh := has_any h pg
  rw [hb] at hh
  clear h
  go_enter Try.func12, Try.ntmps12
  go_wp2_with (first | (go_at_call 31; refine hm.mono ?_; rintro e w' ⟨rfl, rfl⟩) | (go_at_call 32; refine hh.mono ?_; rintro e w' ⟨rfl, rfl⟩))
  go_ret2
  exact ⟨rfl, rfl⟩

/-- What a Read answers. -/
def ReadEnd (D : Dv) (pg : Nat) (w : World) (e : Ending) (w' : World) : Prop :=
  if tellsD D = true then ∃ g c, e = .returned (.tuple #[.slice (some ⟨g, 0, none⟩) 256 c, .int .i64 0]) ∧ Own w.heap.size w' (.slice (some ⟨g, 0, none⟩) 256 c) (pageOf D.now pg) else e = .returned (.tuple #[.slice none 0 0, .int .i64 7])

set_option maxHeartbeats 1000000 in
theorem read_any {w : World} {p : Nat} {F : Nat → Prop} {D : Dv} (h : Dev w p F D) (hops : D.ops ≤ 4611686018427387904) (pg : Nat) (hpg : pg < D.n) :
    Calls Try.prog 12 #[.pointer (some ⟨p, 0, none⟩), .int .i64 pg] w fun e w' => ReadEnd D pg w e w' ∧ Dev w' p F (readD D) ∧ Ch w.heap.size F w w' := by
  have hm := made_any h
  have hh := has_any h pg
  rw [show hasB D pg = true by simp [hasB]; omega] at hh
  have hF := h.2.1
  have hb0 : Below w.heap.size w (w.alloc (.cells #[.pointer (some ⟨p, 0, none⟩), .int .i64 pg, .slice none 0 0] 61)) := (Below.refl _ w).alloc (Nat.le_refl _) _
  have h0 := h.below hb0
  have ho := opR_any h0 hops w.heap.size pg hpg (fun e => by have := hF _ e; omega) (by simp [go_sem]) (by simp [go_sem]) (.slice none 0 0) (by simp [go_sem]) (by simp [go_sem])
  have hmk := mkf
  have HB0 : Hid _ := hb0
  have HF : Hid (∀ k, F k → k < w.heap.size) := hF
  clear h h0 hF hb0
  cases ht : tellsD D with
  | true =>
    rw [ht] at ho
    go_enter Try.func12, Try.ntmps12
    go_wp2_with (first | (go_at_call 31; refine hm.mono ?_; rintro e w' ⟨rfl, rfl⟩) | (go_at_call 32; refine hh.mono ?_; rintro e w' ⟨rfl, rfl⟩))
    refine ho.mono ?_
    rintro e w2 ⟨⟨i, rfl⟩, hd, hc, hg⟩
    obtain ⟨g, c, hg1, hg2⟩ := hg (by trivial)
    have HD : Hid (Dev w2 p F (readD D)) := hd
    have HC : Hid (Ch w.heap.size F w w2) := (Ch.of F HB0.out).trans (hc.mono (by simp) (fun k hk e => by rcases e with e | e; exact e; omega))
    have HG : Hid (Own w.heap.size w2 (.slice (some ⟨g, 0, none⟩) 256 c) (pageOf D.now pg)) := owns_base hg2 (fun k hk => by have := World.ownsRow.lt hg2 k hk; simp at this; omega)
    clear hd hc hg hg2 hm hh ho
    go_wp2
    go_ret2
    exact ⟨by unfold ReadEnd; rw [if_pos ht]; exact ⟨g, c, rfl, HG.out⟩, HD.out, HC.out⟩
  | false =>
    rw [ht] at ho
    go_enter Try.func12, Try.ntmps12
    go_wp2_with (first | (go_at_call 31; refine hm.mono ?_; rintro e w' ⟨rfl, rfl⟩) | (go_at_call 32; refine hh.mono ?_; rintro e w' ⟨rfl, rfl⟩))
    refine ho.mono ?_
    rintro e w2 ⟨⟨i, rfl⟩, hd, hc, _⟩
    have HD : Hid (Dev w2 p F (readD D)) := hd
    have HC : Hid (Ch w.heap.size F w w2) := (Ch.of F HB0.out).trans (hc.mono (by simp) (fun k hk e => by rcases e with e | e; exact e; omega))
    clear hd hc hm hh ho
    go_wp2
    go_ret2
    exact ⟨by unfold ReadEnd; rw [if_neg (by rw [ht]; simp)]; rfl, HD.out, HC.out⟩
end Go.Proofs.Ytojckbhbnalkeaa.Oct
