/-
  device.Sync, Read.
-/
import Derived.Test.YtjllhcifmfhkmaaGreatGj
import Derived.Test.YtjllhcifmfhkmaaGreatVd
import Derived.Test.YtjllhcifmfhkmaaGreatBb
import Derived.Maps.Own
import Derived.Maps.OwnOps
import Derived.Maps.OwnSet
namespace Go.Proofs.YtjllhcifmfhkmaaGreat.Oct
open Go.RowKit

theorem oc_cases {D : Dv} (h : D.ok) : oc D = 0 ∨ oc D = 1 ∨ oc D = 2 := by
  have := h.bout.at 0
  unfold oc
  omega

/-- What a Read leaves and tells. -/
theorem opR_any {w : World} {p : Nat} {F : Nat → Prop} {D : Dv} (h : Dev w p F D) (hops : D.ops ≤ 4611686018427387904) (q pg : Nat) (hpg : pg < D.n) (hq : ¬ F q) (hq0 : w.cell? ⟨q, 0, none⟩ = some (.pointer (some ⟨p, 0, none⟩))) (hq1 : w.cell? ⟨q, 1, none⟩ = some (.int .i64 pg)) (v : Value) (hq2 : w.cell? ⟨q, 2, none⟩ = some v) (hz2 : w.frozen? ⟨q, 2, none⟩ = false) :
    Calls Tryz.prog 49 #[.pointer (some ⟨p, 0, none⟩), .func (.func 50) #[.pointer (some ⟨q, 0, none⟩)] #[], .func (.func 51) #[] #[]] w fun e w' => (∃ i, e = .returned (.tuple #[.bool (tellsD D), .int .i64 i])) ∧ Dev w' p F (readD D) ∧ Ch w.heap.size (fun k => F k ∨ k = q) w w' ∧
      (tellsD D = true → ∃ g c, w'.cell? ⟨q, 2, none⟩ = some (.slice (some ⟨g, 0, none⟩) 256 c) ∧ Own w.heap.size w' (.slice (some ⟨g, 0, none⟩) 256 c) (pageOf D.now pg)) := by
  have hF := h.2.1
  have hp := h.p
  have hbq : q < w.heap.size := block_lt_of_cell hq0
  cases hd : D.dead with
  | true =>
    refine (op_dead h hd _ _ _ _).mono ?_
    rintro e w' ⟨rfl, hb⟩
    refine ⟨⟨7, by simp [tellsD, hd]⟩, ?_, Ch.of _ hb, by simp [tellsD, hd]⟩
    rw [show readD D = D by simp [readD, hd]]
    exact h.below hb
  | false =>
    by_cases hf : D.fuse = 0
    · refine (op_die_r h hd hf hops q hbq (fun a b => a = b) (fun w1 _ _ _ => (nothing_any w1).mono (fun e w2 h => ⟨h.1, by rw [← h.2]; exact Ch.refl _ _ _, h.2⟩))).mono ?_
      rintro e w' ⟨rfl, w1, w2, hd1, hc1, _, rfl, _, hl⟩
      refine ⟨⟨7, by simp [tellsD, hd, hf]⟩, ?_, (hc1.trans (hl.ch F)).mono (Nat.le_refl _) (fun _ _ e => .inl e), by simp [tellsD, hd, hf]⟩
      rw [show readD D = dieD D by simp [readD, hd, hf]]
      exact hd1.loc hl (fun k hk => .inl (hF k hk))
    · have hdo : ∀ w1, Dev w1 p F (opD D) → Ch w.heap.size F w w1 → w.heap.size + 4 ≤ w1.heap.size → Calls Tryz.prog 50 #[.pointer (some ⟨q, 0, none⟩)] w1 fun e w2 => e = .returned (.tuple #[]) ∧ Ch w1.heap.size (fun k => F k ∨ k = q) w1 w2 ∧ ((∃ g c, w2.cell? ⟨q, 2, none⟩ = some (.slice (some ⟨g, 0, none⟩) 256 c) ∧ Own w1.heap.size w2 (.slice (some ⟨g, 0, none⟩) 256 c) (pageOf D.now pg)) ∧ Ch w1.heap.size (fun k => k = q) w1 w2) :=
        fun w1 h1 hc1 _ => (rdo_any h1 q pg v ((hc1.cell (p := ⟨q, 0, none⟩) hbq hq).trans hq0) ((hc1.cell (p := ⟨q, 1, none⟩) hbq hq).trans hq1) ((hc1.cell (p := ⟨q, 2, none⟩) hbq hq).trans hq2) ((hc1.frozen (p := ⟨q, 2, none⟩) hbq hq).trans hz2) hpg).mono (fun e w2 h => ⟨h.1, h.2.2.mono (Nat.le_refl _) (fun _ _ e => .inr e), h.2.1, h.2.2⟩)
      have fin : ∀ w1 w2 w' : World, Dev w1 p F (opD D) → Ch w.heap.size F w w1 → w.heap.size + 4 ≤ w1.heap.size → ((∃ g c, w2.cell? ⟨q, 2, none⟩ = some (.slice (some ⟨g, 0, none⟩) 256 c) ∧ Own w1.heap.size w2 (.slice (some ⟨g, 0, none⟩) 256 c) (pageOf D.now pg)) ∧ Ch w1.heap.size (fun k => k = q) w1 w2) → LocEq w.heap.size w2 w' →
          Dev w' p F (opD D) ∧ Ch w.heap.size (fun k => F k ∨ k = q) w w' ∧ (∃ g c, w'.cell? ⟨q, 2, none⟩ = some (.slice (some ⟨g, 0, none⟩) 256 c) ∧ Own w.heap.size w' (.slice (some ⟨g, 0, none⟩) 256 c) (pageOf D.now pg)) := fun w1 w2 w' hd1 hc1 hs hr hl => by
        obtain ⟨⟨g, c, hg, ho⟩, hc2⟩ := hr
        have lg := ho.lt2
        refine ⟨(hd1.ch hc2 (fun k hk e => hq (e ▸ hk))).loc hl (fun k hk => .inl (hF k hk)), ?_, g, c, ?_, ?_⟩
        · exact ((hc1.mono (Nat.le_refl _) (fun _ _ e => .inl e)).trans (hc2.mono (by omega) (fun _ _ e => .inr e))).trans (hl.ch _)
        · rw [World.cell?_of_block (w := w2) (a := ⟨q, 2, none⟩) (hl.2.2.2.2 q (.inl hbq))]; exact hg
        · exact owns_base (ho.kept (hl.2.2.2.2 g (.inr (by omega)))) (fun k hk => by simp [Value.ownBlock] at hk; omega)
      rcases oc_cases h.1 with ho | ho | ho
      · refine (op_done0_r h hd hf ho hops q hbq _ hdo).mono ?_
        rintro e w' ⟨rfl, w1, w2, hd1, hc1, hs, hr, _, hl⟩
        obtain ⟨f1, f2, f3⟩ := fin w1 w2 w' hd1 hc1 hs hr hl
        rw [show readD D = opD D by simp [readD, hd, hf], show tellsD D = true by simp [tellsD, hd, hf, ho]]
        exact ⟨⟨_, rfl⟩, f1, f2, fun _ => f3⟩
      · refine (op_fail_r h hd hf ho hops q).mono ?_
        rintro e w' ⟨rfl, hd1, hc1⟩
        rw [show readD D = opD D by simp [readD, hd, hf], show tellsD D = false by simp [tellsD, hd, hf, ho]]
        exact ⟨⟨_, rfl⟩, hd1, hc1.mono (Nat.le_refl _) (fun _ _ e => .inl e), fun h => by cases h⟩
      · refine (op_done2_r h hd hf ho hops q hbq _ hdo).mono ?_
        rintro e w' ⟨rfl, w1, w2, hd1, hc1, hs, hr, _, hl⟩
        obtain ⟨f1, f2, f3⟩ := fin w1 w2 w' hd1 hc1 hs hr hl
        rw [show readD D = opD D by simp [readD, hd, hf], show tellsD D = true by simp [tellsD, hd, hf, ho]]
        exact ⟨⟨_, rfl⟩, f1, f2, fun _ => f3⟩

theorem read_bad {w : World} {p : Nat} {F : Nat → Prop} {D : Dv} (h : Dev w p F D) (pg : Int) (hb : hasB D pg = false) :
    Calls Tryz.prog 25 #[.pointer (some ⟨p, 0, none⟩), .int .i64 pg] w fun e w' => e = .returned (.tuple #[.slice none 0 0, .int .i64 1]) ∧ w = w' := by
  have hm := made_any h
  have hh := has_any h pg
  rw [hb] at hh
  clear h
  go_enter Tryz.func25, Tryz.ntmps25
  go_wp2_with (first | (go_at_call 43; refine hm.mono ?_; rintro e w' ⟨rfl, rfl⟩) | (go_at_call 48; refine hh.mono ?_; rintro e w' ⟨rfl, rfl⟩))
  go_ret2
  exact ⟨rfl, rfl⟩

/-- What a Read answers. -/
def ReadEnd (D : Dv) (pg : Nat) (w : World) (e : Ending) (w' : World) : Prop :=
  if tellsD D = true then ∃ g c, e = .returned (.tuple #[.slice (some ⟨g, 0, none⟩) 256 c, .int .i64 0]) ∧ Own w.heap.size w' (.slice (some ⟨g, 0, none⟩) 256 c) (pageOf D.now pg) else e = .returned (.tuple #[.slice none 0 0, .int .i64 7])

set_option maxHeartbeats 1000000 in
theorem read_any {w : World} {p : Nat} {F : Nat → Prop} {D : Dv} (h : Dev w p F D) (hops : D.ops ≤ 4611686018427387904) (pg : Nat) (hpg : pg < D.n) :
    Calls Tryz.prog 25 #[.pointer (some ⟨p, 0, none⟩), .int .i64 pg] w fun e w' => ReadEnd D pg w e w' ∧ Dev w' p F (readD D) ∧ Ch w.heap.size F w w' := by
  have hm := made_any h
  have hh := has_any h pg
  rw [show hasB D pg = true by simp [hasB]; omega] at hh
  have hF := h.2.1
  have hb0 : Below w.heap.size w (w.alloc (.cells #[.pointer (some ⟨p, 0, none⟩), .int .i64 pg, .slice none 0 0] 102)) := (Below.refl _ w).alloc (Nat.le_refl _) _
  have h0 := h.below hb0
  have ho := opR_any h0 hops w.heap.size pg hpg (fun e => by have := hF _ e; omega) (by simp [go_sem]) (by simp [go_sem]) (.slice none 0 0) (by simp [go_sem]) (by simp [go_sem])
  have hmk := mkf
  have HB0 : Hid _ := hb0
  have HF : Hid (∀ k, F k → k < w.heap.size) := hF
  clear h h0 hF hb0
  cases ht : tellsD D with
  | true =>
    rw [ht] at ho
    go_enter Tryz.func25, Tryz.ntmps25
    go_wp2_with (first | (go_at_call 43; refine hm.mono ?_; rintro e w' ⟨rfl, rfl⟩) | (go_at_call 48; refine hh.mono ?_; rintro e w' ⟨rfl, rfl⟩))
    refine ho.mono ?_
    rintro e w2 ⟨⟨i, rfl⟩, hd, hc, hg⟩
    obtain ⟨g, c, hg1, hg2⟩ := hg (by trivial)
    have HD : Hid (Dev w2 p F (readD D)) := hd
    have HC : Hid (Ch w.heap.size F w w2) := (Ch.of F HB0.out).trans (hc.mono (by simp) (fun k hk e => by rcases e with e | e; exact e; omega))
    have HG : Hid (Own w.heap.size w2 (.slice (some ⟨g, 0, none⟩) 256 c) (pageOf D.now pg)) := owns_base hg2 (fun k hk => by have := World.ownsRow.lt hg2 k hk; simp at this; omega)
    clear hd hc hg hg2 hm hh ho
    go_wp2
    go_ret2
    exact ⟨by unfold ReadEnd; rw [if_pos ht]; exact ⟨g, c, rfl, HG.out⟩, HD.out, HC.out⟩
  | false =>
    rw [ht] at ho
    go_enter Tryz.func25, Tryz.ntmps25
    go_wp2_with (first | (go_at_call 43; refine hm.mono ?_; rintro e w' ⟨rfl, rfl⟩) | (go_at_call 48; refine hh.mono ?_; rintro e w' ⟨rfl, rfl⟩))
    refine ho.mono ?_
    rintro e w2 ⟨⟨i, rfl⟩, hd, hc, _⟩
    have HD : Hid (Dev w2 p F (readD D)) := hd
    have HC : Hid (Ch w.heap.size F w w2) := (Ch.of F HB0.out).trans (hc.mono (by simp) (fun k hk e => by rcases e with e | e; exact e; omega))
    clear hd hc hm hh ho
    go_wp2
    go_ret2
    exact ⟨by unfold ReadEnd; rw [if_neg (by rw [ht]; simp)]; rfl, HD.out, HC.out⟩
end Go.Proofs.YtjllhcifmfhkmaaGreat.Oct

/-
  The program's audit: rows of bools, a map of texts, a device read again and again.
-/
namespace Go.Proofs.YtjllhcifmfhkmaaGreat.Oct
open Go.RowKit
open Go.Maps (Keyed int_keyed keyOf_int_mk)

/-! Rows of bools. -/
def OwnL (base : Nat) (w : World) (v : Value) (R : List Bool) : Prop := w.ownsRow base 4 1 v R.length (R.map Value.bool)
theorem ownL_at {base g n cap : Nat} {w : World} {R : List Bool} (h : OwnL base w (.slice (some ⟨g, 0, none⟩) n cap) R) (j : Nat) (hj : j < R.length) :
    n = R.length ∧ w.cell? ⟨g, j, none⟩ = some (.bool (R.getD j false)) ∧ w.frozen? ⟨g, j, none⟩ = false ∧ ∀ y : Bool, OwnL base (w.setCell ⟨g, j, none⟩ (.bool y)) (.slice (some ⟨g, 0, none⟩) n cap) (R.set j y) := by
  have h' := h
  obtain ⟨_, ⟨e, _⟩ | ⟨g', cap', cur, e, hg, hc, hn, hm, hs, ht⟩⟩ := h
  · simp at e
  · simp only [Value.slice.injEq, Option.some.injEq, Addr.mk.injEq, and_true] at e
    obtain ⟨rfl, rfl, rfl⟩ := e
    refine ⟨rfl, ?_, World.ownsRow.frozenAt h' j, fun y => ?_⟩
    · rw [World.ownsRow.cellAt h' j (by omega)]; simp [hj]
    · have := World.ownsRow.stored h' j (.bool y)
      unfold OwnL
      rw [List.length_set, List.map_set]
      exact this.1
theorem OwnL.cap {base g n cap : Nat} {w : World} {R : List Bool} (h : OwnL base w (.slice (some ⟨g, 0, none⟩) n cap) R) : n = R.length ∧ n ≤ cap ∧ cap ≤ maxLen ∧ g < w.heap.size ∧ base ≤ g := by
  have hl := World.ownsRow.lt h g rfl
  obtain ⟨_, ⟨e, _⟩ | ⟨g', cap', cur, e, hg, hc, hn, hm, hs, ht⟩⟩ := h
  · simp at e
  · simp only [Value.slice.injEq, Option.some.injEq, Addr.mk.injEq, and_true] at e
    obtain ⟨rfl, rfl, rfl⟩ := e
    exact ⟨rfl, hn, hm, hl.2, hl.1⟩
theorem OwnL.kept {base g n cap : Nat} {w w' : World} {R : List Bool} (h : OwnL base w (.slice (some ⟨g, 0, none⟩) n cap) R) (k : w'.heap[g]? = w.heap[g]?) : OwnL base w' (.slice (some ⟨g, 0, none⟩) n cap) R :=
  owns_keep h (fun x hx => by simp [Value.ownBlock] at hx; rw [← hx]; exact k)

/-! A map from pages to texts. -/
def heldE (v : Value) : Option (DataW Value × List MemPlace) := some (.held v, [])
def findV (ts : List (Nat × Value)) (k : Int) : Option Value := (ts.find? (fun x => decide ((x.1 : Int) = k))).map (·.2)
def lkV (o : Option Value) : DataW Value := match o with | none => .nil | some v => .held v
def HeldV (w : World) (m : Nat) (ts : List (Nat × Value)) : Prop := ∃ D : DataW Value, w.ownsMap Tryz.prog 3 heldE m ts.length D ∧ ∀ k : Int, D.atKey (.int .i64 k) .nil = lkV (findV ts k)
theorem keyI : Keyed Tryz.prog 3 := int_keyed Tryz.underlying3
theorem zeroSl (w : World) : (zeroValue 30).run Tryz.prog w = .ok (.slice none 0 0) w := by kernel_rfl
theorem HeldV.keep {w w' : World} {m : Nat} {ts : List (Nat × Value)} (h : HeldV w m ts) (k : w'.heap[m]? = w.heap[m]?) : HeldV w' m ts := by
  obtain ⟨D, ⟨es, clock, hb, rest⟩, h3⟩ := h
  exact ⟨D, ⟨es, clock, k.trans hb, rest⟩, h3⟩
theorem HeldV.lt {w : World} {m : Nat} {ts : List (Nat × Value)} (h : HeldV w m ts) : m < w.heap.size := by
  obtain ⟨D, h, _⟩ := h; exact h.lt
theorem HeldV.look {w : World} {m : Nat} {ts : List (Nat × Value)} (h : HeldV w m ts) (k : Int) (hk : (Lit.int .i64 k).wf = true) :
    (Instr.lookup 119 (.map (some m)) (.int .i64 k) true).run Tryz.prog w = .ok (.tuple #[(findV ts k).getD (.slice none 0 0), .bool (findV ts k).isSome]) w := by
  obtain ⟨D, ⟨es, clock, hb, F, hs, rfl⟩, h3⟩ := h
  have h3 := h3 k
  rcases Maps.fit_look true keyI Tryz.underlying119 (zeroSl w) hb F (keyOf_int_mk Tryz.underlying3 hk) with ⟨hrun, _, hat⟩ | ⟨e0, y, _, _, hrun, hRv, hat, _⟩
  · rw [hat .nil] at h3
    cases hf : findV ts k with
    | none => exact hrun
    | some v => rw [hf] at h3; cases h3
  · rw [hat .nil] at h3
    unfold heldE at hRv
    simp only [Option.some.injEq] at hRv
    subst hRv
    cases hf : findV ts k with
    | none => rw [hf] at h3; cases h3
    | some v =>
      rw [hf] at h3
      simp only [lkV, DataW.held.injEq] at h3
      subst h3
      exact hrun
theorem findV_app (ts : List (Nat × Value)) (x : Nat × Value) (hx : findV ts x.1 = none) (k : Int) : findV (ts ++ [x]) k = if k = x.1 then some x.2 else findV ts k := by
  unfold findV at *
  rw [List.find?_append]
  by_cases hk : k = x.1
  · subst hk
    simp at hx
    rw [List.find?_eq_none.2 (by simpa using hx)]
    simp
  · have hk' : ¬ (x.1 : Int) = k := fun e => hk e.symm
    simp only [if_neg hk]
    cases ts.find? (fun x => decide ((x.1 : Int) = k)) with
    | none => simp [hk']
    | some y => simp
theorem HeldV.put {w : World} {m : Nat} {ts : List (Nat × Value)} (h : HeldV w m ts) (pg : Nat) (hp : (Lit.int .i64 (pg : Int)).wf = true) (v : Value) (hl : ts.length ≤ 1000000) (hx : findV ts pg = none) :
    ∃ w', (Instr.mapUpdate 119 (.map (some m)) (.int .i64 pg) v).run Tryz.prog w = .ok () w' ∧ HeldV w' m (ts ++ [(pg, v)]) ∧ w.grownBy w' (some m) := by
  obtain ⟨D, h2, h3⟩ := h
  obtain ⟨w', hrun, ho, ht⟩ := h2.update keyI Tryz.underlying119 (by unfold maxLen; omega) (keyOf_int_mk Tryz.underlying3 hp) (val := v) (d := .held v) (ps := []) rfl
  refine ⟨w', hrun, ⟨D.put (.int .i64 pg) (.held v), by simpa using ho, fun k => ?_⟩, ht⟩
  rw [findV_app _ (pg, v) hx]
  by_cases hk : k = pg
  · subst hk
    rw [Maps.atKey_put_same (k := .int .i64 (pg : Int)) h2.isMap trivial]
    simp [lkV]
  · rw [Maps.atKey_put_other (fun e => hk (by simpa using e)), h3]
    simp [hk]
theorem heldV_new (w : World) : HeldV (w.alloc (.map #[] 0)) w.heap.size [] := ⟨.map [], World.ownsMap_made w Tryz.prog 3 heldE, fun k => by simp [findV, lkV, DataW.atKey]⟩

/-! Reads, one behind the other. -/
def rdK (D : Dv) : Nat → Dv
  | 0 => D
  | k + 1 => readD (rdK D k)
theorem readD_is (D : Dv) : (readD D).now = D.now ∧ (readD D).n = D.n ∧ (readD D).ops ≤ D.ops + 1 ∧ D.ops ≤ (readD D).ops := by
  unfold readD
  split
  · exact ⟨rfl, rfl, by omega, by omega⟩
  · split
    · exact ⟨rfl, rfl, by simp [dieD], by simp [dieD]⟩
    · exact ⟨rfl, rfl, by simp [opD], by simp [opD]⟩
theorem rdK_is (D : Dv) : ∀ k, (rdK D k).now = D.now ∧ (rdK D k).n = D.n ∧ (rdK D k).ops ≤ D.ops + k ∧ D.ops ≤ (rdK D k).ops := by
  intro k
  induction k with
  | zero => exact ⟨rfl, rfl, Nat.le_refl _, Nat.le_refl _⟩
  | succ k ih =>
    have := readD_is (rdK D k)
    rw [rdK]
    exact ⟨this.1.trans ih.1, this.2.1.trans ih.2.1, by omega, by omega⟩

/-- What is thrown. -/
def thrA (k : Int) : Ending := .panicked [{ v := .iface 24 (.int .i64 k), recovered := false }]
theorem demand_yes (w : World) : Calls Tryz.prog 54 #[.bool true] w fun e w' => e = .returned (.tuple #[]) ∧ w = w' := by
  go_enter Tryz.func54, Tryz.ntmps54
  go_wp2
  go_end0
  exact ⟨rfl, rfl⟩
theorem demand_no (w : World) : Calls Tryz.prog 54 #[.bool false] w fun e w' => e = thrA 8 ∧ w = w' := by
  go_enter Tryz.func54, Tryz.ntmps54
  go_wp2
  exact ⟨rfl, rfl, rfl⟩
end Go.Proofs.YtjllhcifmfhkmaaGreat.Oct

/-
  The program's audit: a walker in memory; reach.
-/
namespace Go.Proofs.YtjllhcifmfhkmaaGreat.Oct
open Go.RowKit

/-- A text that was read. -/
def TxRow (w : World) (F : Nat → Prop) (L : List Int) (x : Nat × Value) : Prop := ∃ a c, x.2 = .slice a (teL (pageOf L x.1)).length c ∧ Row w a c (teL (pageOf L x.1)) ∧ ∀ k, obl a k → ¬ F k ∧ k < w.heap.size
/-- A walker in memory. -/
structure PW (w : World) (p d : Nat) (F FD : Nat → Prop) (D0 : Dv) (L : List Int) (gr cr m : Nat) (aP : Option Addr) (cP : Nat) (R : List Bool) (pcs : List C4) (ts : List (Nat × Value)) : Prop where
  lt : ∀ k, F k → k < w.heap.size
  dev : Dev w d FD (rdK D0 (cnt R))
  told : ∀ j, j < cnt R → tellsD (rdK D0 j) = true
  now : D0.now = L
  rn : R.length = D0.n
  ops : D0.ops ≤ 1000000000000
  cells : w.heap[p]? = some (.cells #[.pointer (some ⟨d, 0, none⟩), .slice (some ⟨gr, 0, none⟩) R.length cr, .slice aP pcs.length cP, .map (some m)] 121 (0, 0))
  rch : OwnL 0 w (.slice (some ⟨gr, 0, none⟩) R.length cr) R
  pc : OwnC 72 0 w (.slice aP pcs.length cP) pcs
  tx : HeldV w m ts
  row : ∀ x ∈ ts, TxRow w F L x
  fD : ∀ k, FD k → F k
  fp : F p
  fg : F gr
  fm : F m
  fP : ∀ k, obl aP k → F k
  pD : ¬ FD p
  gD : ¬ FD gr
  mD : ¬ FD m
  PD : ∀ k, obl aP k → ¬ FD k
  pg : ¬ p = gr
  pm : ¬ p = m
  gm : ¬ gr = m
  pP : ¬ obl aP p
  gP : ¬ obl aP gr
  mP : ¬ obl aP m
def PWA (w : World) (p d : Nat) (F : Nat → Prop) (D0 : Dv) (L : List Int) (R : List Bool) (pcs : List C4) (ts : List (Nat × Value)) : Prop := ∃ FD gr cr m aP cP, PW w p d F FD D0 L gr cr m aP cP R pcs ts

section
variable {w w' : World} {p d gr cr m cP : Nat} {F FD : Nat → Prop} {D0 : Dv} {L : List Int} {aP : Option Addr} {R : List Bool} {pcs : List C4} {ts : List (Nat × Value)}

theorem TxRow.keep {x : Nat × Value} (h : TxRow w F L x) {F' : Nat → Prop} (hs : w.heap.size ≤ w'.heap.size) (k : ∀ g, ¬ F g → g < w.heap.size → w'.heap[g]? = w.heap[g]? ∧ ¬ F' g) : TxRow w' F' L x := by
  obtain ⟨a, c, e, h1, h2⟩ := h
  exact ⟨a, c, e, h1.keepO (fun g hg => (k g (h2 g hg).1 (h2 g hg).2).1), fun g hg => ⟨(k g (h2 g hg).1 (h2 g hg).2).2, Nat.lt_of_lt_of_le (h2 g hg).2 hs⟩⟩
theorem PW.at (h : PW w p d F FD D0 L gr cr m aP cP R pcs ts) : w.cell? ⟨p, 0, none⟩ = some (.pointer (some ⟨d, 0, none⟩)) ∧ w.cell? ⟨p, 1, none⟩ = some (.slice (some ⟨gr, 0, none⟩) R.length cr) ∧ w.cell? ⟨p, 2, none⟩ = some (.slice aP pcs.length cP) ∧ w.cell? ⟨p, 3, none⟩ = some (.map (some m)) ∧ ∀ i, w.frozen? ⟨p, i, none⟩ = false := by
  refine ⟨?_, ?_, ?_, ?_, fun i => ?_⟩
  iterate 4 (rw [cell_of_row w p _ _ _ (0, 0) h.cells]; rfl)
  unfold World.frozen?
  rw [h.cells]
  simp
/-- What turns elsewhere. -/
theorem PW.below (h : PW w p d F FD D0 L gr cr m aP cP R pcs ts) (hb : Below w.heap.size w w') : PW w' p d F FD D0 L gr cr m aP cP R pcs ts :=
  { h with
    lt := fun k hk => Nat.lt_of_lt_of_le (h.lt k hk) hb.size
    dev := h.dev.below hb
    cells := (hb.block p (h.lt p h.fp)).trans h.cells
    rch := h.rch.kept (hb.block gr (h.lt gr h.fg))
    pc := h.pc.keepO (fun g hg => hb.block g (h.lt g (h.fP g hg)))
    tx := h.tx.keep (hb.block m (h.lt m h.fm))
    row := fun x hx => (h.row x hx).keep hb.size (fun g hg hl => ⟨hb.block g hl, hg⟩) }
theorem PWA.below (h : PWA w p d F D0 L R pcs ts) (hb : Below w.heap.size w w') : PWA w' p d F D0 L R pcs ts := by
  obtain ⟨FD, gr, cr, m, aP, cP, h⟩ := h
  exact ⟨FD, gr, cr, m, aP, cP, h.below hb⟩
theorem PWA.lt (h : PWA w p d F D0 L R pcs ts) : ∀ k, F k → k < w.heap.size := by
  obtain ⟨FD, gr, cr, m, aP, cP, h⟩ := h; exact h.lt
theorem PWA.fp (h : PWA w p d F D0 L R pcs ts) : F p := by
  obtain ⟨FD, gr, cr, m, aP, cP, h⟩ := h; exact h.fp
theorem PWA.rn (h : PWA w p d F D0 L R pcs ts) : R.length = D0.n ∧ R.length ≤ 4096 ∧ 8 ≤ R.length ∧ L.length = 256 * R.length ∧ Bys L := by
  obtain ⟨FD, gr, cr, m, aP, cP, h⟩ := h
  have h1 := h.dev.1.n4
  have h2 := h.dev.1.n8
  have h3 := h.dev.1.now
  have h4 := h.dev.1.bnow
  have h5 := rdK_is D0 (cnt R)
  rw [h5.2.1] at h1 h2 h3
  rw [h5.1, h.now] at h3 h4
  have := h.rn
  exact ⟨h.rn, by omega, by omega, by omega, h4⟩

/-- Pages that were read: the device's steps. -/
def RdNo (w : World) (d : Nat) (D0 : Dv) (k : Nat) : Prop := ∃ FD, Dev w d FD (rdK D0 k)
/-- How a step of the walk may end but well: what is not so (8), or a read that failed (7). -/
def AuBad (w0 : World) (F : Nat → Prop) (d : Nat) (D0 : Dv) (N : Nat) (e : Ending) (w' : World) (no : Prop) : Prop :=
  (e = thrA 8 ∧ no ∧ ∃ k FD, k ≤ N ∧ Dev w' d FD (rdK D0 k) ∧ (∀ j, j < k → tellsD (rdK D0 j) = true) ∧ Step F FD w0 w') ∨
  (e = thrA 7 ∧ ∃ k FD, k < N ∧ Dev w' d FD (rdK D0 (k + 1)) ∧ (∀ j, j < k → tellsD (rdK D0 j) = true) ∧ tellsD (rdK D0 k) = false ∧ Step F FD w0 w')
theorem AuBad.mono {w0 w1 : World} {F1 : Nat → Prop} {N : Nat} {e : Ending} {no no' : Prop} (h : AuBad w1 F1 d D0 N e w' no) (st : Step F F1 w0 w1) (hn : no → no') : AuBad w0 F d D0 N e w' no' := by
  rcases h with ⟨rfl, h1, k, FD, h2, h3, h4, h5⟩ | ⟨rfl, k, FD, h2, h3, h4, h5, h6⟩
  · exact .inl ⟨rfl, hn h1, k, FD, h2, h3, h4, st.trans h5⟩
  · exact .inr ⟨rfl, k, FD, h2, h3, h4, h5, st.trans h6⟩
theorem PW.bad (h : PW w p d F FD D0 L gr cr m aP cP R pcs ts) {no : Prop} (hn : no) {w0 : World} {F0 : Nat → Prop} (st : Step F0 F w0 w) : AuBad w0 F0 d D0 R.length (thrA 8) w no :=
  .inl ⟨rfl, hn, cnt R, FD, cnt_le R, h.dev, h.told, st.1, fun k hk => st.2 k (h.fD k hk)⟩
theorem PWA.bad (h : PWA w p d F D0 L R pcs ts) {no : Prop} (hn : no) {w0 : World} {F0 : Nat → Prop} (st : Step F0 F w0 w) : AuBad w0 F0 d D0 R.length (thrA 8) w no := by
  obtain ⟨FD, gr, cr, m, aP, cP, h⟩ := h
  exact h.bad hn st

/-- A page is reached, and read. -/
theorem PW.reached (h : PW w p d F FD D0 L gr cr m aP cP R pcs ts) {n : Nat} (hn : n < R.length) (hr : R.getD n false = false) {w1 w2 : World} (h1 : w1 = w.setCell ⟨gr, n, none⟩ (.bool true)) (ht : tellsD (rdK D0 (cnt R)) = true) (hd : Dev w2 d FD (readD (rdK D0 (cnt R)))) (hc : Ch w1.heap.size FD w1 w2) :
    PW w2 p d F FD D0 L gr cr m aP cP (R.set n true) pcs ts ∧ Ch w.heap.size F w w2 ∧ w2.heap[p]? = w.heap[p]? := by
  have hset : Ch w.heap.size F w w1 := by rw [h1]; exact Ch.set h.fg n _
  have hs1 : w1.heap.size = w.heap.size := by rw [h1, size_setCell]
  rw [hs1] at hc
  have hch : Ch w.heap.size F w w2 := hset.trans (hc.mono (Nat.le_refl _) (fun k _ e => h.fD k e))
  have kp : ∀ g, ¬ g = gr → ¬ FD g → g < w.heap.size → w2.heap[g]? = w.heap[g]? := fun g h2 h3 h4 => (hc.block g h4 h3).trans (by rw [h1]; exact Below.heap_setCell w ⟨gr, n, none⟩ _ g h2)
  have hcs := cnt_set hn hr
  have hl : (R.set n true).length = R.length := List.length_set
  obtain ⟨-, -, -, hst⟩ := ownL_at h.rch n hn
  refine ⟨{ h with lt := fun k hk => Nat.lt_of_lt_of_le (h.lt k hk) hch.size, dev := by rw [hcs]; exact hd, told := fun j hj => ?_, rn := by rw [hl]; exact h.rn, cells := ?_, rch := ?_, pc := ?_, tx := h.tx.keep (kp m (fun e => h.gm e.symm) h.mD (h.lt m h.fm)), row := fun x hx => (h.row x hx).keep hch.size (fun g hg hlt => ⟨hch.block g hlt hg, hg⟩) }, hch, kp p h.pg h.pD (h.lt p h.fp)⟩
  · rw [hcs] at hj
    rcases Nat.lt_succ_iff_lt_or_eq.1 hj with e | rfl
    · exact h.told j e
    · exact ht
  · rw [kp p h.pg h.pD (h.lt p h.fp), hl]
    exact h.cells
  · rw [hl]
    have h2 : OwnL 0 w1 (.slice (some ⟨gr, 0, none⟩) R.length cr) (R.set n true) := by rw [h1]; exact hst true
    exact h2.kept (hc.block gr (h.lt gr h.fg) h.gD)
  · exact h.pc.keepO (fun g hg => kp g (fun e => h.gP (e ▸ hg)) (h.PD g hg) (h.lt g (h.fP g hg)))

theorem PWA.same (h : PW w p d F FD D0 L gr cr m aP cP R pcs ts) {R' : List Bool} {ts' : List (Nat × Value)} (h' : PWA w' p d F D0 L R' pcs ts') (hp : w'.heap[p]? = w.heap[p]?) : ∃ FD' gr' cr' m', PW w' p d F FD' D0 L gr' cr' m' aP cP R' pcs ts' := by
  obtain ⟨FD', gr', cr', m', aP', cP', h'⟩ := h'
  have e := h'.cells
  rw [hp, h.cells] at e
  simp only [Option.some.injEq, Obj.cells.injEq, Array.mk.injEq, List.cons.injEq, Value.slice.injEq, and_true, true_and] at e
  have e1 : aP = aP' := by simp_all
  have e2 : cP = cP' := by simp_all
  subst e1
  subst e2
  exact ⟨FD', gr', cr', m', h'⟩

/-- How reach ends. -/
def ReachE (w : World) (p d : Nat) (F : Nat → Prop) (D0 : Dv) (L : List Int) (R : List Bool) (pcs : List C4) (ts : List (Nat × Value)) (n : Int) (e : Ending) (w' : World) : Prop :=
  (∃ g c, e = .returned (.slice (some ⟨g, 0, none⟩) 256 c) ∧ rcB R n = true ∧ Own w.heap.size w' (.slice (some ⟨g, 0, none⟩) 256 c) (pageOf L n.toNat) ∧ PWA w' p d F D0 L (R.set n.toNat true) pcs ts ∧ Ch w.heap.size F w w' ∧ w'.heap[p]? = w.heap[p]?) ∨ AuBad w F d D0 R.length e w' (rcB R n = false)

set_option maxHeartbeats 2000000 in
set_option maxRecDepth 20000 in
theorem reach_any (h : PWA w p d F D0 L R pcs ts) (n : Int) (hn : 0 ≤ n ∧ n ≤ 9223372036854775807) :
    Calls Tryz.prog 92 #[.pointer (some ⟨p, 0, none⟩), .int .i64 n] w fun e w' => ReachE w p d F D0 L R pcs ts n e w' := by
  have hrn := h.rn
  obtain ⟨FD, gr, cr, m, aP, cP, h⟩ := h
  obtain ⟨c0, c1, c2, c3, fz⟩ := h.at
  obtain ⟨-, k1, k2, -, -⟩ := h.rch.cap
  unfold maxLen at k2
  have HX : Hid (PW w p d F FD D0 L gr cr m aP cP R pcs ts) := h
  obtain ⟨nn, rfl⟩ := Int.eq_ofNat_of_zero_le hn.1
  obtain ⟨N, hN⟩ : ∃ N, R.length = N := ⟨_, rfl⟩
  have HN : Hid (R.length = N) := hN
  rw [hN] at c1 k1
  have h4096 : N ≤ 4096 := by omega
  by_cases hlt : nn < N
  · obtain ⟨-, b1, b2, -⟩ := ownL_at h.rch nn (by omega)
    obtain ⟨y, hy⟩ : ∃ y, R.getD nn false = y := ⟨_, rfl⟩
    rw [hy] at b1
    cases y with
    | true =>
      have HB : Hid (AuBad w F d D0 R.length (thrA 8) w (rcB R (nn : Int) = false)) := h.bad (by unfold rcB; rw [Int.toNat_natCast, hy]; simp) (Step.refl F w)
      have hdm := demand_no w
      clear h fz hn hrn hN
      go_enter Tryz.func92, Tryz.ntmps92
      go_wp2_with (go_at_call 54; refine hdm.mono ?_; rintro e w' ⟨rfl, rfl⟩; unfold thrA)
      exact ⟨rfl, .inr HB.out⟩
    | false =>
      have hset : Ch w.heap.size (fun k => k = gr) w (w.setCell ⟨gr, nn, none⟩ (.bool true)) := (Ch.refl _ (fun k => k = gr) w).setCell (p := ⟨gr, nn, none⟩) (.inr rfl) _
      have hdv : Dev (w.setCell ⟨gr, nn, none⟩ (.bool true)) d FD (rdK D0 (cnt R)) := h.dev.ch hset (fun k hk e => h.gD (e ▸ hk))
      have hop := (rdK_is D0 (cnt R)).2.2.1
      have hcl := cnt_le R
      have hops := h.ops
      have hrd := read_any hdv (by omega) nn (by rw [(rdK_is D0 (cnt R)).2.1, ← h.rn]; omega)
      have hdm := demand_yes
      have HY : Hid (rcB R (nn : Int) = true) := by show _ = true; unfold rcB; rw [Int.toNat_natCast, hy]; simp; omega
      have HC : Hid (cnt R < R.length) := cnt_lt (by omega) hy
      have e0 : (w.setCell ⟨gr, nn, none⟩ (.bool true)).cell? ⟨p, 0, none⟩ = some (.pointer (some ⟨d, 0, none⟩)) := (hset.cell (p := ⟨p, 0, none⟩) (h.lt p h.fp) h.pg).trans c0
      have HYY : Hid (R.getD nn false = false) := hy
      cases ht : tellsD (rdK D0 (cnt R)) with
      | true =>
        have HT : Hid (tellsD (rdK D0 (cnt R)) = true) := ht
        have hdm1 := demand_yes w
        unfold ReadEnd at hrd
        rw [ht] at hrd
        clear h fz hn hrn hN hset hdv hop hcl hops hy ht
        obtain ⟨w1, hw1⟩ : ∃ w1, w.setCell ⟨gr, nn, none⟩ (.bool true) = w1 := ⟨_, rfl⟩
        rw [hw1] at hrd e0
        go_enter Tryz.func92, Tryz.ntmps92
        go_wp2_with (go_at_call 54; refine hdm1.mono ?_; rintro e w' ⟨rfl, rfl⟩)
        refine hrd.mono ?_
        clear hrd
        rintro e w2 ⟨he, hd2, hc2⟩
        rw [if_pos trivial] at he
        obtain ⟨g, c, rfl, ho⟩ := he
        obtain ⟨f1, f2, f3⟩ := HX.out.reached (by rw [HN.out]; exact hlt) HYY.out hw1.symm HT.out hd2 hc2
        have hs1 : w1.heap.size = w.heap.size := by rw [← hw1, size_setCell]
        rw [hs1] at ho
        have HE : Hid (ReachE w p d F D0 L R pcs ts (nn : Int) (.returned (.slice (some ⟨g, 0, none⟩) 256 c)) w2) := by
          refine .inl ⟨g, c, rfl, HY.out, ?_, ⟨_, _, _, _, _, _, f1⟩, f2, f3⟩
          have e1 := (rdK_is D0 (cnt R)).1
          rw [e1, HX.out.now] at ho
          exact ho
        have hdm2 := demand_yes w2
        clear ho f1 f2 f3 hd2 hc2 hw1 hs1
        go_wp2_with (go_at_call 54; refine hdm2.mono ?_; rintro e w' ⟨rfl, rfl⟩)
        go_ret
        exact HE.out
      | false =>
        have HT : Hid (tellsD (rdK D0 (cnt R)) = false) := ht
        have hdm1 := demand_yes w
        unfold ReadEnd at hrd
        rw [ht] at hrd
        clear h fz hn hrn hN hset hdv hop hcl hops hy ht
        obtain ⟨w1, hw1⟩ : ∃ w1, w.setCell ⟨gr, nn, none⟩ (.bool true) = w1 := ⟨_, rfl⟩
        rw [hw1] at hrd e0
        go_enter Tryz.func92, Tryz.ntmps92
        go_wp2_with (go_at_call 54; refine hdm1.mono ?_; rintro e w' ⟨rfl, rfl⟩)
        refine hrd.mono ?_
        clear hrd
        rintro e w2 ⟨he, hd2, hc2⟩
        rw [if_neg (by simp)] at he
        subst he
        have hset : Ch w.heap.size F w w1 := by rw [← hw1]; exact Ch.set HX.out.fg nn _
        have hs1 : w1.heap.size = w.heap.size := by rw [← hw1, size_setCell]
        rw [hs1] at hc2
        have HE : Hid (AuBad w F d D0 R.length (thrA 7) w2 (rcB R (nn : Int) = false)) := .inr ⟨rfl, cnt R, FD, HC.out, hd2, HX.out.told, HT.out, hset.trans (hc2.mono (Nat.le_refl _) (fun k _ e => HX.out.fD k e)), fun k hk => .inl (HX.out.fD k hk)⟩
        clear hd2 hc2 hw1 hs1 hset
        go_wp2
        exact ⟨rfl, .inr HE.out⟩
  · have HB : Hid (AuBad w F d D0 R.length (thrA 8) w (rcB R (nn : Int) = false)) := h.bad (by unfold rcB; rw [decide_eq_false (show ¬ (nn : Int) < (R.length : Int) by omega)]; simp) (Step.refl F w)
    have hdm := demand_no w
    clear h fz hn hrn hN
    go_enter Tryz.func92, Tryz.ntmps92
    go_wp2_with (go_at_call 54; refine hdm.mono ?_; rintro e w' ⟨rfl, rfl⟩; unfold thrA)
    exact ⟨rfl, .inr HB.out⟩
end
end Go.Proofs.YtjllhcifmfhkmaaGreat.Oct
