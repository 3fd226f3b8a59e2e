/-
  device.Write.
-/
import Derived.Test.YtojckbhbnalkeaaGn
import Derived.Test.YtojckbhbnalkeaaGm
namespace Go.Proofs.Ytojckbhbnalkeaa.Oct
open Go.RowKit
attribute [local go_sem ↓] loadA_eq buildB_eq buildC_eq allocC_eq storeC_eq

theorem opW_any {w : World} {p : Nat} {F : Nat → Prop} {D : Dv} (h : Dev w p F D) (hops : D.ops ≤ 4611686018427387904) (hs : D.since.length ≤ 1000000) (q pg : Nat) (b : List Int) (hpg : pg < D.n) (hb : b.length = 256) (hby : Bys b) (hq : ¬ F q) (hq0 : w.cell? ⟨q, 0, none⟩ = some (.pointer (some ⟨p, 0, none⟩))) (hw : WriteAt w q 1 pg b) :
    Calls Try.prog 33 #[.pointer (some ⟨p, 0, none⟩), .func (.func 63) #[.pointer (some ⟨q, 0, none⟩)] #[], .func (.func 63) #[.pointer (some ⟨q, 0, none⟩)] #[]] w fun e w' => (∃ b, e = .returned (.tuple #[.bool b, .int .i64 (saysD D)])) ∧ ∃ F', Dev w' p F' (writeD D pg b) ∧ Step F F' w w' := by
  have hF := h.2.1
  have hp := h.p
  have hbq : q < w.heap.size := block_lt_of_cell hq0
  have hdo : ∀ (D1 : Dv) w1, D1.n = D.n → D1.since = D.since → Dev w1 p F D1 → Ch w.heap.size F w w1 → w.heap.size + 4 ≤ w1.heap.size → Calls Try.prog 63 #[.pointer (some ⟨q, 0, none⟩)] w1 fun e w2 => e = .returned (.tuple #[]) ∧ Ch w1.heap.size (fun k => F k ∨ k = q) w1 w2 ∧ ∃ F', Dev w2 p F' (wrD D1 pg b) ∧ Step F F' w1 w2 :=
    fun D1 w1 e1 e2 h1 hc1 _ => (wdo_any h1 q pg b ((hc1.cell (p := ⟨q, 0, none⟩) hbq hq).trans hq0) ⟨(hc1.cell (p := ⟨q, 1, none⟩) hbq hq).trans hw.1, fun i hi => (hc1.cell (p := ⟨q, 1 + 1 + i, none⟩) hbq hq).trans (hw.2 i hi)⟩ hb hby (by rw [e1]; exact hpg) hq (by rw [e2]; exact hs)).mono (fun e w2 h => by
      obtain ⟨h1, F', h2, h3⟩ := h
      exact ⟨h1, h3.1.mono (Nat.le_refl _) (fun _ _ e => .inl e), F', h2, h3⟩)
  have fin : ∀ (D1 : Dv) (w1 w2 w' : World), Ch w.heap.size F w w1 → w.heap.size + 4 ≤ w1.heap.size → (∃ F', Dev w2 p F' (wrD D1 pg b) ∧ Step F F' w1 w2) → LocEq w.heap.size w2 w' → ∃ F', Dev w' p F' (wrD D1 pg b) ∧ Step F F' w w' := fun D1 w1 w2 w' hc1 hs1 hr hl => by
    obtain ⟨F', h2, h3⟩ := hr
    refine ⟨F', h2.loc hl (fun k hk => ?_), (hc1.trans (h3.1.mono (by omega) (fun _ _ e => e))).trans (hl.ch F), fun k hk => ?_⟩
    · rcases h3.2 k hk with e | e
      · exact .inl (hF k e)
      · exact .inr (by omega)
    · rcases h3.2 k hk with e | e
      · exact .inl e
      · exact .inr (by omega)
  cases hd : D.dead with
  | true =>
    refine (op_dead h hd _ _ _ _).mono ?_
    rintro e w' ⟨rfl, hb⟩
    refine ⟨⟨false, by simp [saysD, hd]⟩, F, ?_, Ch.of F hb, fun _ h => .inl h⟩
    rw [show writeD D pg b = D by simp [writeD, hd]]
    exact h.below hb
  | false =>
    by_cases hf : D.fuse = 0
    · refine (op_die_w h hd hf hops q hbq _ (fun w1 h1 hc1 hs1 => hdo (dieD D) w1 rfl rfl h1 hc1 hs1)).mono ?_
      rintro e w' ⟨rfl, w1, w2, hd1, hc1, hs1, hr, _, hl⟩
      rw [show writeD D pg b = wrD (dieD D) pg b by simp [writeD, hd, hf]]
      exact ⟨⟨false, by simp [saysD, hd, hf]⟩, fin _ w1 w2 w' hc1 hs1 hr hl⟩
    · rcases oc_cases h.1 with ho | ho | ho
      · refine (op_done0_w h hd hf ho hops q hbq _ (fun w1 h1 hc1 hs1 => hdo (opD D) w1 rfl rfl h1 hc1 hs1)).mono ?_
        rintro e w' ⟨rfl, w1, w2, hd1, hc1, hs1, hr, _, hl⟩
        rw [show writeD D pg b = wrD (opD D) pg b by simp [writeD, hd, hf, ho]]
        exact ⟨⟨true, by simp [saysD, hd, hf, ho]⟩, fin _ w1 w2 w' hc1 hs1 hr hl⟩
      · refine (op_fail_w h hd hf ho hops q).mono ?_
        rintro e w' ⟨rfl, hd1, hc1⟩
        rw [show writeD D pg b = opD D by simp [writeD, hd, hf, ho]]
        exact ⟨⟨false, by simp [saysD, hd, hf, ho]⟩, F, hd1, hc1, fun _ h => .inl h⟩
      · refine (op_done2_w h hd hf ho hops q hbq _ (fun w1 h1 hc1 hs1 => hdo (opD D) w1 rfl rfl h1 hc1 hs1)).mono ?_
        rintro e w' ⟨rfl, w1, w2, hd1, hc1, hs1, hr, _, hl⟩
        rw [show writeD D pg b = wrD (opD D) pg b by simp [writeD, hd, hf, ho]]
        exact ⟨⟨true, by simp [saysD, hd, hf, ho]⟩, fin _ w1 w2 w' hc1 hs1 hr hl⟩

theorem write_bad {w : World} {p : Nat} {F : Nat → Prop} {D : Dv} (h : Dev w p F D) (pg : Int) (a : Option Addr) (len cap : Nat) (hb : (hasB D pg && decide (len = 256)) = false) :
    Calls Try.prog 59 #[.pointer (some ⟨p, 0, none⟩), .int .i64 pg, .slice a len cap] w fun e w' => e = .returned (.int .i64 1) ∧ w = w' := by
  have hm := made_any h
  have hh := has_any h pg
  clear h
  cases hhas : hasB D pg with
  | false =>
    rw [hhas] at hh
    go_enter Try.func59, Try.ntmps59
    go_wp2_with (first | (go_at_call 31; refine hm.mono ?_; rintro e w' ⟨rfl, rfl⟩) | (go_at_call 32; refine hh.mono ?_; rintro e w' ⟨rfl, rfl⟩))
    go_ret
    exact ⟨rfl, rfl⟩
  | true =>
    rw [hhas] at hh hb
    have hl : ((len : Int) != 256) = true := by
      have : ¬ len = 256 := by simpa using hb
      simp; omega
    clear hb hhas
    go_enter Try.func59, Try.ntmps59
    go_wp2_with (first | (go_at_call 31; refine hm.mono ?_; rintro e w' ⟨rfl, rfl⟩) | (go_at_call 32; refine hh.mono ?_; rintro e w' ⟨rfl, rfl⟩))
    go_ret
    exact ⟨rfl, rfl⟩

theorem row_range {w : World} {b o cap : Nat} {zs : List Int} (h : Row w (some ⟨b, o, none⟩) cap zs) : w.rangeAt b o (zs.map (Value.int .u8)) := by
  intro j v hj
  have := row_news h j v hj
  rwa [Addr.add_mid] at this

set_option maxHeartbeats 1000000 in
theorem write_any {w : World} {p : Nat} {F : Nat → Prop} {D : Dv} (h : Dev w p F D) (hops : D.ops ≤ 4611686018427387904) (hs : D.since.length ≤ 1000000) (pg : Nat) (hpg : pg < D.n) (ad : Option Addr) (cap : Nat) (b : List Int) (hr : Row w ad cap b) (hb : b.length = 256) :
    Calls Try.prog 59 #[.pointer (some ⟨p, 0, none⟩), .int .i64 pg, .slice ad 256 cap] w fun e w' => e = .returned (.int .i64 (saysD D)) ∧ ∃ F', Dev w' p F' (writeD D pg b) ∧ Step F F' w w' := by
  have hm := made_any h
  have hh := has_any h pg
  rw [show hasB D pg = true by simp [hasB]; omega] at hh
  have hF := h.2.1
  have hby := hr.1
  obtain ⟨rb, ro, rfl⟩ := hr.some' (by omega)
  have rA := load_a w rb ro (b.map (Value.int .u8)) (by simp [hb]) (row_range hr)
  have rT : (Instr.arrayAt 51 (.slice (some ⟨rb, ro, none⟩) 256 cap)).run Try.prog w = .ok (.pointer (some ⟨rb, ro, none⟩)) w := by simp [Instr.arrayAt, run_underlying Try.underlying51]
  have rB := build_b w pg b hb
  have hwl := wcells_len (x := (pg, b)) hb
  obtain ⟨cs, hcs⟩ : ∃ cs, wcells (pg, b) = cs := ⟨_, rfl⟩
  rw [hcs] at rB hwl
  have rC := build_c w p cs hwl
  obtain ⟨z, hz, rD⟩ := alloc_c
  have rD' := rD w
  have h1 : ∀ v ∈ (Value.pointer (some ⟨p, 0, none⟩) :: cs), v.oneCell' = true := by
    intro v hv
    rcases List.mem_cons.1 hv with rfl | hv
    · rfl
    · rw [← hcs] at hv; exact wcells_one _ v hv
  have rE := store_c w z (.pointer (some ⟨p, 0, none⟩) :: cs) hz (by simp [hwl]) h1
  obtain ⟨bs, hbs⟩ : ∃ bs, (b.map (Value.int .u8)).toArray = bs := ⟨_, rfl⟩
  rw [hbs] at rA rB
  obtain ⟨ca, hca⟩ : ∃ ca, cs.toArray = ca := ⟨_, rfl⟩
  rw [hca] at rB rC
  obtain ⟨ds, hds⟩ : ∃ ds, (Value.pointer (some ⟨p, 0, none⟩) :: cs).toArray = ds := ⟨_, rfl⟩
  rw [hds] at rC rE
  have hb0 : Below w.heap.size w (w.alloc (.cells ds 83)) := (Below.refl _ w).alloc (Nat.le_refl _) _
  have h0 := h.below hb0
  have hrange : (w.alloc (.cells ds 83)).rangeAt w.heap.size 0 (.pointer (some ⟨p, 0, none⟩) :: cs) := by
    intro j v hj
    rw [Nat.zero_add, cell_of_row _ _ j ds _ (0, 0) (heap_alloc_new w _), ← hds]
    simpa using hj
  have hwat : WriteAt (w.alloc (.cells ds 83)) w.heap.size 1 pg b := by
    refine WriteAt.of_range hb ?_
    rw [hcs]
    intro j v hj
    have := hrange (j + 1) v (by simpa using hj)
    rwa [show 0 + (j + 1) = 1 + j by omega] at this
  have ho := opW_any h0 hops hs w.heap.size pg b hpg hb hby (fun e => by have := hF _ e; omega) (hrange 0 _ rfl) hwat
  have hmk := mkf
  have HB0 : Hid (Below w.heap.size w (w.alloc (.cells ds 83))) := hb0
  clear h h0 hF hb0 hrange hwat hcs hwl rD hz h1 hbs hca hds hr hb
  go_enter Try.func59, Try.ntmps59
  go_wp2_with (first | (go_at_call 31; refine hm.mono ?_; rintro e w' ⟨rfl, rfl⟩) | (go_at_call 32; refine hh.mono ?_; rintro e w' ⟨rfl, rfl⟩))
  refine ho.mono ?_
  rintro e w2 ⟨⟨i, rfl⟩, F', hd, hst⟩
  have HD : Hid (Dev w2 p F' (writeD D pg b)) := hd
  have HS : Hid (Step F F' w w2) := ⟨(Ch.of F HB0.out).trans (hst.1.mono (by simp) (fun _ _ e => e)), fun k hk => by rcases hst.2 k hk with e | e; exact .inl e; exact .inr (by simp at e; omega)⟩
  clear hd hst hm hh ho
  go_wp2
  go_ret
  exact ⟨rfl, F', HD.out, HS.out⟩
end Go.Proofs.Ytojckbhbnalkeaa.Oct
