/-
  device: what a Read does (reading.do); parts of rows.
-/
import Derived.Test.YtojckbhbnalkeaaGreatGg
import Derived.Test.YtojckbhbnalkeaaGreatGi
import Derived.Defers
import Derived.Recover
namespace Go.Proofs.YtojckbhbnalkeaaGreat.Oct
open Go.RowKit

/-- A part of a row. -/
theorem Row.cut {w : World} {g off cap : Nat} {L : List Int} (h : Row w (some ⟨g, off, none⟩) cap L) (a n : Nat) (hn : a + n ≤ L.length) : Row w (some ⟨g, off + a, none⟩) (cap - a) ((L.drop a).take n) := by
  have hl : ((L.drop a).take n).length = n := by simp; omega
  refine ⟨fun z hz => h.1 z (List.mem_of_mem_drop (List.mem_of_mem_take hz)), by have := h.2.1; omega, by have := h.2.2.1; omega, ?_⟩
  by_cases h0 : n = 0
  · exact .inl (by simp [h0])
  · refine .inr ⟨g, off + a, rfl, fun i hi => ?_⟩
    rw [hl] at hi
    have := h.cells (a + i) (by omega)
    rw [show off + a + i = off + (a + i) by omega, this]
    simp [List.getD_eq_getElem?_getD, hi, List.getElem?_drop]

theorem pageOf_len {L : List Int} {pg : Nat} (h : pg * 256 + 256 ≤ L.length) : (pageOf L pg).length = 256 := by simp [pageOf]; omega

set_option maxHeartbeats 1000000 in
theorem rdo_any {w : World} {p : Nat} {F : Nat → Prop} {D : Dv} (h : Dev w p F D) (q pg : Nat) (v : Value) (hq0 : w.cell? ⟨q, 0, none⟩ = some (.pointer (some ⟨p, 0, none⟩))) (hq1 : w.cell? ⟨q, 1, none⟩ = some (.int .i64 pg)) (hq2 : w.cell? ⟨q, 2, none⟩ = some v) (hz2 : w.frozen? ⟨q, 2, none⟩ = false) (hpg : pg < D.n) :
    Calls Tryz.prog 72 #[.pointer (some ⟨q, 0, none⟩)] w fun e w' => e = .returned (.tuple #[]) ∧ (∃ g c, w'.cell? ⟨q, 2, none⟩ = some (.slice (some ⟨g, 0, none⟩) 256 c) ∧ Own w.heap.size w' (.slice (some ⟨g, 0, none⟩) 256 c) (pageOf D.now pg)) ∧ Ch w.heap.size (fun k => k = q) w w' := by
  obtain ⟨ok, hF, gN, gL, cN, cL, vS, vO, f, hc, hfo⟩ := h
  have c0 := hc.at.1
  have hlen := ok.now
  have hn4 := ok.n4
  have hrow := (hc.now.row' ok.bnow).2
  have hcN := hrow.2.1
  have hcm := hrow.2.2.1
  have hpl : (pageOf D.now pg).length = 256 := pageOf_len (by omega)
  have hcut := hrow.cut (pg * 256) 256 (by omega)
  obtain ⟨A, hA⟩ : ∃ A, pg * 256 = A := ⟨_, rfl⟩
  rw [hA, Nat.zero_add] at hcut
  have hcl := clone_some ⟨gN, A, none⟩ (cN - A) (pageOf D.now pg) w (by unfold pageOf; rw [hA]; exact hcut) (by omega)
  rw [hpl] at hcl
  obtain ⟨N, hN⟩ : ∃ N, D.now.length = N := ⟨_, rfl⟩
  rw [hN] at c0 hcN
  have i1 : (pg : Int) * 256 = A := by omega
  have i2 : A + 256 ≤ N := by omega
  have i4 : N ≤ 1048576 := by omega
  have i5 : ¬ cN = A := by omega
  obtain ⟨U, hU⟩ : ∃ U, A + 256 = U := ⟨_, rfl⟩
  have i6 : (A : Int) + 256 = U := by omega
  have i7 : (U : Int) ≤ cN := by omega
  have i8 : (A : Int) ≤ U := by omega
  have i9 : U - A = 256 := by omega
  have hbq : q < w.heap.size := block_lt_of_cell hq0
  unfold maxLen at hcm
  clear hrow hcut hc ok hfo hF hlen hpl hA hN hU
  go_enter Tryz.func72, Tryz.ntmps72
  go_wp2_with fail
  refine hcl.mono ?_
  clear hcl
  rintro e w1 ⟨g, c, rfl, ho, hb⟩
  have e2 : w1.cell? ⟨q, 2, none⟩ = some v := (hb.cell (p := ⟨q, 2, none⟩) hbq).trans hq2
  have y2 : w1.frozen? ⟨q, 2, none⟩ = false := (hb.frozen (p := ⟨q, 2, none⟩) hbq).trans hz2
  have lg := ho.lt2
  have HO : Hid (Own w.heap.size (w1.setCell ⟨q, 2, none⟩ (.slice (some ⟨g, 0, none⟩) 256 c)) (.slice (some ⟨g, 0, none⟩) 256 c) (pageOf D.now pg)) := ho.kept (Below.heap_setCell w1 ⟨q, 2, none⟩ _ g (by show g ≠ q; omega))
  have HC : Hid (Ch w.heap.size (fun k => k = q) w (w1.setCell ⟨q, 2, none⟩ (.slice (some ⟨g, 0, none⟩) 256 c))) := (Ch.of (fun k => k = q) hb).setCell (p := ⟨q, 2, none⟩) (.inr rfl) _
  clear ho hb
  go_wp2
  go_end0
  exact ⟨rfl, ⟨g, c, World.cell?_setCell_same _ _ _ e2, HO.out⟩, HC.out⟩
end Go.Proofs.YtojckbhbnalkeaaGreat.Oct

/-
  device.op's deferred function: nothing, or the device dies.
-/
namespace Go.Proofs.YtojckbhbnalkeaaGreat.Oct
open Go.RowKit

theorem opc_idle (b : Nat) (w : World) :
    CallsD Tryz.prog 84 #[.pointer (some ⟨b, 0, none⟩), .pointer (some ⟨b + 1, 0, none⟩), .pointer (some ⟨b + 2, 0, none⟩), .pointer (some ⟨b + 3, 0, none⟩)] .returning w fun e u' w' => e = .returned (.tuple #[]) ∧ u' = .returning ∧ w' = w := by
  refine callsD_of_wpS Tryz.func84 rfl fun c₀ cs hu => ?_
  apply wpS_seq
  apply wpS_region
  simp [wpOpsS, go_sem, recoverD, hu, Tryz.ntmps84, Exit.thenS]
  refine wpS_cond (t := false) (by simp [Act.eval, Array.replicate]) ?_
  simp only [Bool.false_eq_true, if_false]
  refine wpS_of_wp (wp_skip ?_)
  cases c₀
  simp_all [bodyPostS, results, Tryz.results84]

set_option maxHeartbeats 1000000 in
theorem opc_w (b p q : Nat) (x y : Bool) (z : Int) (u : TypeId) (pv : Value) (older : List PanicEntry) (w : World) (R : World → Prop) (h0 : w.cell? ⟨b, 0, none⟩ = some (.pointer (some ⟨p, 0, none⟩))) (h1 : w.cell? ⟨b + 1, 0, none⟩ = some (.func (.func 87) #[.pointer (some ⟨q, 0, none⟩)] #[]))
    (h6 : w.cell? ⟨p, 6, none⟩ = some (.bool x)) (z6 : w.frozen? ⟨p, 6, none⟩ = false)
    (hdy : Calls Tryz.prog 87 #[.pointer (some ⟨q, 0, none⟩)] (w.setCell ⟨p, 6, none⟩ (.bool true)) fun e w' => e = .returned (.tuple #[]) ∧ R w')
    (hR : ∀ w', R w' → w'.cell? ⟨b + 2, 0, none⟩ = some (.bool y) ∧ w'.frozen? ⟨b + 2, 0, none⟩ = false ∧ w'.cell? ⟨b + 3, 0, none⟩ = some (.int .i64 z) ∧ w'.frozen? ⟨b + 3, 0, none⟩ = false) :
    CallsD Tryz.prog 84 #[.pointer (some ⟨b, 0, none⟩), .pointer (some ⟨b + 1, 0, none⟩), .pointer (some ⟨b + 2, 0, none⟩), .pointer (some ⟨b + 3, 0, none⟩)] (.panicking ({ v := .iface u pv, recovered := false } :: older)) w fun e u' w' =>
      e = .returned (.tuple #[]) ∧ u' = .panicking ({ v := .iface u pv, recovered := true } :: older) ∧ ∃ w2, R w2 ∧ w' = (w2.setCell ⟨b + 2, 0, none⟩ (.bool false)).setCell ⟨b + 3, 0, none⟩ (.int .i64 7) := by
  have k1 : (w.setCell ⟨p, 6, none⟩ (.bool true)).cell? ⟨b + 1, 0, none⟩ = some (.func (.func 87) #[.pointer (some ⟨q, 0, none⟩)] #[]) := (World.cell?_setCell_other _ _ _ _ (by simp)).trans h1
  refine callsD_of_wpS Tryz.func84 rfl fun c₀ cs hu => ?_
  apply wpS_seq
  apply wpS_region
  simp [wpOpsS, go_sem, recoverD, hu, Tryz.ntmps84, Exit.thenS]
  refine wpS_cond (t := true) (by simp [Act.eval, Array.replicate]) ?_
  simp only [if_true]
  refine wpS_of_wp ?_
  go_wp2_with fail
  refine hdy.mono ?_
  rintro e w2 ⟨rfl, hr⟩
  obtain ⟨r2, r2z, r3, r3z⟩ := hR w2 hr
  have HR : Hid (R w2) := hr
  have r3' : ∀ v : Value, (w2.setCell ⟨b + 2, 0, none⟩ v).cell? ⟨b + 3, 0, none⟩ = some (.int .i64 z) := fun v => (World.cell?_setCell_other _ _ _ _ (by simp)).trans r3
  clear hr hR hdy
  go_wp2
  simp [bodyPostS, results, Tryz.results84]
  exact ⟨w2, HR.out, rfl⟩

set_option maxHeartbeats 1000000 in
theorem opc_n (b p : Nat) (x y : Bool) (z : Int) (u : TypeId) (pv : Value) (older : List PanicEntry) (w : World) (R : World → Prop) (h0 : w.cell? ⟨b, 0, none⟩ = some (.pointer (some ⟨p, 0, none⟩))) (h1 : w.cell? ⟨b + 1, 0, none⟩ = some (.func (.func 73) #[] #[]))
    (h6 : w.cell? ⟨p, 6, none⟩ = some (.bool x)) (z6 : w.frozen? ⟨p, 6, none⟩ = false)
    (hdy : Calls Tryz.prog 73 #[] (w.setCell ⟨p, 6, none⟩ (.bool true)) fun e w' => e = .returned (.tuple #[]) ∧ R w')
    (hR : ∀ w', R w' → w'.cell? ⟨b + 2, 0, none⟩ = some (.bool y) ∧ w'.frozen? ⟨b + 2, 0, none⟩ = false ∧ w'.cell? ⟨b + 3, 0, none⟩ = some (.int .i64 z) ∧ w'.frozen? ⟨b + 3, 0, none⟩ = false) :
    CallsD Tryz.prog 84 #[.pointer (some ⟨b, 0, none⟩), .pointer (some ⟨b + 1, 0, none⟩), .pointer (some ⟨b + 2, 0, none⟩), .pointer (some ⟨b + 3, 0, none⟩)] (.panicking ({ v := .iface u pv, recovered := false } :: older)) w fun e u' w' =>
      e = .returned (.tuple #[]) ∧ u' = .panicking ({ v := .iface u pv, recovered := true } :: older) ∧ ∃ w2, R w2 ∧ w' = (w2.setCell ⟨b + 2, 0, none⟩ (.bool false)).setCell ⟨b + 3, 0, none⟩ (.int .i64 7) := by
  have k1 : (w.setCell ⟨p, 6, none⟩ (.bool true)).cell? ⟨b + 1, 0, none⟩ = some (.func (.func 73) #[] #[]) := (World.cell?_setCell_other _ _ _ _ (by simp)).trans h1
  refine callsD_of_wpS Tryz.func84 rfl fun c₀ cs hu => ?_
  apply wpS_seq
  apply wpS_region
  simp [wpOpsS, go_sem, recoverD, hu, Tryz.ntmps84, Exit.thenS]
  refine wpS_cond (t := true) (by simp [Act.eval, Array.replicate]) ?_
  simp only [if_true]
  refine wpS_of_wp ?_
  go_wp2_with fail
  refine hdy.mono ?_
  rintro e w2 ⟨rfl, hr⟩
  obtain ⟨r2, r2z, r3, r3z⟩ := hR w2 hr
  have HR : Hid (R w2) := hr
  have r3' : ∀ v : Value, (w2.setCell ⟨b + 2, 0, none⟩ v).cell? ⟨b + 3, 0, none⟩ = some (.int .i64 z) := fun v => (World.cell?_setCell_other _ _ _ _ (by simp)).trans r3
  clear hr hR hdy
  go_wp2
  simp [bodyPostS, results, Tryz.results84]
  exact ⟨w2, HR.out, rfl⟩
end Go.Proofs.YtojckbhbnalkeaaGreat.Oct
