/-
  The parts of a page that are laid, one by one.
-/
import Derived.Test.YtbamdcjhcmogbaaZc
import Derived.Laws.CopyOwn
namespace Go.Proofs.Ytbamdcjhcmogbaa.Oct
open Go.RowKit

/-- A sheet: its bytes lie in a row of the call's own, elsewhere. -/
def Sh (base g : Nat) (w : World) (zs : List Int) : Prop :=
  ∃ a cap, w.cell? ⟨g, 0, none⟩ = some (.slice a zs.length cap) ∧ w.frozen? ⟨g, 0, none⟩ = false ∧ Own base w (.slice a zs.length cap) zs ∧ (Value.slice a zs.length cap).ownBlock ≠ some g

/-- How a part's laying ends. -/
def LayEnd (C g : Nat) (w : World) (err : Int) (zs : List Int) (e : Ending) (w' : World) : Prop :=
  e = .returned (.int .i64 err) ∧ ∃ u, Below C w u ∧ (w' = u ∨ ∃ v, w' = u.setCell ⟨g, 0, none⟩ v) ∧ (err = 0 → Sh C g w' zs)

theorem own_ne {base g : Nat} {w : World} {v : Value} {zs : List Int} (h : Own base w v zs) (hg : g < base) : v.ownBlock ≠ some g := fun e => by
  have := h.lt' g e
  omega

theorem own_keep1 {base g : Nat} {w : World} {v : Value} {zs : List Int} (h : Own base w v zs) (hne : v.ownBlock ≠ some g) (u : Value) : Own base (w.setCell ⟨g, 0, none⟩ u) v zs := by
  obtain ⟨h1, h2 | ⟨g', cap, cur, e, hg, hc, r⟩⟩ := h
  · exact ⟨h1, .inl h2⟩
  · refine ⟨h1, .inr ⟨g', cap, cur, e, hg, ?_, r⟩⟩
    rw [Below.heap_setCell _ _ _ _ (by intro e'; apply hne; rw [e, show g = g' from e'.symm]; rfl)]
    exact hc

theorem sh_laid {C base g : Nat} {w u : World} {zs ys : List Int} {a : Option Addr} {cap : Nat} (hs : Sh base g w zs) (hC : C ≤ w.heap.size) (hb : Below w.heap.size w u) (ho : Own w.heap.size u (.slice a ys.length cap) ys) :
    Sh C g (u.setCell ⟨g, 0, none⟩ (.slice a ys.length cap)) ys := by
  obtain ⟨a0, c0, k1, k2, k3, k4⟩ := hs
  have hg := block_lt_of_cell k1
  have hne := own_ne ho hg
  refine ⟨a, cap, ?_, ?_, (own_keep1 ho hne _).weaken hC, hne⟩
  · rw [World.cell?_setCell_same _ _ _ ((hb.cell (p := ⟨g, 0, none⟩) hg).trans k1)]
  · rw [World.frozen?_setCell]; exact (hb.frozen (p := ⟨g, 0, none⟩) hg).trans k2

set_option maxHeartbeats 1000000 in
theorem layNumber_any (C base g : Nat) (zs : List Int) (p n x : Int) (w : World) (hs : Sh base g w zs) (hb : Bys zs) (hl : zs.length = 256) (hx : x ≤ 9223372036854775807) (hC : C ≤ w.heap.size) :
    Calls Try.prog 55 #[.pointer (some ⟨g, 0, none⟩), .int .i64 p, .int .i64 n, .int .i64 x] w (LayEnd C g w (if putB zs p n x then 0 else 1) (putR zs p n x)) := by
  have hs0 := hs
  obtain ⟨a, cap, k1, k2, k3, k4⟩ := hs
  obtain ⟨_, hr⟩ := k3.row' hb
  have c := put_any a cap zs p n x w hr (by omega) hx
  have hpb := putR_bys hb p n x
  cases hB : putB zs p n x
  · rw [hB] at c
    have HC : Hid (C ≤ w.heap.size) := hC
    clear hr k3 k4 hs0 hpb hB hC hl
    go_enter Try.func55, Try.ntmps55
    go_wp2_with fail
    refine c.mono ?_
    clear c
    rintro e w1 ⟨v, rfl, ho, hb1⟩
    have HB1 : Hid (Below w.heap.size w w1) := hb1
    clear hb1 ho
    go_wp2
    go_ret
    exact ⟨rfl, _, HB1.out.mono HC.out, .inl rfl, fun h => by simp at h⟩
  · rw [hB] at c
    have HSH : Hid (Sh base g w zs) := hs0
    have HPB : Hid (Bys (putR zs p n x)) := hpb
    have HC : Hid (C ≤ w.heap.size) := hC
    have hg := block_lt_of_cell k1
    clear hr k3 k4 hs0 hpb hB hC hl
    go_enter Try.func55, Try.ntmps55
    go_wp2_with fail
    refine c.mono ?_
    clear c
    rintro e w1 ⟨v, rfl, ho, hb1⟩
    obtain ⟨a1, c1, rfl, _⟩ := ho.row HPB.out
    have HO : Hid (Own w.heap.size w1 (.slice a1 (putR zs p n x).length c1) (putR zs p n x)) := ho
    have HB1 : Hid (Below w.heap.size w w1) := hb1
    have k1' := (hb1.cell (p := ⟨g, 0, none⟩) hg).trans k1
    have k2' := (hb1.frozen (p := ⟨g, 0, none⟩) hg).trans k2
    clear hb1 ho k1 k2
    go_wp2
    go_ret
    exact ⟨rfl, _, HB1.out.mono HC.out, .inr ⟨_, rfl⟩, fun _ => sh_laid HSH.out HC.out HB1.out HO.out⟩
end Go.Proofs.Ytbamdcjhcmogbaa.Oct
