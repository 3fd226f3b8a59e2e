/-
  Clone of the device.
-/
import Derived.Test.YtfbjjdjgijdlaaaNl
namespace Go.Proofs.Ytfbjjdjgijdlaaa.Oct
open Go.RowKit

theorem Own.outAt {base g c : Nat} {w : World} {zs : List Int} (h : Own base w (.slice (some ⟨g, 0, none⟩) zs.length c) zs) : OutAt w (.slice (some ⟨g, 0, none⟩) zs.length c) zs := by
  rcases h.2 with ⟨e, _⟩ | ⟨g', c', cur, e, hb, hg, h1, h2, h3, h4⟩
  · cases e
  · simp only [Value.slice.injEq, Option.some.injEq, Addr.mk.injEq, and_true, true_and] at e
    obtain ⟨rfl, rfl⟩ := e
    refine .inr ⟨g, 0, c, cur, rfl, hg, h1, h2, by omega, fun i hi => ?_⟩
    have e2 : (cur.toList.take (zs.length * 1))[i]? = (zs.map (Value.int .u8))[i]? := by rw [h4]
    rw [List.getElem?_take_of_lt (by omega), List.getElem?_map, List.getElem?_eq_getElem hi] at e2
    rw [Nat.zero_add, ← Array.getElem?_toList, e2, List.getD_eq_getElem?_getD, List.getElem?_eq_getElem hi]
    rfl

theorem OutAt.row {w : World} {g off c : Nat} {zs : List Int} (h : OutAt w (.slice (some ⟨g, off, none⟩) zs.length c) zs) (hb : Bys zs) : Row w (some ⟨g, off, none⟩) c zs := by
  rcases h with ⟨e, _⟩ | ⟨g', off', cap, cur, e, hg, h1, h2, h3, h4⟩
  · cases e
  · simp only [Value.slice.injEq, Option.some.injEq, Addr.mk.injEq, and_true, true_and] at e
    obtain ⟨⟨rfl, rfl⟩, rfl⟩ := e
    exact ⟨hb, h1, h2, .inr ⟨g, off, rfl, fun i hi => by rw [cell_of_row w g (off + i) cur _ (0, 0) hg]; exact h4 i hi⟩⟩

theorem mkDev {w : World} {r gN gL cN cL base b1 b2 b3 b4 : Nat} {vS vO : Value} {f : Int} {D : Dv} (ok : D.ok)
    (hc : w.heap[r]? = some (.cells #[.slice (some ⟨gN, 0, none⟩) D.now.length cN, .slice (some ⟨gL, 0, none⟩) D.sure.length cL, vS, vO, .int .i64 f, .int .i64 D.ops, .bool D.dead] 72 (0, 0)))
    (hN : Own 0 w (.slice (some ⟨gN, 0, none⟩) D.now.length cN) D.now) (hL : Own 0 w (.slice (some ⟨gL, 0, none⟩) D.sure.length cL) D.sure) (hS : w.ownsRow 0 64 257 vS D.since.length (scells D.since)) (hO : OutAt w vO D.out)
    (f1 : -9223372036854775808 ≤ f) (f2 : f ≤ 9223372036854775807) (ff : max f (-1) = D.fuse) (i0 : base ≤ r) (i1 : r < b1) (iN : b1 ≤ gN ∧ gN < b2) (iL : b2 ≤ gL ∧ gL < b3) (iS : ∀ g, vS.ownBlock = some g → b3 ≤ g ∧ g < b4) (h34 : b3 ≤ b4) (iO : ∀ g, vO.ownBlock = some g → b4 ≤ g ∧ g < w.heap.size) :
    Dev w r (fun k => base ≤ k ∧ k < w.heap.size) D := by
  have lN := hN.lt2.2
  have lL := hL.lt2.2
  refine ⟨ok, fun k hk => hk.2, gN, gL, cN, cL, vS, vO, f, ⟨hc, hN, hL, hS, hO, f1, f2, ff, by omega, by omega, by omega, fun e => by have := iS _ e; omega, fun e => by have := iS _ e; omega, fun e => by have := iS _ e; omega, fun e => by have := iO _ e; omega, fun e => by have := iO _ e; omega, fun e => by have := iO _ e; omega, fun g e1 e2 => by have := iS g e1; have := iO g e2; omega⟩, fun k hk => ?_⟩
  rcases hk with e | e | e | e | e
  · have := heap_lt hc; omega
  · omega
  · omega
  · have := iS k e; have := (World.ownsRow.lt hS k e).2; omega
  · have := iO k e; omega

/-- A field of the new device is stored. -/
theorem stage {w w1 w2 : World} {r i : Nat} {cur cur' : Array Value} (v : Value) (hB1 : Below w.heap.size w w1) (hr : w.heap.size = r) (hh1 : w1.heap[r]? = some (.cells cur 72 (0, 0))) (b2 : Below w1.heap.size w1 w2) (hi : i < cur.size) (hcur : cur.setIfInBounds i v = cur') :
    (∃ u, w2.cell? ⟨r, i, none⟩ = some u) ∧ w2.frozen? ⟨r, i, none⟩ = false ∧ (w2.setCell ⟨r, i, none⟩ v).heap[r]? = some (.cells cur' 72 (0, 0)) ∧ Below w.heap.size w (w2.setCell ⟨r, i, none⟩ v) ∧
    (∀ b, b ≠ r → (w2.setCell ⟨r, i, none⟩ v).heap[b]? = w2.heap[b]?) ∧ (∀ b, b < w1.heap.size → b ≠ r → (w2.setCell ⟨r, i, none⟩ v).heap[b]? = w1.heap[b]?) ∧ (w2.setCell ⟨r, i, none⟩ v).heap.size = w2.heap.size ∧ w1.heap.size ≤ w2.heap.size := by
  have lr := heap_lt hh1
  have hh2 : w2.heap[r]? = some (.cells cur 72 (0, 0)) := (b2.block r lr).trans hh1
  have k : ∀ b, b ≠ r → (w2.setCell ⟨r, i, none⟩ v).heap[b]? = w2.heap[b]? := fun b hb => Below.heap_setCell w2 ⟨r, i, none⟩ _ b hb
  refine ⟨⟨cur[i], ?_⟩, ?_, ?_, ?_, k, fun b hb hne => (k b hne).trans (b2.block b hb), size_setCell _ _ _, b2.size⟩
  · rw [cell_of_row w2 r i _ _ (0, 0) hh2]; exact Array.getElem?_eq_getElem hi
  · unfold World.frozen?; rw [hh2]; simp
  · rw [setCell_heap w2 r i _ _ _ _ hh2, hcur]
  · exact (hB1.trans (b2.mono hB1.size)).setCell (p := ⟨r, i, none⟩) (Nat.le_of_eq hr) _

set_option maxHeartbeats 4000000 in
theorem clone_any {w : World} {p : Nat} {F : Nat → Prop} {D : Dv} (h : Dev w p F D) (hs : D.since.length ≤ 1000000) (hou : D.out.length ≤ 1000000) :
    Calls Try.prog 28 #[.pointer (some ⟨p, 0, none⟩)] w fun e w' => ∃ r F', e = .returned (.pointer (some ⟨r, 0, none⟩)) ∧ Dev w' r F' D ∧ Below w.heap.size w w' ∧ ∀ k, F' k → w.heap.size ≤ k := by
  have hm := made_any h
  have lp := h.p.2
  obtain ⟨ok, hF, gN, gL, cN, cL, vS, vO, f, hc, hfo⟩ := h
  obtain ⟨c0, c1, c2, c3, c4, c5, c6, z⟩ := hc.at
  have HOK : Hid D.ok := ok
  have hnl : D.now.length ≤ 1048576 := by have := ok.now; have := ok.n4; omega
  have hsl : D.sure.length ≤ 1048576 := by have := ok.sure; have := ok.n4; omega
  have HN : Hid (Own 0 w (.slice (some ⟨gN, 0, none⟩) D.now.length cN) D.now) := hc.now
  have HL : Hid (Own 0 w (.slice (some ⟨gL, 0, none⟩) D.sure.length cL) D.sure) := hc.sure
  have HSI : Hid (w.ownsRow 0 64 257 vS D.since.length (scells D.since)) := hc.since
  have HOU : Hid (OutAt w vO D.out) := hc.out
  have lN : gN < w.heap.size := hF gN (hfo gN (.inr (.inl rfl)))
  have lL : gL < w.heap.size := hF gL (hfo gL (.inr (.inr (.inl rfl))))
  have lS : ∀ g, vS.ownBlock = some g → g < w.heap.size := fun g hg => hF g (hfo g (.inr (.inr (.inr (.inl hg)))))
  have lO : ∀ g, vO.ownBlock = some g → g < w.heap.size := fun g hg => hF g (hfo g (.inr (.inr (.inr (.inr hg)))))
  have f1 := hc.f1
  have f2 := hc.f2
  have HFU : Hid (max f (-1) = D.fuse) := hc.fuse
  have hvS : vS = .slice none 0 0 ∨ ∃ g c, vS = .slice (some ⟨g, 0, none⟩) D.since.length c := by
    rcases hc.since.2 with ⟨e, _⟩ | ⟨g, c, cur, e, _⟩
    · exact .inl e
    · exact .inr ⟨g, c, e⟩
  have hvO : vO = .slice none 0 0 ∨ ∃ g off c, vO = .slice (some ⟨g, off, none⟩) D.out.length c := by
    rcases hc.out with ⟨e, _⟩ | ⟨g, off, c, cur, e, _⟩
    · exact .inl e
    · exact .inr ⟨g, off, c, e⟩
  clear ok hc hF hfo z
  obtain ⟨r, hr⟩ : ∃ r, w.heap.size = r := ⟨_, rfl⟩
  rcases hvS with rfl | ⟨gS, cS, rfl⟩
  · rcases hvO with rfl | ⟨gO, oO, cO, rfl⟩
    · have hb1 : Below w.heap.size w (w.alloc (.cells #[.slice (some ⟨gN, 0, none⟩) D.now.length cN, .slice (some ⟨gL, 0, none⟩) D.sure.length cL, .slice none 0 0, .slice none 0 0, .int .i64 f, .int .i64 D.ops, .bool D.dead] 72 (0, 0))) := (Below.refl _ w).alloc (Nat.le_refl _) _
      have hh1 : (w.alloc (.cells #[.slice (some ⟨gN, 0, none⟩) D.now.length cN, .slice (some ⟨gL, 0, none⟩) D.sure.length cL, .slice none 0 0, .slice none 0 0, .int .i64 f, .int .i64 D.ops, .bool D.dead] 72 (0, 0))).heap[w.heap.size]? = some (.cells #[.slice (some ⟨gN, 0, none⟩) D.now.length cN, .slice (some ⟨gL, 0, none⟩) D.sure.length cL, .slice none 0 0, .slice none 0 0, .int .i64 f, .int .i64 D.ops, .bool D.dead] 72 (0, 0)) := heap_alloc_new w _
      have hs1 : (w.alloc (.cells #[.slice (some ⟨gN, 0, none⟩) D.now.length cN, .slice (some ⟨gL, 0, none⟩) D.sure.length cL, .slice none 0 0, .slice none 0 0, .int .i64 f, .int .i64 D.ops, .bool D.dead] 72 (0, 0))).heap.size = w.heap.size + 1 := by simp
      obtain ⟨w1, hw1⟩ : ∃ w1, w.alloc (.cells #[.slice (some ⟨gN, 0, none⟩) D.now.length cN, .slice (some ⟨gL, 0, none⟩) D.sure.length cL, .slice none 0 0, .slice none 0 0, .int .i64 f, .int .i64 D.ops, .bool D.dead] 72 (0, 0)) = w1 := ⟨_, rfl⟩
      rw [hw1] at hb1 hh1 hs1
      rw [hr] at hh1 hs1
      have hk1 := clone_some ⟨gN, 0, none⟩ cN D.now w1 (HN.out.rowB HOK.out.bnow hb1) (by omega)
      have HBw1 : Hid (Below w.heap.size w w1) := hb1
      have HHw1 : Hid (w1.heap[r]? = some (.cells #[.slice (some ⟨gN, 0, none⟩) D.now.length cN, .slice (some ⟨gL, 0, none⟩) D.sure.length cL, .slice none 0 0, .slice none 0 0, .int .i64 f, .int .i64 D.ops, .bool D.dead] 72 (0, 0))) := hh1
      have HSw1 : Hid (r + 1 ≤ w1.heap.size) := Nat.le_of_eq hs1.symm
      have HT1 : Hid (w1.heap.size = r + 1) := hs1
      have d0 : w1.cell? ⟨p, 0, none⟩ = some (.slice (some ⟨gN, 0, none⟩) D.now.length cN) := (hb1.cell (p := ⟨p, 0, none⟩) lp).trans c0
      clear hb1 hh1 hs1
      go_enter Try.func28, Try.ntmps28
      go_wp2_with (go_at_call 37; refine hm.mono ?_; rintro e w' ⟨rfl, rfl⟩)
      clear hm hw1 c4 c5 c6
      refine hk1.mono ?_
      clear hk1
      rintro e w2 ⟨g1, k1, rfl, ho, hb⟩
      obtain ⟨⟨u, su⟩, sz, hH, hB, hK, hQ, hZ, hE⟩ := stage (w := w) (w1 := w1) (w2 := w2) (i := 0) (.slice (some ⟨g1, 0, none⟩) D.now.length k1) HBw1.out hr HHw1.out hb (by simp) rfl
      have hlt := World.ownsRow.lt ho g1 rfl
      have hnr : g1 ≠ r := by have := HSw1.out; omega
      have ho := (Own.zero ho).kept (hK g1 hnr)
      have HI1 : Hid (w1.heap.size ≤ g1 ∧ g1 < w2.heap.size) := hlt
      obtain ⟨x1, hx⟩ : ∃ x1, w2.setCell ⟨r, 0, none⟩ (.slice (some ⟨g1, 0, none⟩) D.now.length k1) = x1 := ⟨_, rfl⟩
      rw [hx] at hH hB hK hQ hZ ho
      have HBx1 : Hid (Below w.heap.size w x1) := hB
      have HHx1 : Hid (x1.heap[r]? = some (.cells #[.slice (some ⟨g1, 0, none⟩) D.now.length k1, .slice (some ⟨gL, 0, none⟩) D.sure.length cL, .slice none 0 0, .slice none 0 0, .int .i64 f, .int .i64 D.ops, .bool D.dead] 72 (0, 0))) := hH
      have hle : w1.heap.size ≤ x1.heap.size := by omega
      have HSx1 : Hid (r + 1 ≤ x1.heap.size) := by show r + 1 ≤ _; have := HSw1.out; omega
      have HEx1 : Hid (x1.heap.size = w2.heap.size ∧ w1.heap.size ≤ w2.heap.size) := ⟨hZ, hE⟩
      have HA1 : Hid (Own 0 x1 (.slice (some ⟨g1, 0, none⟩) D.now.length k1) D.now) := ho
      have HN1 : Hid (g1 ≠ r) := hnr
      have d1 : x1.cell? ⟨p, 1, none⟩ = some (.slice (some ⟨gL, 0, none⟩) D.sure.length cL) := (hB.cell (p := ⟨p, 1, none⟩) lp).trans c1
      have hk2 := clone_some ⟨gL, 0, none⟩ cL D.sure x1 (HL.out.rowB HOK.out.bsure hB) (by omega)
      clear hH hB hK hQ hZ hE hle ho hlt hnr hb
      go_wp2_with fail
      refine hk2.mono ?_
      clear hk2
      rintro e w3 ⟨g2, k2, rfl, ho, hb⟩
      obtain ⟨⟨u, su⟩, sz, hH, hB, hK, hQ, hZ, hE⟩ := stage (w := w) (w1 := x1) (w2 := w3) (i := 1) (.slice (some ⟨g2, 0, none⟩) D.sure.length k2) HBx1.out hr HHx1.out hb (by simp) rfl
      have hlt := World.ownsRow.lt ho g2 rfl
      have hnr : g2 ≠ r := by have := HSx1.out; omega
      have ho := (Own.zero ho).kept (hK g2 hnr)
      have HI2 : Hid (x1.heap.size ≤ g2 ∧ g2 < w3.heap.size) := hlt
      obtain ⟨x2, hx⟩ : ∃ x2, w3.setCell ⟨r, 1, none⟩ (.slice (some ⟨g2, 0, none⟩) D.sure.length k2) = x2 := ⟨_, rfl⟩
      rw [hx] at hH hB hK hQ hZ ho
      have HBx2 : Hid (Below w.heap.size w x2) := hB
      have HHx2 : Hid (x2.heap[r]? = some (.cells #[.slice (some ⟨g1, 0, none⟩) D.now.length k1, .slice (some ⟨g2, 0, none⟩) D.sure.length k2, .slice none 0 0, .slice none 0 0, .int .i64 f, .int .i64 D.ops, .bool D.dead] 72 (0, 0))) := hH
      have hle : x1.heap.size ≤ x2.heap.size := by omega
      have HSx2 : Hid (r + 1 ≤ x2.heap.size) := by show r + 1 ≤ _; have := HSx1.out; omega
      have HEx2 : Hid (x2.heap.size = w3.heap.size ∧ x1.heap.size ≤ w3.heap.size) := ⟨hZ, hE⟩
      have HA1 : Hid (Own 0 x2 (.slice (some ⟨g1, 0, none⟩) D.now.length k1) D.now) := HA1.out.kept (hQ g1 HA1.out.lt2.2 HN1.out)
      have HA2 : Hid (Own 0 x2 (.slice (some ⟨g2, 0, none⟩) D.sure.length k2) D.sure) := ho
      have HN2 : Hid (g2 ≠ r) := hnr
      have d2 : x2.cell? ⟨p, 2, none⟩ = some (.slice none 0 0) := (hB.cell (p := ⟨p, 2, none⟩) lp).trans c2
      have hk3 := wclone_none x2
      clear hH hB hK hQ hZ hE hle ho hlt hnr hb
      go_wp2_with fail
      refine hk3.mono ?_
      clear hk3
      rintro e wx ⟨rfl, rfl⟩
      obtain ⟨⟨u, su⟩, sz, hH, hB, hK, hQ, hZ, hE⟩ := stage (w := w) (w1 := x2) (w2 := x2) (i := 2) (.slice none 0 0) HBx2.out hr HHx2.out (Below.refl _ _) (by simp) rfl
      obtain ⟨x3, hx⟩ : ∃ x3, x2.setCell ⟨r, 2, none⟩ (.slice none 0 0) = x3 := ⟨_, rfl⟩
      rw [hx] at hH hB hK hQ hZ
      have HBx3 : Hid (Below w.heap.size w x3) := hB
      have HHx3 : Hid (x3.heap[r]? = some (.cells #[.slice (some ⟨g1, 0, none⟩) D.now.length k1, .slice (some ⟨g2, 0, none⟩) D.sure.length k2, .slice none 0 0, .slice none 0 0, .int .i64 f, .int .i64 D.ops, .bool D.dead] 72 (0, 0))) := hH
      have hle : x2.heap.size ≤ x3.heap.size := by omega
      have HSx3 : Hid (r + 1 ≤ x3.heap.size) := by show r + 1 ≤ _; have := HSx2.out; omega
      have HEx3 : Hid (x3.heap.size = x2.heap.size ∧ x2.heap.size ≤ x2.heap.size) := ⟨hZ, hE⟩
      have HA1 : Hid (Own 0 x3 (.slice (some ⟨g1, 0, none⟩) D.now.length k1) D.now) := HA1.out.kept (hQ g1 HA1.out.lt2.2 HN1.out)
      have HA2 : Hid (Own 0 x3 (.slice (some ⟨g2, 0, none⟩) D.sure.length k2) D.sure) := HA2.out.kept (hQ g2 HA2.out.lt2.2 HN2.out)
      have d3 : x3.cell? ⟨p, 3, none⟩ = some (.slice none 0 0) := (hB.cell (p := ⟨p, 3, none⟩) lp).trans c3
      have hk4 := clone_none x3
      clear hH hB hK hQ hZ hE hle
      go_wp2_with fail
      refine hk4.mono ?_
      clear hk4
      rintro e wx ⟨rfl, rfl⟩
      obtain ⟨⟨u, su⟩, sz, hH, hB, hK, hQ, hZ, hE⟩ := stage (w := w) (w1 := x3) (w2 := x3) (i := 3) (.slice none 0 0) HBx3.out hr HHx3.out (Below.refl _ _) (by simp) rfl
      obtain ⟨x4, hx⟩ : ∃ x4, x3.setCell ⟨r, 3, none⟩ (.slice none 0 0) = x4 := ⟨_, rfl⟩
      rw [hx] at hH hB hK hQ hZ
      have HBx4 : Hid (Below w.heap.size w x4) := hB
      have HHx4 : Hid (x4.heap[r]? = some (.cells #[.slice (some ⟨g1, 0, none⟩) D.now.length k1, .slice (some ⟨g2, 0, none⟩) D.sure.length k2, .slice none 0 0, .slice none 0 0, .int .i64 f, .int .i64 D.ops, .bool D.dead] 72 (0, 0))) := hH
      have hle : x3.heap.size ≤ x4.heap.size := by omega
      have HSx4 : Hid (r + 1 ≤ x4.heap.size) := by show r + 1 ≤ _; have := HSx3.out; omega
      have HEx4 : Hid (x4.heap.size = x3.heap.size ∧ x3.heap.size ≤ x3.heap.size) := ⟨hZ, hE⟩
      have HA1 : Hid (Own 0 x4 (.slice (some ⟨g1, 0, none⟩) D.now.length k1) D.now) := HA1.out.kept (hQ g1 HA1.out.lt2.2 HN1.out)
      have HA2 : Hid (Own 0 x4 (.slice (some ⟨g2, 0, none⟩) D.sure.length k2) D.sure) := HA2.out.kept (hQ g2 HA2.out.lt2.2 HN2.out)
      clear hH hB hK hQ hZ hE hle
      have HD : Hid (Dev x4 r (fun k => r ≤ k ∧ k < x4.heap.size) D) := by
        have e1 := HEx1.out
        have e2 := HEx2.out
        have e3 := HEx3.out
        have e4 := HEx4.out
        have q1 := HI1.out
        have q2 := HI2.out
        have q0 := HSw1.out
        exact mkDev (b1 := r + 1) (b2 := x1.heap.size) (b3 := x2.heap.size) (b4 := x3.heap.size) HOK.out HHx4.out HA1.out HA2.out (by have := HSI.out; exact ⟨this.1, .inl (by rcases this.2 with e | ⟨g, c, cur, e, _⟩; exact e; cases e)⟩) (HOU.out.keep (fun g hg => by simp [Value.ownBlock] at hg)) f1 f2 HFU.out (Nat.le_refl _) (by omega) (by omega) (by omega) (fun g hg => by simp [Value.ownBlock] at hg) (by omega) (fun g hg => by simp [Value.ownBlock] at hg)
      go_wp2
      go_ret
      exact ⟨r, _, rfl, HD.out, HBx4.out, fun k hk => by rw [hr]; exact hk.1⟩
    · have hb1 : Below w.heap.size w (w.alloc (.cells #[.slice (some ⟨gN, 0, none⟩) D.now.length cN, .slice (some ⟨gL, 0, none⟩) D.sure.length cL, .slice none 0 0, .slice (some ⟨gO, oO, none⟩) D.out.length cO, .int .i64 f, .int .i64 D.ops, .bool D.dead] 72 (0, 0))) := (Below.refl _ w).alloc (Nat.le_refl _) _
      have hh1 : (w.alloc (.cells #[.slice (some ⟨gN, 0, none⟩) D.now.length cN, .slice (some ⟨gL, 0, none⟩) D.sure.length cL, .slice none 0 0, .slice (some ⟨gO, oO, none⟩) D.out.length cO, .int .i64 f, .int .i64 D.ops, .bool D.dead] 72 (0, 0))).heap[w.heap.size]? = some (.cells #[.slice (some ⟨gN, 0, none⟩) D.now.length cN, .slice (some ⟨gL, 0, none⟩) D.sure.length cL, .slice none 0 0, .slice (some ⟨gO, oO, none⟩) D.out.length cO, .int .i64 f, .int .i64 D.ops, .bool D.dead] 72 (0, 0)) := heap_alloc_new w _
      have hs1 : (w.alloc (.cells #[.slice (some ⟨gN, 0, none⟩) D.now.length cN, .slice (some ⟨gL, 0, none⟩) D.sure.length cL, .slice none 0 0, .slice (some ⟨gO, oO, none⟩) D.out.length cO, .int .i64 f, .int .i64 D.ops, .bool D.dead] 72 (0, 0))).heap.size = w.heap.size + 1 := by simp
      obtain ⟨w1, hw1⟩ : ∃ w1, w.alloc (.cells #[.slice (some ⟨gN, 0, none⟩) D.now.length cN, .slice (some ⟨gL, 0, none⟩) D.sure.length cL, .slice none 0 0, .slice (some ⟨gO, oO, none⟩) D.out.length cO, .int .i64 f, .int .i64 D.ops, .bool D.dead] 72 (0, 0)) = w1 := ⟨_, rfl⟩
      rw [hw1] at hb1 hh1 hs1
      rw [hr] at hh1 hs1
      have hk1 := clone_some ⟨gN, 0, none⟩ cN D.now w1 (HN.out.rowB HOK.out.bnow hb1) (by omega)
      have HBw1 : Hid (Below w.heap.size w w1) := hb1
      have HHw1 : Hid (w1.heap[r]? = some (.cells #[.slice (some ⟨gN, 0, none⟩) D.now.length cN, .slice (some ⟨gL, 0, none⟩) D.sure.length cL, .slice none 0 0, .slice (some ⟨gO, oO, none⟩) D.out.length cO, .int .i64 f, .int .i64 D.ops, .bool D.dead] 72 (0, 0))) := hh1
      have HSw1 : Hid (r + 1 ≤ w1.heap.size) := Nat.le_of_eq hs1.symm
      have HT1 : Hid (w1.heap.size = r + 1) := hs1
      have d0 : w1.cell? ⟨p, 0, none⟩ = some (.slice (some ⟨gN, 0, none⟩) D.now.length cN) := (hb1.cell (p := ⟨p, 0, none⟩) lp).trans c0
      clear hb1 hh1 hs1
      go_enter Try.func28, Try.ntmps28
      go_wp2_with (go_at_call 37; refine hm.mono ?_; rintro e w' ⟨rfl, rfl⟩)
      clear hm hw1 c4 c5 c6
      refine hk1.mono ?_
      clear hk1
      rintro e w2 ⟨g1, k1, rfl, ho, hb⟩
      obtain ⟨⟨u, su⟩, sz, hH, hB, hK, hQ, hZ, hE⟩ := stage (w := w) (w1 := w1) (w2 := w2) (i := 0) (.slice (some ⟨g1, 0, none⟩) D.now.length k1) HBw1.out hr HHw1.out hb (by simp) rfl
      have hlt := World.ownsRow.lt ho g1 rfl
      have hnr : g1 ≠ r := by have := HSw1.out; omega
      have ho := (Own.zero ho).kept (hK g1 hnr)
      have HI1 : Hid (w1.heap.size ≤ g1 ∧ g1 < w2.heap.size) := hlt
      obtain ⟨x1, hx⟩ : ∃ x1, w2.setCell ⟨r, 0, none⟩ (.slice (some ⟨g1, 0, none⟩) D.now.length k1) = x1 := ⟨_, rfl⟩
      rw [hx] at hH hB hK hQ hZ ho
      have HBx1 : Hid (Below w.heap.size w x1) := hB
      have HHx1 : Hid (x1.heap[r]? = some (.cells #[.slice (some ⟨g1, 0, none⟩) D.now.length k1, .slice (some ⟨gL, 0, none⟩) D.sure.length cL, .slice none 0 0, .slice (some ⟨gO, oO, none⟩) D.out.length cO, .int .i64 f, .int .i64 D.ops, .bool D.dead] 72 (0, 0))) := hH
      have hle : w1.heap.size ≤ x1.heap.size := by omega
      have HSx1 : Hid (r + 1 ≤ x1.heap.size) := by show r + 1 ≤ _; have := HSw1.out; omega
      have HEx1 : Hid (x1.heap.size = w2.heap.size ∧ w1.heap.size ≤ w2.heap.size) := ⟨hZ, hE⟩
      have HA1 : Hid (Own 0 x1 (.slice (some ⟨g1, 0, none⟩) D.now.length k1) D.now) := ho
      have HN1 : Hid (g1 ≠ r) := hnr
      have d1 : x1.cell? ⟨p, 1, none⟩ = some (.slice (some ⟨gL, 0, none⟩) D.sure.length cL) := (hB.cell (p := ⟨p, 1, none⟩) lp).trans c1
      have hk2 := clone_some ⟨gL, 0, none⟩ cL D.sure x1 (HL.out.rowB HOK.out.bsure hB) (by omega)
      clear hH hB hK hQ hZ hE hle ho hlt hnr hb
      go_wp2_with fail
      refine hk2.mono ?_
      clear hk2
      rintro e w3 ⟨g2, k2, rfl, ho, hb⟩
      obtain ⟨⟨u, su⟩, sz, hH, hB, hK, hQ, hZ, hE⟩ := stage (w := w) (w1 := x1) (w2 := w3) (i := 1) (.slice (some ⟨g2, 0, none⟩) D.sure.length k2) HBx1.out hr HHx1.out hb (by simp) rfl
      have hlt := World.ownsRow.lt ho g2 rfl
      have hnr : g2 ≠ r := by have := HSx1.out; omega
      have ho := (Own.zero ho).kept (hK g2 hnr)
      have HI2 : Hid (x1.heap.size ≤ g2 ∧ g2 < w3.heap.size) := hlt
      obtain ⟨x2, hx⟩ : ∃ x2, w3.setCell ⟨r, 1, none⟩ (.slice (some ⟨g2, 0, none⟩) D.sure.length k2) = x2 := ⟨_, rfl⟩
      rw [hx] at hH hB hK hQ hZ ho
      have HBx2 : Hid (Below w.heap.size w x2) := hB
      have HHx2 : Hid (x2.heap[r]? = some (.cells #[.slice (some ⟨g1, 0, none⟩) D.now.length k1, .slice (some ⟨g2, 0, none⟩) D.sure.length k2, .slice none 0 0, .slice (some ⟨gO, oO, none⟩) D.out.length cO, .int .i64 f, .int .i64 D.ops, .bool D.dead] 72 (0, 0))) := hH
      have hle : x1.heap.size ≤ x2.heap.size := by omega
      have HSx2 : Hid (r + 1 ≤ x2.heap.size) := by show r + 1 ≤ _; have := HSx1.out; omega
      have HEx2 : Hid (x2.heap.size = w3.heap.size ∧ x1.heap.size ≤ w3.heap.size) := ⟨hZ, hE⟩
      have HA1 : Hid (Own 0 x2 (.slice (some ⟨g1, 0, none⟩) D.now.length k1) D.now) := HA1.out.kept (hQ g1 HA1.out.lt2.2 HN1.out)
      have HA2 : Hid (Own 0 x2 (.slice (some ⟨g2, 0, none⟩) D.sure.length k2) D.sure) := ho
      have HN2 : Hid (g2 ≠ r) := hnr
      have d2 : x2.cell? ⟨p, 2, none⟩ = some (.slice none 0 0) := (hB.cell (p := ⟨p, 2, none⟩) lp).trans c2
      have hk3 := wclone_none x2
      clear hH hB hK hQ hZ hE hle ho hlt hnr hb
      go_wp2_with fail
      refine hk3.mono ?_
      clear hk3
      rintro e wx ⟨rfl, rfl⟩
      obtain ⟨⟨u, su⟩, sz, hH, hB, hK, hQ, hZ, hE⟩ := stage (w := w) (w1 := x2) (w2 := x2) (i := 2) (.slice none 0 0) HBx2.out hr HHx2.out (Below.refl _ _) (by simp) rfl
      obtain ⟨x3, hx⟩ : ∃ x3, x2.setCell ⟨r, 2, none⟩ (.slice none 0 0) = x3 := ⟨_, rfl⟩
      rw [hx] at hH hB hK hQ hZ
      have HBx3 : Hid (Below w.heap.size w x3) := hB
      have HHx3 : Hid (x3.heap[r]? = some (.cells #[.slice (some ⟨g1, 0, none⟩) D.now.length k1, .slice (some ⟨g2, 0, none⟩) D.sure.length k2, .slice none 0 0, .slice (some ⟨gO, oO, none⟩) D.out.length cO, .int .i64 f, .int .i64 D.ops, .bool D.dead] 72 (0, 0))) := hH
      have hle : x2.heap.size ≤ x3.heap.size := by omega
      have HSx3 : Hid (r + 1 ≤ x3.heap.size) := by show r + 1 ≤ _; have := HSx2.out; omega
      have HEx3 : Hid (x3.heap.size = x2.heap.size ∧ x2.heap.size ≤ x2.heap.size) := ⟨hZ, hE⟩
      have HA1 : Hid (Own 0 x3 (.slice (some ⟨g1, 0, none⟩) D.now.length k1) D.now) := HA1.out.kept (hQ g1 HA1.out.lt2.2 HN1.out)
      have HA2 : Hid (Own 0 x3 (.slice (some ⟨g2, 0, none⟩) D.sure.length k2) D.sure) := HA2.out.kept (hQ g2 HA2.out.lt2.2 HN2.out)
      have d3 : x3.cell? ⟨p, 3, none⟩ = some (.slice (some ⟨gO, oO, none⟩) D.out.length cO) := (hB.cell (p := ⟨p, 3, none⟩) lp).trans c3
      have hk4 := clone_some ⟨gO, oO, none⟩ cO D.out x3 ((HOU.out.keep (fun b hb => hB.block b (lO b hb))).row HOK.out.bout) (by omega)
      clear hH hB hK hQ hZ hE hle
      go_wp2_with fail
      refine hk4.mono ?_
      clear hk4
      rintro e w5 ⟨g4, k4, rfl, ho, hb⟩
      obtain ⟨⟨u, su⟩, sz, hH, hB, hK, hQ, hZ, hE⟩ := stage (w := w) (w1 := x3) (w2 := w5) (i := 3) (.slice (some ⟨g4, 0, none⟩) D.out.length k4) HBx3.out hr HHx3.out hb (by simp) rfl
      have hlt := World.ownsRow.lt ho g4 rfl
      have hnr : g4 ≠ r := by have := HSx3.out; omega
      have ho := (Own.zero ho).kept (hK g4 hnr)
      have HI4 : Hid (x3.heap.size ≤ g4 ∧ g4 < w5.heap.size) := hlt
      obtain ⟨x4, hx⟩ : ∃ x4, w5.setCell ⟨r, 3, none⟩ (.slice (some ⟨g4, 0, none⟩) D.out.length k4) = x4 := ⟨_, rfl⟩
      rw [hx] at hH hB hK hQ hZ ho
      have HBx4 : Hid (Below w.heap.size w x4) := hB
      have HHx4 : Hid (x4.heap[r]? = some (.cells #[.slice (some ⟨g1, 0, none⟩) D.now.length k1, .slice (some ⟨g2, 0, none⟩) D.sure.length k2, .slice none 0 0, .slice (some ⟨g4, 0, none⟩) D.out.length k4, .int .i64 f, .int .i64 D.ops, .bool D.dead] 72 (0, 0))) := hH
      have hle : x3.heap.size ≤ x4.heap.size := by omega
      have HSx4 : Hid (r + 1 ≤ x4.heap.size) := by show r + 1 ≤ _; have := HSx3.out; omega
      have HEx4 : Hid (x4.heap.size = w5.heap.size ∧ x3.heap.size ≤ w5.heap.size) := ⟨hZ, hE⟩
      have HA1 : Hid (Own 0 x4 (.slice (some ⟨g1, 0, none⟩) D.now.length k1) D.now) := HA1.out.kept (hQ g1 HA1.out.lt2.2 HN1.out)
      have HA2 : Hid (Own 0 x4 (.slice (some ⟨g2, 0, none⟩) D.sure.length k2) D.sure) := HA2.out.kept (hQ g2 HA2.out.lt2.2 HN2.out)
      have HA4 : Hid (Own 0 x4 (.slice (some ⟨g4, 0, none⟩) D.out.length k4) D.out) := ho
      have HN4 : Hid (g4 ≠ r) := hnr
      clear hH hB hK hQ hZ hE hle ho hlt hnr hb
      have HD : Hid (Dev x4 r (fun k => r ≤ k ∧ k < x4.heap.size) D) := by
        have e1 := HEx1.out
        have e2 := HEx2.out
        have e3 := HEx3.out
        have e4 := HEx4.out
        have q1 := HI1.out
        have q2 := HI2.out
        have q0 := HSw1.out
        have q4 := HI4.out
        exact mkDev (b1 := r + 1) (b2 := x1.heap.size) (b3 := x2.heap.size) (b4 := x3.heap.size) HOK.out HHx4.out HA1.out HA2.out (by have := HSI.out; exact ⟨this.1, .inl (by rcases this.2 with e | ⟨g, c, cur, e, _⟩; exact e; cases e)⟩) (HA4.out.outAt) f1 f2 HFU.out (Nat.le_refl _) (by omega) (by omega) (by omega) (fun g hg => by simp [Value.ownBlock] at hg) (by omega) (fun g hg => by simp [Value.ownBlock] at hg; omega)
      go_wp2
      go_ret
      exact ⟨r, _, rfl, HD.out, HBx4.out, fun k hk => by rw [hr]; exact hk.1⟩
  · rcases hvO with rfl | ⟨gO, oO, cO, rfl⟩
    · have hb1 : Below w.heap.size w (w.alloc (.cells #[.slice (some ⟨gN, 0, none⟩) D.now.length cN, .slice (some ⟨gL, 0, none⟩) D.sure.length cL, .slice (some ⟨gS, 0, none⟩) D.since.length cS, .slice none 0 0, .int .i64 f, .int .i64 D.ops, .bool D.dead] 72 (0, 0))) := (Below.refl _ w).alloc (Nat.le_refl _) _
      have hh1 : (w.alloc (.cells #[.slice (some ⟨gN, 0, none⟩) D.now.length cN, .slice (some ⟨gL, 0, none⟩) D.sure.length cL, .slice (some ⟨gS, 0, none⟩) D.since.length cS, .slice none 0 0, .int .i64 f, .int .i64 D.ops, .bool D.dead] 72 (0, 0))).heap[w.heap.size]? = some (.cells #[.slice (some ⟨gN, 0, none⟩) D.now.length cN, .slice (some ⟨gL, 0, none⟩) D.sure.length cL, .slice (some ⟨gS, 0, none⟩) D.since.length cS, .slice none 0 0, .int .i64 f, .int .i64 D.ops, .bool D.dead] 72 (0, 0)) := heap_alloc_new w _
      have hs1 : (w.alloc (.cells #[.slice (some ⟨gN, 0, none⟩) D.now.length cN, .slice (some ⟨gL, 0, none⟩) D.sure.length cL, .slice (some ⟨gS, 0, none⟩) D.since.length cS, .slice none 0 0, .int .i64 f, .int .i64 D.ops, .bool D.dead] 72 (0, 0))).heap.size = w.heap.size + 1 := by simp
      obtain ⟨w1, hw1⟩ : ∃ w1, w.alloc (.cells #[.slice (some ⟨gN, 0, none⟩) D.now.length cN, .slice (some ⟨gL, 0, none⟩) D.sure.length cL, .slice (some ⟨gS, 0, none⟩) D.since.length cS, .slice none 0 0, .int .i64 f, .int .i64 D.ops, .bool D.dead] 72 (0, 0)) = w1 := ⟨_, rfl⟩
      rw [hw1] at hb1 hh1 hs1
      rw [hr] at hh1 hs1
      have hk1 := clone_some ⟨gN, 0, none⟩ cN D.now w1 (HN.out.rowB HOK.out.bnow hb1) (by omega)
      have HBw1 : Hid (Below w.heap.size w w1) := hb1
      have HHw1 : Hid (w1.heap[r]? = some (.cells #[.slice (some ⟨gN, 0, none⟩) D.now.length cN, .slice (some ⟨gL, 0, none⟩) D.sure.length cL, .slice (some ⟨gS, 0, none⟩) D.since.length cS, .slice none 0 0, .int .i64 f, .int .i64 D.ops, .bool D.dead] 72 (0, 0))) := hh1
      have HSw1 : Hid (r + 1 ≤ w1.heap.size) := Nat.le_of_eq hs1.symm
      have HT1 : Hid (w1.heap.size = r + 1) := hs1
      have d0 : w1.cell? ⟨p, 0, none⟩ = some (.slice (some ⟨gN, 0, none⟩) D.now.length cN) := (hb1.cell (p := ⟨p, 0, none⟩) lp).trans c0
      clear hb1 hh1 hs1
      go_enter Try.func28, Try.ntmps28
      go_wp2_with (go_at_call 37; refine hm.mono ?_; rintro e w' ⟨rfl, rfl⟩)
      clear hm hw1 c4 c5 c6
      refine hk1.mono ?_
      clear hk1
      rintro e w2 ⟨g1, k1, rfl, ho, hb⟩
      obtain ⟨⟨u, su⟩, sz, hH, hB, hK, hQ, hZ, hE⟩ := stage (w := w) (w1 := w1) (w2 := w2) (i := 0) (.slice (some ⟨g1, 0, none⟩) D.now.length k1) HBw1.out hr HHw1.out hb (by simp) rfl
      have hlt := World.ownsRow.lt ho g1 rfl
      have hnr : g1 ≠ r := by have := HSw1.out; omega
      have ho := (Own.zero ho).kept (hK g1 hnr)
      have HI1 : Hid (w1.heap.size ≤ g1 ∧ g1 < w2.heap.size) := hlt
      obtain ⟨x1, hx⟩ : ∃ x1, w2.setCell ⟨r, 0, none⟩ (.slice (some ⟨g1, 0, none⟩) D.now.length k1) = x1 := ⟨_, rfl⟩
      rw [hx] at hH hB hK hQ hZ ho
      have HBx1 : Hid (Below w.heap.size w x1) := hB
      have HHx1 : Hid (x1.heap[r]? = some (.cells #[.slice (some ⟨g1, 0, none⟩) D.now.length k1, .slice (some ⟨gL, 0, none⟩) D.sure.length cL, .slice (some ⟨gS, 0, none⟩) D.since.length cS, .slice none 0 0, .int .i64 f, .int .i64 D.ops, .bool D.dead] 72 (0, 0))) := hH
      have hle : w1.heap.size ≤ x1.heap.size := by omega
      have HSx1 : Hid (r + 1 ≤ x1.heap.size) := by show r + 1 ≤ _; have := HSw1.out; omega
      have HEx1 : Hid (x1.heap.size = w2.heap.size ∧ w1.heap.size ≤ w2.heap.size) := ⟨hZ, hE⟩
      have HA1 : Hid (Own 0 x1 (.slice (some ⟨g1, 0, none⟩) D.now.length k1) D.now) := ho
      have HN1 : Hid (g1 ≠ r) := hnr
      have d1 : x1.cell? ⟨p, 1, none⟩ = some (.slice (some ⟨gL, 0, none⟩) D.sure.length cL) := (hB.cell (p := ⟨p, 1, none⟩) lp).trans c1
      have hk2 := clone_some ⟨gL, 0, none⟩ cL D.sure x1 (HL.out.rowB HOK.out.bsure hB) (by omega)
      clear hH hB hK hQ hZ hE hle ho hlt hnr hb
      go_wp2_with fail
      refine hk2.mono ?_
      clear hk2
      rintro e w3 ⟨g2, k2, rfl, ho, hb⟩
      obtain ⟨⟨u, su⟩, sz, hH, hB, hK, hQ, hZ, hE⟩ := stage (w := w) (w1 := x1) (w2 := w3) (i := 1) (.slice (some ⟨g2, 0, none⟩) D.sure.length k2) HBx1.out hr HHx1.out hb (by simp) rfl
      have hlt := World.ownsRow.lt ho g2 rfl
      have hnr : g2 ≠ r := by have := HSx1.out; omega
      have ho := (Own.zero ho).kept (hK g2 hnr)
      have HI2 : Hid (x1.heap.size ≤ g2 ∧ g2 < w3.heap.size) := hlt
      obtain ⟨x2, hx⟩ : ∃ x2, w3.setCell ⟨r, 1, none⟩ (.slice (some ⟨g2, 0, none⟩) D.sure.length k2) = x2 := ⟨_, rfl⟩
      rw [hx] at hH hB hK hQ hZ ho
      have HBx2 : Hid (Below w.heap.size w x2) := hB
      have HHx2 : Hid (x2.heap[r]? = some (.cells #[.slice (some ⟨g1, 0, none⟩) D.now.length k1, .slice (some ⟨g2, 0, none⟩) D.sure.length k2, .slice (some ⟨gS, 0, none⟩) D.since.length cS, .slice none 0 0, .int .i64 f, .int .i64 D.ops, .bool D.dead] 72 (0, 0))) := hH
      have hle : x1.heap.size ≤ x2.heap.size := by omega
      have HSx2 : Hid (r + 1 ≤ x2.heap.size) := by show r + 1 ≤ _; have := HSx1.out; omega
      have HEx2 : Hid (x2.heap.size = w3.heap.size ∧ x1.heap.size ≤ w3.heap.size) := ⟨hZ, hE⟩
      have HA1 : Hid (Own 0 x2 (.slice (some ⟨g1, 0, none⟩) D.now.length k1) D.now) := HA1.out.kept (hQ g1 HA1.out.lt2.2 HN1.out)
      have HA2 : Hid (Own 0 x2 (.slice (some ⟨g2, 0, none⟩) D.sure.length k2) D.sure) := ho
      have HN2 : Hid (g2 ≠ r) := hnr
      have d2 : x2.cell? ⟨p, 2, none⟩ = some (.slice (some ⟨gS, 0, none⟩) D.since.length cS) := (hB.cell (p := ⟨p, 2, none⟩) lp).trans c2
      have hk3 := wclone_some gS cS D.since x2 (owns_keep HSI.out (fun b hb => hB.block b (lS b hb))) hs
      clear hH hB hK hQ hZ hE hle ho hlt hnr hb
      go_wp2_with fail
      refine hk3.mono ?_
      clear hk3
      rintro e w4 ⟨g3, k3, rfl, ho, hb⟩
      obtain ⟨⟨u, su⟩, sz, hH, hB, hK, hQ, hZ, hE⟩ := stage (w := w) (w1 := x2) (w2 := w4) (i := 2) (.slice (some ⟨g3, 0, none⟩) D.since.length k3) HBx2.out hr HHx2.out hb (by simp) rfl
      have hlt := World.ownsRow.lt ho g3 rfl
      have hnr : g3 ≠ r := by have := HSx2.out; omega
      have ho := owns_keep (owns_base ho (fun _ _ => Nat.zero_le _)) (fun b hb => by simp [Value.ownBlock] at hb; subst hb; exact hK g3 hnr)
      have HI3 : Hid (x2.heap.size ≤ g3 ∧ g3 < w4.heap.size) := hlt
      obtain ⟨x3, hx⟩ : ∃ x3, w4.setCell ⟨r, 2, none⟩ (.slice (some ⟨g3, 0, none⟩) D.since.length k3) = x3 := ⟨_, rfl⟩
      rw [hx] at hH hB hK hQ hZ ho
      have HBx3 : Hid (Below w.heap.size w x3) := hB
      have HHx3 : Hid (x3.heap[r]? = some (.cells #[.slice (some ⟨g1, 0, none⟩) D.now.length k1, .slice (some ⟨g2, 0, none⟩) D.sure.length k2, .slice (some ⟨g3, 0, none⟩) D.since.length k3, .slice none 0 0, .int .i64 f, .int .i64 D.ops, .bool D.dead] 72 (0, 0))) := hH
      have hle : x2.heap.size ≤ x3.heap.size := by omega
      have HSx3 : Hid (r + 1 ≤ x3.heap.size) := by show r + 1 ≤ _; have := HSx2.out; omega
      have HEx3 : Hid (x3.heap.size = w4.heap.size ∧ x2.heap.size ≤ w4.heap.size) := ⟨hZ, hE⟩
      have HA1 : Hid (Own 0 x3 (.slice (some ⟨g1, 0, none⟩) D.now.length k1) D.now) := HA1.out.kept (hQ g1 HA1.out.lt2.2 HN1.out)
      have HA2 : Hid (Own 0 x3 (.slice (some ⟨g2, 0, none⟩) D.sure.length k2) D.sure) := HA2.out.kept (hQ g2 HA2.out.lt2.2 HN2.out)
      have HA3 : Hid (x3.ownsRow 0 64 257 (.slice (some ⟨g3, 0, none⟩) D.since.length k3) D.since.length (scells D.since)) := ho
      have HN3 : Hid (g3 ≠ r) := hnr
      have d3 : x3.cell? ⟨p, 3, none⟩ = some (.slice none 0 0) := (hB.cell (p := ⟨p, 3, none⟩) lp).trans c3
      have hk4 := clone_none x3
      clear hH hB hK hQ hZ hE hle ho hlt hnr hb
      go_wp2_with fail
      refine hk4.mono ?_
      clear hk4
      rintro e wx ⟨rfl, rfl⟩
      obtain ⟨⟨u, su⟩, sz, hH, hB, hK, hQ, hZ, hE⟩ := stage (w := w) (w1 := x3) (w2 := x3) (i := 3) (.slice none 0 0) HBx3.out hr HHx3.out (Below.refl _ _) (by simp) rfl
      obtain ⟨x4, hx⟩ : ∃ x4, x3.setCell ⟨r, 3, none⟩ (.slice none 0 0) = x4 := ⟨_, rfl⟩
      rw [hx] at hH hB hK hQ hZ
      have HBx4 : Hid (Below w.heap.size w x4) := hB
      have HHx4 : Hid (x4.heap[r]? = some (.cells #[.slice (some ⟨g1, 0, none⟩) D.now.length k1, .slice (some ⟨g2, 0, none⟩) D.sure.length k2, .slice (some ⟨g3, 0, none⟩) D.since.length k3, .slice none 0 0, .int .i64 f, .int .i64 D.ops, .bool D.dead] 72 (0, 0))) := hH
      have hle : x3.heap.size ≤ x4.heap.size := by omega
      have HSx4 : Hid (r + 1 ≤ x4.heap.size) := by show r + 1 ≤ _; have := HSx3.out; omega
      have HEx4 : Hid (x4.heap.size = x3.heap.size ∧ x3.heap.size ≤ x3.heap.size) := ⟨hZ, hE⟩
      have HA1 : Hid (Own 0 x4 (.slice (some ⟨g1, 0, none⟩) D.now.length k1) D.now) := HA1.out.kept (hQ g1 HA1.out.lt2.2 HN1.out)
      have HA2 : Hid (Own 0 x4 (.slice (some ⟨g2, 0, none⟩) D.sure.length k2) D.sure) := HA2.out.kept (hQ g2 HA2.out.lt2.2 HN2.out)
      have HA3 : Hid (x4.ownsRow 0 64 257 (.slice (some ⟨g3, 0, none⟩) D.since.length k3) D.since.length (scells D.since)) := owns_keep HA3.out (fun b hb => by simp [Value.ownBlock] at hb; subst hb; exact hQ g3 (World.ownsRow.lt HA3.out g3 rfl).2 HN3.out)
      clear hH hB hK hQ hZ hE hle
      have HD : Hid (Dev x4 r (fun k => r ≤ k ∧ k < x4.heap.size) D) := by
        have e1 := HEx1.out
        have e2 := HEx2.out
        have e3 := HEx3.out
        have e4 := HEx4.out
        have q1 := HI1.out
        have q2 := HI2.out
        have q0 := HSw1.out
        have q3 := HI3.out
        exact mkDev (b1 := r + 1) (b2 := x1.heap.size) (b3 := x2.heap.size) (b4 := x3.heap.size) HOK.out HHx4.out HA1.out HA2.out HA3.out (HOU.out.keep (fun g hg => by simp [Value.ownBlock] at hg)) f1 f2 HFU.out (Nat.le_refl _) (by omega) (by omega) (by omega) (fun g hg => by simp [Value.ownBlock] at hg; omega) (by omega) (fun g hg => by simp [Value.ownBlock] at hg)
      go_wp2
      go_ret
      exact ⟨r, _, rfl, HD.out, HBx4.out, fun k hk => by rw [hr]; exact hk.1⟩
    · have hb1 : Below w.heap.size w (w.alloc (.cells #[.slice (some ⟨gN, 0, none⟩) D.now.length cN, .slice (some ⟨gL, 0, none⟩) D.sure.length cL, .slice (some ⟨gS, 0, none⟩) D.since.length cS, .slice (some ⟨gO, oO, none⟩) D.out.length cO, .int .i64 f, .int .i64 D.ops, .bool D.dead] 72 (0, 0))) := (Below.refl _ w).alloc (Nat.le_refl _) _
      have hh1 : (w.alloc (.cells #[.slice (some ⟨gN, 0, none⟩) D.now.length cN, .slice (some ⟨gL, 0, none⟩) D.sure.length cL, .slice (some ⟨gS, 0, none⟩) D.since.length cS, .slice (some ⟨gO, oO, none⟩) D.out.length cO, .int .i64 f, .int .i64 D.ops, .bool D.dead] 72 (0, 0))).heap[w.heap.size]? = some (.cells #[.slice (some ⟨gN, 0, none⟩) D.now.length cN, .slice (some ⟨gL, 0, none⟩) D.sure.length cL, .slice (some ⟨gS, 0, none⟩) D.since.length cS, .slice (some ⟨gO, oO, none⟩) D.out.length cO, .int .i64 f, .int .i64 D.ops, .bool D.dead] 72 (0, 0)) := heap_alloc_new w _
      have hs1 : (w.alloc (.cells #[.slice (some ⟨gN, 0, none⟩) D.now.length cN, .slice (some ⟨gL, 0, none⟩) D.sure.length cL, .slice (some ⟨gS, 0, none⟩) D.since.length cS, .slice (some ⟨gO, oO, none⟩) D.out.length cO, .int .i64 f, .int .i64 D.ops, .bool D.dead] 72 (0, 0))).heap.size = w.heap.size + 1 := by simp
      obtain ⟨w1, hw1⟩ : ∃ w1, w.alloc (.cells #[.slice (some ⟨gN, 0, none⟩) D.now.length cN, .slice (some ⟨gL, 0, none⟩) D.sure.length cL, .slice (some ⟨gS, 0, none⟩) D.since.length cS, .slice (some ⟨gO, oO, none⟩) D.out.length cO, .int .i64 f, .int .i64 D.ops, .bool D.dead] 72 (0, 0)) = w1 := ⟨_, rfl⟩
      rw [hw1] at hb1 hh1 hs1
      rw [hr] at hh1 hs1
      have hk1 := clone_some ⟨gN, 0, none⟩ cN D.now w1 (HN.out.rowB HOK.out.bnow hb1) (by omega)
      have HBw1 : Hid (Below w.heap.size w w1) := hb1
      have HHw1 : Hid (w1.heap[r]? = some (.cells #[.slice (some ⟨gN, 0, none⟩) D.now.length cN, .slice (some ⟨gL, 0, none⟩) D.sure.length cL, .slice (some ⟨gS, 0, none⟩) D.since.length cS, .slice (some ⟨gO, oO, none⟩) D.out.length cO, .int .i64 f, .int .i64 D.ops, .bool D.dead] 72 (0, 0))) := hh1
      have HSw1 : Hid (r + 1 ≤ w1.heap.size) := Nat.le_of_eq hs1.symm
      have HT1 : Hid (w1.heap.size = r + 1) := hs1
      have d0 : w1.cell? ⟨p, 0, none⟩ = some (.slice (some ⟨gN, 0, none⟩) D.now.length cN) := (hb1.cell (p := ⟨p, 0, none⟩) lp).trans c0
      clear hb1 hh1 hs1
      go_enter Try.func28, Try.ntmps28
      go_wp2_with (go_at_call 37; refine hm.mono ?_; rintro e w' ⟨rfl, rfl⟩)
      clear hm hw1 c4 c5 c6
      refine hk1.mono ?_
      clear hk1
      rintro e w2 ⟨g1, k1, rfl, ho, hb⟩
      obtain ⟨⟨u, su⟩, sz, hH, hB, hK, hQ, hZ, hE⟩ := stage (w := w) (w1 := w1) (w2 := w2) (i := 0) (.slice (some ⟨g1, 0, none⟩) D.now.length k1) HBw1.out hr HHw1.out hb (by simp) rfl
      have hlt := World.ownsRow.lt ho g1 rfl
      have hnr : g1 ≠ r := by have := HSw1.out; omega
      have ho := (Own.zero ho).kept (hK g1 hnr)
      have HI1 : Hid (w1.heap.size ≤ g1 ∧ g1 < w2.heap.size) := hlt
      obtain ⟨x1, hx⟩ : ∃ x1, w2.setCell ⟨r, 0, none⟩ (.slice (some ⟨g1, 0, none⟩) D.now.length k1) = x1 := ⟨_, rfl⟩
      rw [hx] at hH hB hK hQ hZ ho
      have HBx1 : Hid (Below w.heap.size w x1) := hB
      have HHx1 : Hid (x1.heap[r]? = some (.cells #[.slice (some ⟨g1, 0, none⟩) D.now.length k1, .slice (some ⟨gL, 0, none⟩) D.sure.length cL, .slice (some ⟨gS, 0, none⟩) D.since.length cS, .slice (some ⟨gO, oO, none⟩) D.out.length cO, .int .i64 f, .int .i64 D.ops, .bool D.dead] 72 (0, 0))) := hH
      have hle : w1.heap.size ≤ x1.heap.size := by omega
      have HSx1 : Hid (r + 1 ≤ x1.heap.size) := by show r + 1 ≤ _; have := HSw1.out; omega
      have HEx1 : Hid (x1.heap.size = w2.heap.size ∧ w1.heap.size ≤ w2.heap.size) := ⟨hZ, hE⟩
      have HA1 : Hid (Own 0 x1 (.slice (some ⟨g1, 0, none⟩) D.now.length k1) D.now) := ho
      have HN1 : Hid (g1 ≠ r) := hnr
      have d1 : x1.cell? ⟨p, 1, none⟩ = some (.slice (some ⟨gL, 0, none⟩) D.sure.length cL) := (hB.cell (p := ⟨p, 1, none⟩) lp).trans c1
      have hk2 := clone_some ⟨gL, 0, none⟩ cL D.sure x1 (HL.out.rowB HOK.out.bsure hB) (by omega)
      clear hH hB hK hQ hZ hE hle ho hlt hnr hb
      go_wp2_with fail
      refine hk2.mono ?_
      clear hk2
      rintro e w3 ⟨g2, k2, rfl, ho, hb⟩
      obtain ⟨⟨u, su⟩, sz, hH, hB, hK, hQ, hZ, hE⟩ := stage (w := w) (w1 := x1) (w2 := w3) (i := 1) (.slice (some ⟨g2, 0, none⟩) D.sure.length k2) HBx1.out hr HHx1.out hb (by simp) rfl
      have hlt := World.ownsRow.lt ho g2 rfl
      have hnr : g2 ≠ r := by have := HSx1.out; omega
      have ho := (Own.zero ho).kept (hK g2 hnr)
      have HI2 : Hid (x1.heap.size ≤ g2 ∧ g2 < w3.heap.size) := hlt
      obtain ⟨x2, hx⟩ : ∃ x2, w3.setCell ⟨r, 1, none⟩ (.slice (some ⟨g2, 0, none⟩) D.sure.length k2) = x2 := ⟨_, rfl⟩
      rw [hx] at hH hB hK hQ hZ ho
      have HBx2 : Hid (Below w.heap.size w x2) := hB
      have HHx2 : Hid (x2.heap[r]? = some (.cells #[.slice (some ⟨g1, 0, none⟩) D.now.length k1, .slice (some ⟨g2, 0, none⟩) D.sure.length k2, .slice (some ⟨gS, 0, none⟩) D.since.length cS, .slice (some ⟨gO, oO, none⟩) D.out.length cO, .int .i64 f, .int .i64 D.ops, .bool D.dead] 72 (0, 0))) := hH
      have hle : x1.heap.size ≤ x2.heap.size := by omega
      have HSx2 : Hid (r + 1 ≤ x2.heap.size) := by show r + 1 ≤ _; have := HSx1.out; omega
      have HEx2 : Hid (x2.heap.size = w3.heap.size ∧ x1.heap.size ≤ w3.heap.size) := ⟨hZ, hE⟩
      have HA1 : Hid (Own 0 x2 (.slice (some ⟨g1, 0, none⟩) D.now.length k1) D.now) := HA1.out.kept (hQ g1 HA1.out.lt2.2 HN1.out)
      have HA2 : Hid (Own 0 x2 (.slice (some ⟨g2, 0, none⟩) D.sure.length k2) D.sure) := ho
      have HN2 : Hid (g2 ≠ r) := hnr
      have d2 : x2.cell? ⟨p, 2, none⟩ = some (.slice (some ⟨gS, 0, none⟩) D.since.length cS) := (hB.cell (p := ⟨p, 2, none⟩) lp).trans c2
      have hk3 := wclone_some gS cS D.since x2 (owns_keep HSI.out (fun b hb => hB.block b (lS b hb))) hs
      clear hH hB hK hQ hZ hE hle ho hlt hnr hb
      go_wp2_with fail
      refine hk3.mono ?_
      clear hk3
      rintro e w4 ⟨g3, k3, rfl, ho, hb⟩
      obtain ⟨⟨u, su⟩, sz, hH, hB, hK, hQ, hZ, hE⟩ := stage (w := w) (w1 := x2) (w2 := w4) (i := 2) (.slice (some ⟨g3, 0, none⟩) D.since.length k3) HBx2.out hr HHx2.out hb (by simp) rfl
      have hlt := World.ownsRow.lt ho g3 rfl
      have hnr : g3 ≠ r := by have := HSx2.out; omega
      have ho := owns_keep (owns_base ho (fun _ _ => Nat.zero_le _)) (fun b hb => by simp [Value.ownBlock] at hb; subst hb; exact hK g3 hnr)
      have HI3 : Hid (x2.heap.size ≤ g3 ∧ g3 < w4.heap.size) := hlt
      obtain ⟨x3, hx⟩ : ∃ x3, w4.setCell ⟨r, 2, none⟩ (.slice (some ⟨g3, 0, none⟩) D.since.length k3) = x3 := ⟨_, rfl⟩
      rw [hx] at hH hB hK hQ hZ ho
      have HBx3 : Hid (Below w.heap.size w x3) := hB
      have HHx3 : Hid (x3.heap[r]? = some (.cells #[.slice (some ⟨g1, 0, none⟩) D.now.length k1, .slice (some ⟨g2, 0, none⟩) D.sure.length k2, .slice (some ⟨g3, 0, none⟩) D.since.length k3, .slice (some ⟨gO, oO, none⟩) D.out.length cO, .int .i64 f, .int .i64 D.ops, .bool D.dead] 72 (0, 0))) := hH
      have hle : x2.heap.size ≤ x3.heap.size := by omega
      have HSx3 : Hid (r + 1 ≤ x3.heap.size) := by show r + 1 ≤ _; have := HSx2.out; omega
      have HEx3 : Hid (x3.heap.size = w4.heap.size ∧ x2.heap.size ≤ w4.heap.size) := ⟨hZ, hE⟩
      have HA1 : Hid (Own 0 x3 (.slice (some ⟨g1, 0, none⟩) D.now.length k1) D.now) := HA1.out.kept (hQ g1 HA1.out.lt2.2 HN1.out)
      have HA2 : Hid (Own 0 x3 (.slice (some ⟨g2, 0, none⟩) D.sure.length k2) D.sure) := HA2.out.kept (hQ g2 HA2.out.lt2.2 HN2.out)
      have HA3 : Hid (x3.ownsRow 0 64 257 (.slice (some ⟨g3, 0, none⟩) D.since.length k3) D.since.length (scells D.since)) := ho
      have HN3 : Hid (g3 ≠ r) := hnr
      have d3 : x3.cell? ⟨p, 3, none⟩ = some (.slice (some ⟨gO, oO, none⟩) D.out.length cO) := (hB.cell (p := ⟨p, 3, none⟩) lp).trans c3
      have hk4 := clone_some ⟨gO, oO, none⟩ cO D.out x3 ((HOU.out.keep (fun b hb => hB.block b (lO b hb))).row HOK.out.bout) (by omega)
      clear hH hB hK hQ hZ hE hle ho hlt hnr hb
      go_wp2_with fail
      refine hk4.mono ?_
      clear hk4
      rintro e w5 ⟨g4, k4, rfl, ho, hb⟩
      obtain ⟨⟨u, su⟩, sz, hH, hB, hK, hQ, hZ, hE⟩ := stage (w := w) (w1 := x3) (w2 := w5) (i := 3) (.slice (some ⟨g4, 0, none⟩) D.out.length k4) HBx3.out hr HHx3.out hb (by simp) rfl
      have hlt := World.ownsRow.lt ho g4 rfl
      have hnr : g4 ≠ r := by have := HSx3.out; omega
      have ho := (Own.zero ho).kept (hK g4 hnr)
      have HI4 : Hid (x3.heap.size ≤ g4 ∧ g4 < w5.heap.size) := hlt
      obtain ⟨x4, hx⟩ : ∃ x4, w5.setCell ⟨r, 3, none⟩ (.slice (some ⟨g4, 0, none⟩) D.out.length k4) = x4 := ⟨_, rfl⟩
      rw [hx] at hH hB hK hQ hZ ho
      have HBx4 : Hid (Below w.heap.size w x4) := hB
      have HHx4 : Hid (x4.heap[r]? = some (.cells #[.slice (some ⟨g1, 0, none⟩) D.now.length k1, .slice (some ⟨g2, 0, none⟩) D.sure.length k2, .slice (some ⟨g3, 0, none⟩) D.since.length k3, .slice (some ⟨g4, 0, none⟩) D.out.length k4, .int .i64 f, .int .i64 D.ops, .bool D.dead] 72 (0, 0))) := hH
      have hle : x3.heap.size ≤ x4.heap.size := by omega
      have HSx4 : Hid (r + 1 ≤ x4.heap.size) := by show r + 1 ≤ _; have := HSx3.out; omega
      have HEx4 : Hid (x4.heap.size = w5.heap.size ∧ x3.heap.size ≤ w5.heap.size) := ⟨hZ, hE⟩
      have HA1 : Hid (Own 0 x4 (.slice (some ⟨g1, 0, none⟩) D.now.length k1) D.now) := HA1.out.kept (hQ g1 HA1.out.lt2.2 HN1.out)
      have HA2 : Hid (Own 0 x4 (.slice (some ⟨g2, 0, none⟩) D.sure.length k2) D.sure) := HA2.out.kept (hQ g2 HA2.out.lt2.2 HN2.out)
      have HA3 : Hid (x4.ownsRow 0 64 257 (.slice (some ⟨g3, 0, none⟩) D.since.length k3) D.since.length (scells D.since)) := owns_keep HA3.out (fun b hb => by simp [Value.ownBlock] at hb; subst hb; exact hQ g3 (World.ownsRow.lt HA3.out g3 rfl).2 HN3.out)
      have HA4 : Hid (Own 0 x4 (.slice (some ⟨g4, 0, none⟩) D.out.length k4) D.out) := ho
      have HN4 : Hid (g4 ≠ r) := hnr
      clear hH hB hK hQ hZ hE hle ho hlt hnr hb
      have HD : Hid (Dev x4 r (fun k => r ≤ k ∧ k < x4.heap.size) D) := by
        have e1 := HEx1.out
        have e2 := HEx2.out
        have e3 := HEx3.out
        have e4 := HEx4.out
        have q1 := HI1.out
        have q2 := HI2.out
        have q0 := HSw1.out
        have q3 := HI3.out
        have q4 := HI4.out
        exact mkDev (b1 := r + 1) (b2 := x1.heap.size) (b3 := x2.heap.size) (b4 := x3.heap.size) HOK.out HHx4.out HA1.out HA2.out HA3.out (HA4.out.outAt) f1 f2 HFU.out (Nat.le_refl _) (by omega) (by omega) (by omega) (fun g hg => by simp [Value.ownBlock] at hg; omega) (by omega) (fun g hg => by simp [Value.ownBlock] at hg; omega)
      go_wp2
      go_ret
      exact ⟨r, _, rfl, HD.out, HBx4.out, fun k hk => by rw [hr]; exact hk.1⟩
end Go.Proofs.Ytfbjjdjgijdlaaa.Oct
