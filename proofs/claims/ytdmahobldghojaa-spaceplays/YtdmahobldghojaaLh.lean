/-
  The landed space: Bits, Clone, New.
-/
import Derived.Test.YtdmahobldghojaaLg
import Derived.Laws.AppendOwnNone
namespace Go.Proofs.Ytdmahobldghojaa.Oct.Sps
open Go.RowKit

theorem nil_set (w : World) (a : Option Addr) (n c : Nat) : (binOp .eql 55 (.slice a n c) (.slice none 0 0)).run Try.prog w = .ok (.bool a.isNone) w := Lib.run_eql_slice_nil w 55 5 a n c 0 0 Try.underlying55

theorem row_srcA {w : World} {ad : Addr} {c : Nat} {zs : List Int} (h : Row w (some ad) c zs) : ∀ (j : Nat) (u : Value), (zs.map (Value.int .u8))[j]? = some u → w.cell? (ad.add j) = some u := fun j u hj => by
  have hlt : j < zs.length := by
    rcases Nat.lt_or_ge j zs.length with e | e
    · exact e
    · rw [List.getElem?_eq_none (by simpa using e)] at hj; cases hj
  obtain ⟨b, off, e⟩ := h.some' (by omega)
  cases e
  have e1 := h.cells j hlt
  rw [show (⟨b, off, none⟩ : Addr).add j = ⟨b, off + j, none⟩ by simp [Addr.add], e1]
  rw [List.getElem?_map, List.getElem?_eq_getElem hlt] at hj
  rw [List.getD_eq_getElem?_getD, List.getElem?_eq_getElem hlt]
  exact hj

set_option maxHeartbeats 1000000 in
theorem setClone_any (ad : Addr) (cap : Nat) (zs : List Int) (w : World) (h : Row w (some ad) cap zs) (hsz : zs.length ≤ 140737488355328) :
    Calls Try.prog 44 #[.slice (some ad) zs.length cap] w fun e w' => ∃ g c, e = .returned (.slice (some ⟨g, 0, none⟩) zs.length c) ∧ Own w.heap.size w' (.slice (some ⟨g, 0, none⟩) zs.length c) zs ∧ Below w.heap.size w w' := by
  obtain ⟨i0, hi, hz0, hz1, hz2⟩ := info_parts info5
  have hm : zs.length ≤ maxLen := Nat.le_trans h.2.1 h.2.2.1
  have hr := h.below ((Below.refl w.heap.size w).alloc (Nat.le_refl _) (.cells #[] 5))
  have ho : (w.alloc (.cells #[] 5)).ownsRow w.heap.size 5 1 (.slice (some ⟨w.heap.size, 0, none⟩) 0 0) 0 [] := World.ownsRow_made w #[] 0 (Nat.le_refl _) (by simp [maxLen]) rfl
  have HN : Hid (∀ (j : Nat) (u : Value), (zs.map (Value.int .u8))[j]? = some u → (w.alloc (.cells #[] 5)).cell? (ad.add j) = some u) := row_srcA hr
  clear h hr
  have hq := nil_set w (some ad) zs.length cap
  go_enter Try.func44, Try.ntmps44
  go_wp2_with (at_builtin; refine wpList_append_own _ rfl _ _ 55 rfl w.heap.size 5 i0 (.int .u8 0) 1 1 Try.underlying55 hi hz0 hz1 hz2 rfl (by decide) _ _ _ rfl ho ad zs.length cap (zs.map (Value.int .u8)) rfl (by simp) HN.out (one_cells' zs) (by omega) (by omega) (by simp) ?_)
  intro v' w1 hown' hgrow hnil
  have hb : Below w.heap.size w w1 := ((Below.refl w.heap.size w).alloc (Nat.le_refl _) _).grown hgrow (by simp) (fun k hk => by simp [Value.ownBlock] at hk; omega)
  have hv : ∃ g c, v' = .slice (some ⟨g, 0, none⟩) zs.length c := by
    rcases hown'.2 with ⟨e, _⟩ | ⟨g, c, cur, e, _⟩
    · exact (hnil e).elim
    · exact ⟨g, c, e⟩
  obtain ⟨g, c, hv⟩ := hv
  have HO : Hid (Own w.heap.size w1 (.slice (some ⟨g, 0, none⟩) zs.length c) zs) := by
    rw [← hv]
    exact hown'
  clear hown' hgrow hnil HN ho
  rw [hv]
  go_wp2
  go_ret
  exact ⟨g, c, rfl, HO.out, hb⟩

section
variable {w w' : World} {s a ca b cb : Nat} {F : Nat → Prop} {S : List Int}

theorem bits_any (h : Spa w s F S) : Calls Try.prog 28 #[.pointer (some ⟨s, 0, none⟩)] w fun e w' => ∃ g c, e = .returned (.slice (some ⟨g, 0, none⟩) ((S.length + 7) / 8) c) ∧ Own w.heap.size w' (.slice (some ⟨g, 0, none⟩) ((S.length + 7) / 8) c) (bitL S) ∧ Below w.heap.size w w' := by
  obtain ⟨a, ca, b, cb, h⟩ := h
  have hm := made_any h
  obtain ⟨-, -, c2⟩ := h.at
  have hc := setClone_any ⟨b, 0, none⟩ cb (bitL S) w h.rowB (by rw [bitL_len]; have := h.ok.hi; omega)
  rw [bitL_len] at hc
  obtain ⟨n, hn⟩ : ∃ n, (S.length + 7) / 8 = n := ⟨_, rfl⟩
  rw [hn] at c2 hc ⊢
  clear h hn
  go_enter Try.func28, Try.ntmps28
  go_wp2_with (first | (go_at_call 36; refine hm.mono ?_; rintro e w' ⟨rfl, rfl⟩) | (go_at_call 44; refine hc.mono ?_; rintro e w1 ⟨g, c, rfl, ho, hb⟩; have HO : Hid _ := ho; have HB : Hid _ := hb; clear ho hb))
  go_ret
  exact ⟨g, c, rfl, HO.out, HB.out⟩

/-- A space that has just been laid. -/
theorem SpX.new {w1 w2 : World} {g1 c1 g2 c2 : Nat} (hS : SpOk S) (o1 : Own w.heap.size w1 (.slice (some ⟨g1, 0, none⟩) ((S.length + 7) / 8) c1) (lasL S)) (b1 : Below w.heap.size w w1) (o2 : Own w1.heap.size w2 (.slice (some ⟨g2, 0, none⟩) ((S.length + 7) / 8) c2) (bitL S)) (b2 : Below w1.heap.size w1 w2) :
    Spa (w2.alloc (.cells #[.int .i64 S.length, .slice (some ⟨g1, 0, none⟩) ((S.length + 7) / 8) c1, .slice (some ⟨g2, 0, none⟩) ((S.length + 7) / 8) c2] 59)) w2.heap.size (fun k => w.heap.size ≤ k ∧ k ≤ w2.heap.size) S ∧ Below w.heap.size w (w2.alloc (.cells #[.int .i64 S.length, .slice (some ⟨g1, 0, none⟩) ((S.length + 7) / 8) c1, .slice (some ⟨g2, 0, none⟩) ((S.length + 7) / 8) c2] 59)) := by
  have l1 := o1.lt2
  have l2 := o2.lt2
  have s1 := b1.size
  have s2 := b2.size
  have hc := heap_alloc_new w2 (.cells #[.int .i64 S.length, .slice (some ⟨g1, 0, none⟩) ((S.length + 7) / 8) c1, .slice (some ⟨g2, 0, none⟩) ((S.length + 7) / 8) c2] 59)
  have hlt := heap_lt hc
  have hb : Below w.heap.size w w2 := b1.trans (b2.mono s1)
  have bl := (Below.refl w2.heap.size w2).alloc (Nat.le_refl _) (.cells #[.int .i64 S.length, .slice (some ⟨g1, 0, none⟩) ((S.length + 7) / 8) c1, .slice (some ⟨g2, 0, none⟩) ((S.length + 7) / 8) c2] 59)
  refine ⟨⟨g1, c1, g2, c2, fun k hk => Nat.lt_of_le_of_lt hk.2 hlt, ⟨by omega, Nat.le_refl _⟩, ⟨by omega, by omega⟩, ⟨by omega, by omega⟩, hS, hc, ?_, ?_, by omega, by omega, by omega⟩, hb.alloc hb.size _⟩
  · exact (o1.zero.kept (b2.block g1 l1.2)).kept (bl.block g1 (by omega))
  · exact o2.zero.kept (bl.block g2 l2.2)

set_option maxHeartbeats 1000000 in
/-- A space of which just the pages of a row of bits are used. -/
theorem using_any (ad : Addr) (cap : Nat) (zs : List Int) (w : World) (n : Nat) (hS : SpOk S) (hn : S.length = n) (e1 : lasL S = zs) (e2 : bitL S = zs) (h : Row w (some ad) cap zs) :
    Calls Try.prog 35 #[.int .i64 n, .slice (some ad) zs.length cap] w fun e w' => ∃ s F, e = .returned (.pointer (some ⟨s, 0, none⟩)) ∧ Spa w' s F S ∧ Below w.heap.size w w' ∧ ∀ k, F k → w.heap.size ≤ k := by
  have hl : zs.length = (S.length + 7) / 8 := by rw [← e1, lasL_len]
  have hc1 := setClone_any ad cap zs w h (by have := hS.hi; omega)
  have HC2 : Hid (∀ w', Below w.heap.size w w' → Calls Try.prog 44 #[.slice (some ad) zs.length cap] w' fun e w'' => ∃ g c, e = .returned (.slice (some ⟨g, 0, none⟩) zs.length c) ∧ Own w'.heap.size w'' (.slice (some ⟨g, 0, none⟩) zs.length c) zs ∧ Below w'.heap.size w' w'') := fun w' hb => setClone_any ad cap zs w' (h.below hb) (by have := hS.hi; omega)
  have HS : Hid (SpOk S ∧ S.length = n ∧ lasL S = zs ∧ bitL S = zs ∧ zs.length = (S.length + 7) / 8) := ⟨hS, hn, e1, e2, hl⟩
  obtain ⟨m, hm⟩ : ∃ m, zs.length = m := ⟨_, rfl⟩
  rw [hm] at hc1 HC2 HS ⊢
  clear h hS hn e1 e2 hl hm
  go_enter Try.func35, Try.ntmps35
  go_wp2_with (first | (go_at_call 44; refine hc1.mono ?_; clear hc1; rintro e w1 ⟨g1, c1, rfl, o1, b1⟩; have O1 : Hid _ := o1; have B1 : Hid _ := b1; clear o1 b1) | (go_at_call 44; refine (HC2.out _ B1.out).mono ?_; clear HC2; rintro e w2 ⟨g2, c2, rfl, o2, b2⟩; have O2 : Hid _ := o2; have B2 : Hid _ := b2; clear o2 b2))
  go_ret
  obtain ⟨hS, hn, e1, e2, hl⟩ := HS.out
  have := SpX.new (w := w) (w1 := w1) (w2 := w2) (g1 := g1) (c1 := c1) (g2 := g2) (c2 := c2) hS (by rw [e1, ← hl]; exact O1.out) B1.out (by rw [e2, ← hl]; exact O2.out) B2.out
  rw [hn] at this
  rw [hn] at hl
  rw [← hl] at this
  exact ⟨_, _, rfl, this.1, this.2, fun k hk => hk.1⟩
end
end Go.Proofs.Ytdmahobldghojaa.Oct.Sps
