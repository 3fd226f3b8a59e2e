/-
  What a chain keeps, of whatever make it is; the statements' pages and awake.
-/
import Derived.Test.YtbamdcjhcmogbaaKf
import Derived.Test.YtbamdcjhcmogbaaOg
import Derived.Test.YtbamdcjhcmogbaaSm
namespace Go.Proofs.Ytbamdcjhcmogbaa.Oct
open Go.RowKit

/-- How a page of a chain is read. -/
def PtR (w : World) (zs : List Int) (e : Ending) (w' : World) : Prop := ∃ g c, e = .returned (.tuple #[.slice g (ptL zs).length c, .int .i64 (ptN zs), .int .i64 (ptE zs)]) ∧ (g = none → c = 0) ∧ Row w' g c (ptL zs) ∧ Below w.heap.size w w'

/-- What each call of a chain does. -/
structure ChC : Prop where
  need : ∀ (n : Int) (w : World), -9223372036854775808 ≤ n ∧ n ≤ 9223372036854775807 → Calls Try.prog 10 #[.int .i64 n] w fun e w' => e = .returned (.int .i64 (nedI n)) ∧ Below w.heap.size w w'
  cut : ∀ (a : Option Addr) (cap : Nat) (zs : List Int) (pa : Option Addr) (pcap : Nat) (pg : List Int) (w : World), Row w a cap zs → (a = none → cap = 0) → RowI w pa pcap pg → (∀ z ∈ pg, -9223372036854775808 ≤ z ∧ z ≤ 9223372036854775807) → zs.length ≤ 1000000 → pg.length ≤ 1000000 → Calls Try.prog 9 #[.slice a zs.length cap, .slice pa pg.length pcap] w (CtR w zs pg)
  part : ∀ (a : Option Addr) (cap : Nat) (zs : List Int) (w : World), Row w a cap zs → (a = none → cap = 0) → zs.length ≤ 1000000 → Calls Try.prog 14 #[.slice a zs.length cap] w (PtR w zs)

theorem ctL_at {zs pg : List Int} {i : Nat} (h : i < pg.length) : (ctL zs pg).getD i [] = sealL (cpg zs pg i) := by
  unfold ctL
  rw [List.getD_eq_getElem?_getD, List.getElem?_eq_getElem (by simpa using h)]
  simp
theorem ctL_bys {zs pg : List Int} (h : Bys zs) : ∀ l ∈ ctL zs pg, Bys l := fun l hl => by
  obtain ⟨i, _, rfl⟩ := List.mem_map.1 hl
  exact seal_bys (cpg_bys h i)
theorem ctZ_bys {zs pg : List Int} (h : Bys zs) : ∀ l ∈ ctZ zs pg, Bys l := by
  unfold ctZ
  split
  · exact ctL_bys h
  · intro l hl; cases hl

theorem lists_eq {L1 L2 : List (List Int)} (hl : L1.length = L2.length) (h : ∀ i, i < L1.length → L1.getD i [] = L2.getD i []) : L1 = L2 := by
  refine List.ext_getElem hl fun i h1 h2 => ?_
  have := h i h1
  rw [List.getD_eq_getElem?_getD, List.getD_eq_getElem?_getD, List.getElem?_eq_getElem h1, List.getElem?_eq_getElem h2] at this
  exact this

set_option maxHeartbeats 2000000 in
set_option maxRecDepth 20000 in
theorem pages_any {b1 b2 : Nat} {w : World} {v1 v2 : Value} {L1 L2 : List (List Int)} (h1 : PgL b1 w v1 L1) (h2 : PgL b2 w v2 L2) (hb1 : ∀ l ∈ L1, Bys l) (hb2 : ∀ l ∈ L2, Bys l) :
    Calls Try.prog 12 #[v1, v2] w fun e w' => e = .returned (.bool (decide (L1 = L2))) ∧ Below w.heap.size w w' := by
  obtain ⟨a1, p1, rfl, hl1, hm1⟩ := h1.slice
  obtain ⟨a2, p2, rfl, hl2, hm2⟩ := h2.slice
  have hx1 := Nat.le_trans hl1 hm1
  have hx2 := Nat.le_trans hl2 hm2
  unfold maxLen at hm1 hm2 hx1 hx2
  have H1 : Hid (PgL b1 w (.slice a1 L1.length p1) L1) := h1
  have H2 : Hid (PgL b2 w (.slice a2 L2.length p2) L2) := h2
  have HB1 : Hid (∀ l ∈ L1, Bys l) := hb1
  have HB2 : Hid (∀ l ∈ L2, Bys l) := hb2
  clear h1 h2 hb1 hb2
  by_cases hlen : L1.length = L2.length
  rotate_left
  · have HE : Hid (decide (L1 = L2) = false) := decide_eq_false fun e => hlen (by rw [e])
    have hne : ((L1.length : Int) != (L2.length : Int)) = true := by simp; omega
    clear hlen
    go_enter Try.func12, Try.ntmps12
    go_wp2
    go_ret
    exact ⟨by rw [HE.out]; rfl, Below.refl _ _⟩
  have HL : Hid (L1.length = L2.length) := hlen
  rw [← hlen] at H2 hl2 hx2 ⊢
  clear hlen
  go_enter Try.func12, Try.ntmps12
  go_wp2
  go_loopw [5] (fun i wr => ∃ k : Nat, k ≤ L1.length ∧ i = .int .i64 k ∧ Hid ((∀ j, j < k → L1.getD j [] = L2.getD j []) ∧ Below w.heap.size w wr)) (fun i _ => L1.length - (intOf i).toNat)
  case atStart => exact ⟨0, Nat.zero_le _, rfl, (by show _ ∧ _; exact ⟨fun i hi => by omega, Below.refl _ _⟩)⟩
  case round =>
    obtain ⟨k, hk, rfl, HI⟩ := hrel
    by_cases hlt : k < L1.length
    · obtain ⟨q1, pp1, g1, c1, e1, -, -, d1, o1, -⟩ := (H1.out.below HI.out.2).at k hlt
      obtain ⟨q2, pp2, g2, c2, e2, -, -, d2, o2, -⟩ := (H2.out.below HI.out.2).at k (by have := HL.out; omega)
      simp only [Value.slice.injEq] at e1 e2
      obtain ⟨rfl, -, rfl⟩ := e1
      obtain ⟨rfl, -, rfl⟩ := e2
      have mem1 : L1.getD k [] ∈ L1 := by rw [List.getD_eq_getElem?_getD, List.getElem?_eq_getElem hlt]; exact List.getElem_mem hlt
      have mem2 : L2.getD k [] ∈ L2 := by rw [List.getD_eq_getElem?_getD, List.getElem?_eq_getElem (by have := HL.out; omega)]; exact List.getElem_mem _
      have hsm := same_any _ _ _ _ _ _ wr.drew (((o1.row' (HB1.out _ mem1)).2).below (Below.refl _ _).drew) (((o2.row' (HB2.out _ mem2)).2).below (Below.refl _ _).drew)
      obtain ⟨x, hx⟩ : ∃ x, L1.getD k [] = x := ⟨_, rfl⟩
      obtain ⟨y, hy⟩ : ∃ y, L2.getD k [] = y := ⟨_, rfl⟩
      have HXY : Hid (L1.getD k [] = x ∧ L2.getD k [] = y) := ⟨hx, hy⟩
      rw [hx] at d1 hsm
      rw [hy] at d2 hsm
      clear o1 o2 mem1 mem2 hx hy
      go_wp2_with fail
      go_still_tail 8, (by kernel_rfl)
      go_wp2_with fail
      refine hsm.mono ?_
      clear hsm
      rintro e w2 ⟨rfl, hb2⟩
      have HBz : Hid (Below w.heap.size w w2) := (HI.out.2.drew).trans (hb2.mono HI.out.2.size)
      clear hb2
      by_cases e : x = y
      · have HS : Hid (L1.getD k [] = L2.getD k []) := by show _ = _; rw [HXY.out.1, HXY.out.2]; exact e
        rw [show sameB x y = true from decide_eq_true e]
        clear e
        go_wp2
        go_roundw
        case rel => exact ⟨k + 1, by omega, by go_num, (by show _ ∧ _; exact ⟨fun j hj => (by rcases Nat.lt_succ_iff_lt_or_eq.1 hj with h | rfl; exact HI.out.1 j h; exact HS.out), HBz.out⟩)⟩
        case measure => simp [intOf]; omega
      · have HE : Hid (decide (L1 = L2) = false) := decide_eq_false fun e2 => e (by rw [← HXY.out.1, ← HXY.out.2, e2])
        rw [show sameB x y = false from decide_eq_false e]
        clear e
        go_wp2
        go_ret
        exact ⟨by rw [HE.out]; rfl, HBz.out⟩
    · have HE : Hid (decide (L1 = L2) = true) := decide_eq_true (lists_eq HL.out fun j hj => HI.out.1 j (by omega))
      go_wp2
      go_ret
      exact ⟨by rw [HE.out]; rfl, HI.out.2⟩

/-- The pages of awake. -/
theorem ok59 : CtOk [5, 9] := ctB_iff.1 (by decide)
theorem row_ints2 (w : World) (x y : Int) : RowI (w.alloc (.cells #[.int .i64 x, .int .i64 y] 3)) (some ⟨w.heap.size, 0, none⟩) 2 [x, y] := by
  refine ⟨Nat.le_refl _, by simp [maxLen], .inr ⟨_, _, rfl, fun i hi => ?_⟩⟩
  rw [World.cell?_alloc_at _ _ _ _ rfl]
  match i, hi with
  | 0, _ => rfl
  | 1, _ => rfl

set_option maxHeartbeats 2000000 in
set_option maxRecDepth 20000 in
/-- The statements' awake. -/
theorem awake11 (X : ChC) (w : World) : Calls Try.prog 8 #[] w fun e w' => e = .returned (.bool true) ∧ Below w.heap.size w w' := by
  obtain ⟨i0, hi0, hz0, hz1, hz2⟩ := info_parts info5
  go_enter Try.func8, Try.ntmps8
  go_wp2_with (at_make; refine wpList_make_full _ rfl _ _ 27 rfl w.heap.size 5 i0 (.int .u8 0) 1 Try.underlying27 hi0 hz0 hz1 .i64 .i64 _ _ 245 rfl rfl rfl rfl (by rw [hz2]; omega) (by simp [maxLen]) (Nat.le_refl _) ?_; intro w1 hown1 hgrow1; have HB1 : Hid (Below w.heap.size w w1) := (Below.refl _ w).grown hgrow1 (Nat.le_refl _) (by simp); have HO1 : Hid (Own w.heap.size w1 (.slice (some ⟨w.heap.size, 0, none⟩) 245 245) (List.replicate 245 0)) := made_own hown1; clear hown1 hgrow1)
  have hb2 : Below w1.heap.size w1 (w1.alloc (.cells #[.int .i64 5, .int .i64 9] 3)) := (Below.refl _ w1).alloc (Nat.le_refl _) _
  have hc := X.cut (some ⟨w.heap.size, 0, none⟩) 245 (List.replicate 245 0) (some ⟨w1.heap.size, 0, none⟩) 2 [5, 9] _ (((HO1.out.row' (bys_rep _)).2).below hb2) (by intro e; cases e) (row_ints2 w1 5 9) (by simp) (by simp) (by simp)
  rw [List.length_replicate, show ([5, 9] : List Int).length = 2 from rfl] at hc
  have HB2 : Hid (Below w.heap.size w (w1.alloc (.cells #[.int .i64 5, .int .i64 9] 3))) := HB1.out.trans (hb2.mono HB1.out.size)
  refine hc.mono ?_
  clear hc hb2
  rintro e w3 ⟨v, rfl, hp3, hb3⟩
  have HB3 : Hid (Below w.heap.size w w3) := HB2.out.trans (hb3.mono HB2.out.size)
  have hE : ctE (List.replicate 245 0) [5, 9] = 0 := ctE_ok (by rw [List.length_replicate]; rfl) ok59 (by rw [List.length_replicate]; omega)
  rw [show ctZ (List.replicate 245 0) [5, 9] = ctL (List.replicate 245 0) [5, 9] from if_pos hE] at hp3
  rw [hE]
  have hl2 : (ctL (List.replicate 245 0) [5, 9]).length = 2 := ctL_len _ _
  obtain ⟨q, cp, g, c, rfl, hq1, hq2, d0, o0, -⟩ := hp3.at 0 (by rw [hl2]; omega)
  rw [hl2] at hq1 ⊢
  rw [ctL_at (by simp), cpg_256] at d0 o0
  unfold maxLen at hq2
  have hby : Bys (sealL (cpg (List.replicate 245 0) [5, 9] 0)) := seal_bys (cpg_bys (bys_rep _) 0)
  have hpt := X.part (some ⟨g, 0, none⟩) c (sealL (cpg (List.replicate 245 0) [5, 9] 0)) w3 (o0.row' hby).2 (by intro e; cases e) (by rw [cpg_256]; omega)
  rw [cpg_256] at hpt
  clear hp3 hb3 o0 hby hl2 hE
  go_wp2_with fail
  refine hpt.mono ?_
  clear hpt
  rintro e w4 ⟨g4, c4, rfl, -, -, hb4⟩
  have HB4 : Hid (Below w.heap.size w w4) := HB3.out.trans (hb4.mono HB3.out.size)
  obtain ⟨e1, e2, e3⟩ := part_cpg (zs := List.replicate 245 0) (pg := [5, 9]) (k := 0) (bys_rep _) ok59 (by rw [List.length_replicate]; rfl) (by simp)
  rw [e1, e2, e3, prt_len, List.length_replicate, show nxt [5, 9] 0 = 9 from rfl, show min 244 (245 - 0 * 244) = 244 from rfl]
  clear hb4 e1 e2 e3
  go_wp2
  go_ret
  exact ⟨rfl, HB4.out⟩
end Go.Proofs.Ytbamdcjhcmogbaa.Oct
