/-
  bytes.Clone; device's small functions: allowed, holding, New, Load, made, Pages, has, Ops, Dead, Image.
-/
import Derived.Test.YtojckbhbnalkeaaGreatGa
import Derived.Laws.AppendOwnNone
import Derived.Laws.EntriesVeiled
import Derived.Lib.SliceRun
namespace Go.Proofs.YtojckbhbnalkeaaGreat.Oct
open Go.RowKit

theorem row_news {w : World} {ad : Addr} {c : Nat} {zs : List Int} (h : Row w (some ad) c zs) : ∀ (j : Nat) (u : Value), (zs.map (Value.int .u8))[j]? = some u → w.cell? (ad.add j) = some u := by
  intro j u hj
  rw [List.getElem?_map] at hj
  have hlt : j < zs.length := by
    by_cases hlt : j < zs.length
    · exact hlt
    · rw [List.getElem?_eq_none (by omega)] at hj; exact absurd hj (by simp)
  rcases h.2.2.2 with h | ⟨b, off, e, hc⟩
  · rw [h] at hlt; exact absurd hlt (by simp)
  · simp only [Option.some.injEq] at e
    subst e
    have e2 : (⟨b, off, none⟩ : Addr).add j = ⟨b, off + j, none⟩ := by simp [Addr.add]
    rw [e2, hc j hlt, ← hj, List.getD_eq_getElem?_getD, List.getElem?_eq_getElem hlt]
    rfl

theorem one_cells (zs : List Int) : ∀ u ∈ zs.map (Value.int .u8), u.oneCell' = true := by
  intro u hu
  obtain ⟨z, _, rfl⟩ := List.mem_map.1 hu
  rfl

def aB (n : Int) : Bool := decide (8 ≤ n ∧ n ≤ 4096)

theorem allowed_any (n : Int) (w : World) : Calls Tryz.prog 38 #[.int .i64 n] w fun e w' => e = .returned (.bool (aB n)) ∧ w = w' := by
  have ht : ∀ (b : Bool), b = aB n → Ending.returned (.bool b) = .returned (.bool (aB n)) := fun b h => by rw [h]
  by_cases h1 : 8 ≤ n
  · by_cases h2 : n ≤ 4096
    · go_enter Tryz.func38, Tryz.ntmps38
      go_wp2
      go_ret
      exact ⟨ht _ (by simp [aB]; omega), rfl⟩
    · go_enter Tryz.func38, Tryz.ntmps38
      go_wp2
      go_ret
      exact ⟨ht _ (by simp [aB]; omega), rfl⟩
  · go_enter Tryz.func38, Tryz.ntmps38
    go_wp2
    go_ret
    exact ⟨ht _ (by simp [aB]; omega), rfl⟩

theorem nil_slice (w : World) (a : Option Addr) (n c : Nat) : (binOp .eql 38 (.slice a n c) (.slice none 0 0)).run Tryz.prog w = .ok (.bool a.isNone) w := Lib.run_eql_slice_nil w 38 5 a n c 0 0 Tryz.underlying38

set_option maxHeartbeats 1000000 in
theorem clone_some (ad : Addr) (cap : Nat) (zs : List Int) (w : World) (h : Row w (some ad) cap zs) (hsz : zs.length ≤ 140737488355328) :
    Calls Tryz.prog 46 #[.slice (some ad) zs.length cap] w fun e w' => ∃ g c, e = .returned (.slice (some ⟨g, 0, none⟩) zs.length c) ∧ Own w.heap.size w' (.slice (some ⟨g, 0, none⟩) zs.length c) zs ∧ Below w.heap.size w w' := by
  obtain ⟨i0, hi, hz0, hz1, hz2⟩ := info_parts info5
  have hm : zs.length ≤ maxLen := Nat.le_trans h.2.1 h.2.2.1
  have hr := h.below ((Below.refl w.heap.size w).alloc (Nat.le_refl _) (.cells #[] 5))
  have hn := row_news hr
  have ho : (w.alloc (.cells #[] 5)).ownsRow w.heap.size 5 1 (.slice (some ⟨w.heap.size, 0, none⟩) 0 0) 0 [] := World.ownsRow_made w #[] 0 (Nat.le_refl _) (by simp [maxLen]) rfl
  have HN : Hid (∀ (j : Nat) (u : Value), (zs.map (Value.int .u8))[j]? = some u → (w.alloc (.cells #[] 5)).cell? (ad.add j) = some u) := hn
  clear h hr hn
  have hq := nil_slice w (some ad) zs.length cap
  go_enter Tryz.func46, Tryz.ntmps46
  go_wp2_with (at_builtin; refine wpList_append_own _ rfl _ _ 38 rfl w.heap.size 5 i0 (.int .u8 0) 1 1 Tryz.underlying38 hi hz0 hz1 hz2 rfl (by decide) _ _ _ rfl ho ad zs.length cap (zs.map (Value.int .u8)) rfl (by simp) HN.out (one_cells zs) (by omega) (by omega) (by simp) ?_)
  intro v' w1 hown' hgrow hnil
  have hb : Below w.heap.size w w1 := ((Below.refl w.heap.size w).alloc (Nat.le_refl _) _).grown hgrow (by simp) (fun k hk => by simp [Value.ownBlock] at hk; omega)
  have hv : ∃ g c, v' = .slice (some ⟨g, 0, none⟩) zs.length c := by
    rcases hown'.2 with ⟨e, _⟩ | ⟨g, c, cur, e, _⟩
    · exact (hnil e).elim
    · exact ⟨g, c, e⟩
  obtain ⟨g, c, hv⟩ := hv
  have HO : Hid (Own w.heap.size w1 (.slice (some ⟨g, 0, none⟩) zs.length c) zs) := by
    rw [← hv]
    exact hown'
  clear hown' hgrow hnil HN ho
  rw [hv]
  go_wp2
  go_ret
  exact ⟨g, c, rfl, HO.out, hb⟩

theorem clone_none (w : World) : Calls Tryz.prog 46 #[.slice none 0 0] w fun e w' => e = .returned (.slice none 0 0) ∧ w = w' := by
  have hq := nil_slice w none 0 0
  go_enter Tryz.func46, Tryz.ntmps46
  go_wp2
  go_ret
  exact ⟨rfl, rfl⟩

theorem Own.lt2 {base g n cap : Nat} {w : World} {zs : List Int} (h : Own base w (.slice (some ⟨g, 0, none⟩) n cap) zs) : base ≤ g ∧ g < w.heap.size := World.ownsRow.lt h g rfl

theorem Own.kept {base g n cap : Nat} {w w' : World} {zs : List Int} (h : Own base w (.slice (some ⟨g, 0, none⟩) n cap) zs) (k : w'.heap[g]? = w.heap[g]?) : Own base w' (.slice (some ⟨g, 0, none⟩) n cap) zs :=
  owns_keep h (fun x hx => by simp [Value.ownBlock] at hx; rw [← hx]; exact k)

theorem Own.zero {base g n cap : Nat} {w : World} {zs : List Int} (h : Own base w (.slice (some ⟨g, 0, none⟩) n cap) zs) : Own 0 w (.slice (some ⟨g, 0, none⟩) n cap) zs :=
  owns_base h (fun _ _ => Nat.zero_le _)

theorem newDev {w0 w : World} {p gN gL cN cL : Nat} {zs : List Int} (hw : w0.heap.size ≤ w.heap.size) (h1 : Own w0.heap.size w (.slice (some ⟨gN, 0, none⟩) zs.length cN) zs) (h2 : Own w0.heap.size w (.slice (some ⟨gL, 0, none⟩) zs.length cL) zs) (hNL : gN ≠ gL) (hp : p = w.heap.size)
    (hb : Bys zs) (n : Nat) (hl : zs.length = n * 256) (h8 : 8 ≤ n) (h4 : n ≤ 4096) :
    Dev (w.alloc (.cells #[.slice (some ⟨gN, 0, none⟩) zs.length cN, .slice (some ⟨gL, 0, none⟩) zs.length cL, .slice none 0 0, .slice none 0 0, .int .i64 (-1), .int .i64 0, .bool false] 89)) p (fun k => w0.heap.size ≤ k ∧ k ≤ w.heap.size) (newD zs) := by
  subst hp
  have l1 := h1.lt2
  have l2 := h2.lt2
  refine ⟨newD_ok hb n hl h8 h4, fun k hk => by simp; omega, gN, gL, cN, cL, _, _, -1, ⟨heap_alloc_new w _, (h1.kept (Below.heap_alloc w _ gN l1.2)).zero, (h2.kept (Below.heap_alloc w _ gL l2.2)).zero, World.ownsRow_nil _ _ _ _, .inl ⟨rfl, rfl⟩, by decide, by decide, rfl, by omega, by omega, hNL, by simp [Value.ownBlock], by simp [Value.ownBlock], by simp [Value.ownBlock], by simp [Value.ownBlock], by simp [Value.ownBlock], by simp [Value.ownBlock], fun g hg => by simp [Value.ownBlock] at hg⟩, fun k hk => ?_⟩
  rcases hk with rfl | rfl | rfl | hk | hk
  · exact ⟨hw, Nat.le_refl _⟩
  · omega
  · omega
  · simp [Value.ownBlock] at hk
  · simp [Value.ownBlock] at hk

set_option maxHeartbeats 1000000 in
theorem holding_any (ad : Addr) (cap : Nat) (zs : List Int) (w : World) (h : Row w (some ad) cap zs) (n : Nat) (hl : zs.length = n * 256) (h8 : 8 ≤ n) (h4 : n ≤ 4096) :
    Calls Tryz.prog 39 #[.slice (some ad) zs.length cap] w fun e w' => ∃ p F, e = .returned (.pointer (some ⟨p, 0, none⟩)) ∧ Dev w' p F (newD zs) ∧ Below w.heap.size w w' ∧ ∀ k, F k → w.heap.size ≤ k := by
  have hsz : zs.length ≤ 140737488355328 := by omega
  have c1 := clone_some ad cap zs w h hsz
  have c2 : ∀ w1, Below w.heap.size w w1 → Calls Tryz.prog 46 #[.slice (some ad) zs.length cap] w1 fun e w' => ∃ g c, e = .returned (.slice (some ⟨g, 0, none⟩) zs.length c) ∧ Own w1.heap.size w' (.slice (some ⟨g, 0, none⟩) zs.length c) zs ∧ Below w1.heap.size w1 w' := fun w1 hb => clone_some ad cap zs w1 (h.below hb) hsz
  have hby := h.1
  have HL : Hid (zs.length = n * 256) := hl
  clear h hl
  go_enter Tryz.func39, Tryz.ntmps39
  go_wp2_with fail
  refine c1.mono ?_
  clear c1
  rintro e w1 ⟨g1, k1, rfl, ho1, hb1⟩
  go_wp2_with fail
  refine (c2 w1 hb1).mono ?_
  clear c2
  rintro e w2 ⟨g2, k2, rfl, ho2, hb2⟩
  have l1 := ho1.lt2
  have l2 := ho2.lt2
  have s1 := hb1.size
  have s2 := hb2.size
  have HD := newDev (p := w2.heap.size) (w0 := w) (w := w2) (by omega) (ho1.kept (hb2.block g1 l1.2)) (owns_base ho2 (fun g hg => by simp [Value.ownBlock] at hg; omega)) (by omega) rfl hby n HL.out h8 h4
  have HB : Hid (Below w.heap.size w (w2.alloc (.cells #[.slice (some ⟨g1, 0, none⟩) zs.length k1, .slice (some ⟨g2, 0, none⟩) zs.length k2, .slice none 0 0, .slice none 0 0, .int .i64 (-1), .int .i64 0, .bool false] 89))) := (hb1.trans (hb2.mono s1)).alloc (by omega) _
  have H2 := HD
  clear ho1 ho2 hb1 hb2 HL HD
  have HD : Hid _ := H2
  clear H2
  go_wp2
  go_ret
  exact ⟨w2.heap.size, _, rfl, HD.out, HB.out, fun k hk => hk.1⟩
end Go.Proofs.YtojckbhbnalkeaaGreat.Oct

/-
  device.New, Load; made, Pages, has, Ops, Dead, Image.
-/
namespace Go.Proofs.YtojckbhbnalkeaaGreat.Oct
open Go.RowKit

theorem new_no (n : Int) (w : World) (h : aB n = false) : Calls Tryz.prog 6 #[.int .i64 n] w fun e w' => e = .returned (.tuple #[.pointer none, .int .i64 1]) ∧ w = w' := by
  go_enter Tryz.func6, Tryz.ntmps6
  go_wp2_with (go_at_call 38; refine (allowed_any _ _).mono ?_; rintro e w' ⟨rfl, rfl⟩)
  go_ret2
  exact ⟨rfl, rfl⟩

theorem made_own {B g N : Nat} {w : World} (h : w.ownsRow B 5 1 (.slice (some ⟨g, 0, none⟩) N N) N (madeCells (Value.int .u8 0).cells (N * 1)).toList) : Own B w (.slice (some ⟨g, 0, none⟩) N N) (List.replicate N 0) := by
  unfold Own
  rw [show (Value.int .u8 0).cells = #[Value.int .u8 0] from rfl, toList_madeCells_one, Nat.mul_one] at h
  rw [List.length_replicate, List.map_replicate]
  exact h

theorem bys_rep (n : Nat) : Bys (List.replicate n 0) := fun z hz => by rw [(List.mem_replicate.1 hz).2]; omega

set_option maxHeartbeats 1000000 in
theorem new_yes (n : Nat) (w : World) (h8 : 8 ≤ n) (h4 : n ≤ 4096) :
    Calls Tryz.prog 6 #[.int .i64 n] w fun e w' => ∃ p F, e = .returned (.tuple #[.pointer (some ⟨p, 0, none⟩), .int .i64 0]) ∧ Dev w' p F (newD (List.replicate (n * 256) 0)) ∧ Below w.heap.size w w' ∧ ∀ k, F k → w.heap.size ≤ k := by
  obtain ⟨i0, hi0, hz0, hz1, hz2⟩ := info_parts info5
  have ha : aB n = true := by simp [aB]; omega
  have c1 : ∀ (ad : Addr) (cap : Nat) (w1 : World), Row w1 (some ad) cap (List.replicate (n * 256) 0) → Calls Tryz.prog 39 #[.slice (some ad) (n * 256) cap] w1 fun e w' => ∃ p F, e = .returned (.pointer (some ⟨p, 0, none⟩)) ∧ Dev w' p F (newD (List.replicate (n * 256) 0)) ∧ Below w1.heap.size w1 w' ∧ ∀ k, F k → w1.heap.size ≤ k := fun ad cap w1 hr => by
    have := holding_any ad cap _ w1 hr n (by simp) h8 h4
    rwa [List.length_replicate] at this
  have hm : n * 256 ≤ maxLen := by unfold maxLen; omega
  have hk : ((n : Int) * 256) = ((n * 256 : Nat) : Int) := by omega
  obtain ⟨N, hN⟩ : ∃ N, n * 256 = N := ⟨_, rfl⟩
  have h8' : 2048 ≤ N := by omega
  have h4' : N ≤ 1048576 := by omega
  rw [hN] at c1 hk hm
  have HN : Hid (n * 256 = N) := hN
  clear hN
  rw [show n * 256 = N from HN.out]
  go_enter Tryz.func6, Tryz.ntmps6
  go_wp2_with (first | (go_at_call 38; refine (allowed_any _ _).mono ?_; rintro e w' ⟨rfl, rfl⟩) | (at_make; refine wpList_make_full _ rfl _ _ 38 rfl w.heap.size 5 i0 (.int .u8 0) 1 Tryz.underlying38 hi0 hz0 hz1 .i64 .i64 _ _ N rfl rfl rfl rfl (by rw [hz2]; omega) hm (Nat.le_refl _) ?_; intro w1 hown1 hgrow1))
  have hb1 : Below w.heap.size w w1 := (Below.refl _ w).grown hgrow1 (Nat.le_refl _) (by simp)
  have hrow : Row w1 (some ⟨w.heap.size, 0, none⟩) N (List.replicate N 0) := by
    exact ((made_own hown1).row' (bys_rep _)).2
  refine (c1 _ _ _ hrow).mono ?_
  clear c1 hown1 hgrow1 hrow
  rintro e w2 ⟨p, F, rfl, hd, hb2, hF⟩
  have s1 := hb1.size
  have HD : Hid (Dev w2 p F (newD (List.replicate N 0))) := hd
  have HB : Hid (Below w.heap.size w w2) := hb1.trans (hb2.mono s1)
  clear hd hb1 hb2
  go_wp2
  go_ret2
  exact ⟨p, F, rfl, HD.out, HB.out, fun k hk => Nat.le_trans s1 (hF k hk)⟩

theorem made_any {w : World} {p : Nat} {F : Nat → Prop} {D : Dv} (h : Dev w p F D) : Calls Tryz.prog 65 #[.pointer (some ⟨p, 0, none⟩)] w fun e w' => e = .returned (.bool true) ∧ w = w' := by
  obtain ⟨ok, _, gN, gL, cN, cL, vS, vO, f, hc, _⟩ := h
  have c0 := hc.at.1
  have hl : 0 < D.now.length := by have := ok.now; have := ok.n8; omega
  clear ok hc
  go_enter Tryz.func65, Tryz.ntmps65
  go_wp2
  go_ret
  exact ⟨rfl, rfl⟩

theorem pages_any {w : World} {p : Nat} {F : Nat → Prop} {D : Dv} (h : Dev w p F D) : Calls Tryz.prog 74 #[.pointer (some ⟨p, 0, none⟩)] w fun e w' => e = .returned (.int .i64 D.n) ∧ w = w' := by
  have hm := made_any h
  obtain ⟨ok, _, gN, gL, cN, cL, vS, vO, f, hc, _⟩ := h
  have c0 := hc.at.1
  have e : (D.now.length : Int) / 256 = D.n := by have := ok.now; omega
  have hl : D.now.length ≤ 1048576 := by have := ok.now; have := ok.n4; omega
  clear ok hc
  go_enter Tryz.func74, Tryz.ntmps74
  go_wp2_with (go_at_call 65; refine hm.mono ?_; rintro e w' ⟨rfl, rfl⟩)
  go_ret
  exact ⟨rfl, rfl⟩

def hasB (D : Dv) (pg : Int) : Bool := decide (0 ≤ pg ∧ pg < D.n)

theorem has_any {w : World} {p : Nat} {F : Nat → Prop} {D : Dv} (h : Dev w p F D) (pg : Int) : Calls Tryz.prog 70 #[.pointer (some ⟨p, 0, none⟩), .int .i64 pg] w fun e w' => e = .returned (.bool (hasB D pg)) ∧ w = w' := by
  have hm := pages_any h
  have ht : ∀ (b : Bool), b = hasB D pg → Ending.returned (.bool b) = .returned (.bool (hasB D pg)) := fun b h => by rw [h]
  clear h
  by_cases h0 : 0 ≤ pg
  · by_cases h1 : pg < D.n
    · go_enter Tryz.func70, Tryz.ntmps70
      go_wp2_with (go_at_call 74; refine hm.mono ?_; rintro e w' ⟨rfl, rfl⟩)
      go_ret
      exact ⟨ht _ (by simp [hasB]; omega), rfl⟩
    · go_enter Tryz.func70, Tryz.ntmps70
      go_wp2_with (go_at_call 74; refine hm.mono ?_; rintro e w' ⟨rfl, rfl⟩)
      go_ret
      exact ⟨ht _ (by simp [hasB]; omega), rfl⟩
  · go_enter Tryz.func70, Tryz.ntmps70
    go_wp2_with (go_at_call 74; refine hm.mono ?_; rintro e w' ⟨rfl, rfl⟩)
    go_ret
    exact ⟨ht _ (by simp [hasB]; omega), rfl⟩

theorem ops_any {w : World} {p : Nat} {F : Nat → Prop} {D : Dv} (h : Dev w p F D) : Calls Tryz.prog 34 #[.pointer (some ⟨p, 0, none⟩)] w fun e w' => e = .returned (.int .i64 D.ops) ∧ w = w' := by
  have hm := made_any h
  obtain ⟨ok, _, gN, gL, cN, cL, vS, vO, f, hc, _⟩ := h
  have c0 := hc.at.2.2.2.2.2.1
  clear ok hc
  go_enter Tryz.func34, Tryz.ntmps34
  go_wp2_with (go_at_call 65; refine hm.mono ?_; rintro e w' ⟨rfl, rfl⟩)
  go_ret
  exact ⟨rfl, rfl⟩

theorem image_any {w : World} {p : Nat} {F : Nat → Prop} {D : Dv} (h : Dev w p F D) : Calls Tryz.prog 35 #[.pointer (some ⟨p, 0, none⟩)] w fun e w' => ∃ g c, e = .returned (.slice (some ⟨g, 0, none⟩) D.now.length c) ∧ Own w.heap.size w' (.slice (some ⟨g, 0, none⟩) D.now.length c) D.now ∧ Below w.heap.size w w' := by
  have hm := made_any h
  obtain ⟨ok, _, gN, gL, cN, cL, vS, vO, f, hc, _⟩ := h
  have c0 := hc.at.1
  have cl := clone_some ⟨gN, 0, none⟩ cN D.now w (hc.now.row' ok.bnow).2 (by have := ok.now; have := ok.n4; omega)
  clear ok hc
  go_enter Tryz.func35, Tryz.ntmps35
  go_wp2_with (first | (go_at_call 65; refine hm.mono ?_; rintro e w' ⟨rfl, rfl⟩) | (go_at_call 46; refine cl.mono ?_; rintro e w' ⟨g, c, rfl, ho, hb⟩))
  go_ret
  exact ⟨g, c, rfl, ho, hb⟩
end Go.Proofs.YtojckbhbnalkeaaGreat.Oct
