/-
  bytes.Clone; device's small functions: allowed, holding, New, Load, made, Pages, has, Ops, Dead, Image.
-/
import Derived.Test.YtojckbhbnalkeaaGb
import Derived.Laws.AppendOwnNone
import Derived.Laws.EntriesVeiled
import Derived.Lib.SliceRun
namespace Go.Proofs.Ytojckbhbnalkeaa.Oct
open Go.RowKit

theorem row_news {w : World} {ad : Addr} {c : Nat} {zs : List Int} (h : Row w (some ad) c zs) : ∀ (j : Nat) (u : Value), (zs.map (Value.int .u8))[j]? = some u → w.cell? (ad.add j) = some u := by
  intro j u hj
  rw [List.getElem?_map] at hj
  have hlt : j < zs.length := by
    by_cases hlt : j < zs.length
    · exact hlt
    · rw [List.getElem?_eq_none (by omega)] at hj; exact absurd hj (by simp)
  rcases h.2.2.2 with h | ⟨b, off, e, hc⟩
  · rw [h] at hlt; exact absurd hlt (by simp)
  · simp only [Option.some.injEq] at e
    subst e
    have e2 : (⟨b, off, none⟩ : Addr).add j = ⟨b, off + j, none⟩ := by simp [Addr.add]
    rw [e2, hc j hlt, ← hj, List.getD_eq_getElem?_getD, List.getElem?_eq_getElem hlt]
    rfl

theorem one_cells (zs : List Int) : ∀ u ∈ zs.map (Value.int .u8), u.oneCell' = true := by
  intro u hu
  obtain ⟨z, _, rfl⟩ := List.mem_map.1 hu
  rfl

def aB (n : Int) : Bool := decide (8 ≤ n ∧ n ≤ 4096)

theorem allowed_any (n : Int) (w : World) : Calls Try.prog 23 #[.int .i64 n] w fun e w' => e = .returned (.bool (aB n)) ∧ w = w' := by
  have ht : ∀ (b : Bool), b = aB n → Ending.returned (.bool b) = .returned (.bool (aB n)) := fun b h => by rw [h]
  by_cases h1 : 8 ≤ n
  · by_cases h2 : n ≤ 4096
    · go_enter Try.func23, Try.ntmps23
      go_wp2
      go_ret
      exact ⟨ht _ (by simp [aB]; omega), rfl⟩
    · go_enter Try.func23, Try.ntmps23
      go_wp2
      go_ret
      exact ⟨ht _ (by simp [aB]; omega), rfl⟩
  · go_enter Try.func23, Try.ntmps23
    go_wp2
    go_ret
    exact ⟨ht _ (by simp [aB]; omega), rfl⟩

theorem nil_slice (w : World) (a : Option Addr) (n c : Nat) : (binOp .eql 31 (.slice a n c) (.slice none 0 0)).run Try.prog w = .ok (.bool a.isNone) w := Lib.run_eql_slice_nil w 31 5 a n c 0 0 Try.underlying31

set_option maxHeartbeats 1000000 in
theorem clone_some (ad : Addr) (cap : Nat) (zs : List Int) (w : World) (h : Row w (some ad) cap zs) (hsz : zs.length ≤ 140737488355328) :
    Calls Try.prog 41 #[.slice (some ad) zs.length cap] w fun e w' => ∃ g c, e = .returned (.slice (some ⟨g, 0, none⟩) zs.length c) ∧ Own w.heap.size w' (.slice (some ⟨g, 0, none⟩) zs.length c) zs ∧ Below w.heap.size w w' := by
  obtain ⟨i0, hi, hz0, hz1, hz2⟩ := info_parts info5
  have hm : zs.length ≤ maxLen := Nat.le_trans h.2.1 h.2.2.1
  have hr := h.below ((Below.refl w.heap.size w).alloc (Nat.le_refl _) (.cells #[] 5))
  have hn := row_news hr
  have ho : (w.alloc (.cells #[] 5)).ownsRow w.heap.size 5 1 (.slice (some ⟨w.heap.size, 0, none⟩) 0 0) 0 [] := World.ownsRow_made w #[] 0 (Nat.le_refl _) (by simp [maxLen]) rfl
  have HN : Hid (∀ (j : Nat) (u : Value), (zs.map (Value.int .u8))[j]? = some u → (w.alloc (.cells #[] 5)).cell? (ad.add j) = some u) := hn
  clear h hr hn
  have hq := nil_slice w (some ad) zs.length cap
  go_enter Try.func41, Try.ntmps41
  go_wp2_with (at_builtin; refine wpList_append_own _ rfl _ _ 31 rfl w.heap.size 5 i0 (.int .u8 0) 1 1 Try.underlying31 hi hz0 hz1 hz2 rfl (by decide) _ _ _ rfl ho ad zs.length cap (zs.map (Value.int .u8)) rfl (by simp) HN.out (one_cells zs) (by omega) (by omega) (by simp) ?_)
  intro v' w1 hown' hgrow hnil
  have hb : Below w.heap.size w w1 := ((Below.refl w.heap.size w).alloc (Nat.le_refl _) _).grown hgrow (by simp) (fun k hk => by simp [Value.ownBlock] at hk; omega)
  have hv : ∃ g c, v' = .slice (some ⟨g, 0, none⟩) zs.length c := by
    rcases hown'.2 with ⟨e, _⟩ | ⟨g, c, cur, e, _⟩
    · exact (hnil e).elim
    · exact ⟨g, c, e⟩
  obtain ⟨g, c, hv⟩ := hv
  have HO : Hid (Own w.heap.size w1 (.slice (some ⟨g, 0, none⟩) zs.length c) zs) := by
    rw [← hv]
    exact hown'
  clear hown' hgrow hnil HN ho
  rw [hv]
  go_wp2
  go_ret
  exact ⟨g, c, rfl, HO.out, hb⟩

theorem clone_none (w : World) : Calls Try.prog 41 #[.slice none 0 0] w fun e w' => e = .returned (.slice none 0 0) ∧ w = w' := by
  have hq := nil_slice w none 0 0
  go_enter Try.func41, Try.ntmps41
  go_wp2
  go_ret
  exact ⟨rfl, rfl⟩

theorem Own.lt2 {base g n cap : Nat} {w : World} {zs : List Int} (h : Own base w (.slice (some ⟨g, 0, none⟩) n cap) zs) : base ≤ g ∧ g < w.heap.size := World.ownsRow.lt h g rfl

theorem Own.kept {base g n cap : Nat} {w w' : World} {zs : List Int} (h : Own base w (.slice (some ⟨g, 0, none⟩) n cap) zs) (k : w'.heap[g]? = w.heap[g]?) : Own base w' (.slice (some ⟨g, 0, none⟩) n cap) zs :=
  owns_keep h (fun x hx => by simp [Value.ownBlock] at hx; rw [← hx]; exact k)

theorem Own.zero {base g n cap : Nat} {w : World} {zs : List Int} (h : Own base w (.slice (some ⟨g, 0, none⟩) n cap) zs) : Own 0 w (.slice (some ⟨g, 0, none⟩) n cap) zs :=
  owns_base h (fun _ _ => Nat.zero_le _)

theorem newDev {w0 w : World} {p gN gL cN cL : Nat} {zs : List Int} (hw : w0.heap.size ≤ w.heap.size) (h1 : Own w0.heap.size w (.slice (some ⟨gN, 0, none⟩) zs.length cN) zs) (h2 : Own w0.heap.size w (.slice (some ⟨gL, 0, none⟩) zs.length cL) zs) (hNL : gN ≠ gL) (hp : p = w.heap.size)
    (hb : Bys zs) (n : Nat) (hl : zs.length = n * 256) (h8 : 8 ≤ n) (h4 : n ≤ 4096) :
    Dev (w.alloc (.cells #[.slice (some ⟨gN, 0, none⟩) zs.length cN, .slice (some ⟨gL, 0, none⟩) zs.length cL, .slice none 0 0, .slice none 0 0, .int .i64 (-1), .int .i64 0, .bool false] 72)) p (fun k => w0.heap.size ≤ k ∧ k ≤ w.heap.size) (newD zs) := by
  subst hp
  have l1 := h1.lt2
  have l2 := h2.lt2
  refine ⟨newD_ok hb n hl h8 h4, fun k hk => by simp; omega, gN, gL, cN, cL, _, _, -1, ⟨heap_alloc_new w _, (h1.kept (Below.heap_alloc w _ gN l1.2)).zero, (h2.kept (Below.heap_alloc w _ gL l2.2)).zero, World.ownsRow_nil _ _ _ _, .inl ⟨rfl, rfl⟩, by decide, by decide, rfl, by omega, by omega, hNL, by simp [Value.ownBlock], by simp [Value.ownBlock], by simp [Value.ownBlock], by simp [Value.ownBlock], by simp [Value.ownBlock], by simp [Value.ownBlock], fun g hg => by simp [Value.ownBlock] at hg⟩, fun k hk => ?_⟩
  rcases hk with rfl | rfl | rfl | hk | hk
  · exact ⟨hw, Nat.le_refl _⟩
  · omega
  · omega
  · simp [Value.ownBlock] at hk
  · simp [Value.ownBlock] at hk

set_option maxHeartbeats 1000000 in
theorem holding_any (ad : Addr) (cap : Nat) (zs : List Int) (w : World) (h : Row w (some ad) cap zs) (n : Nat) (hl : zs.length = n * 256) (h8 : 8 ≤ n) (h4 : n ≤ 4096) :
    Calls Try.prog 24 #[.slice (some ad) zs.length cap] w fun e w' => ∃ p F, e = .returned (.pointer (some ⟨p, 0, none⟩)) ∧ Dev w' p F (newD zs) ∧ Below w.heap.size w w' ∧ ∀ k, F k → w.heap.size ≤ k := by
  have hsz : zs.length ≤ 140737488355328 := by omega
  have c1 := clone_some ad cap zs w h hsz
  have c2 : ∀ w1, Below w.heap.size w w1 → Calls Try.prog 41 #[.slice (some ad) zs.length cap] w1 fun e w' => ∃ g c, e = .returned (.slice (some ⟨g, 0, none⟩) zs.length c) ∧ Own w1.heap.size w' (.slice (some ⟨g, 0, none⟩) zs.length c) zs ∧ Below w1.heap.size w1 w' := fun w1 hb => clone_some ad cap zs w1 (h.below hb) hsz
  have hby := h.1
  have HL : Hid (zs.length = n * 256) := hl
  clear h hl
  go_enter Try.func24, Try.ntmps24
  go_wp2_with fail
  refine c1.mono ?_
  clear c1
  rintro e w1 ⟨g1, k1, rfl, ho1, hb1⟩
  go_wp2_with fail
  refine (c2 w1 hb1).mono ?_
  clear c2
  rintro e w2 ⟨g2, k2, rfl, ho2, hb2⟩
  have l1 := ho1.lt2
  have l2 := ho2.lt2
  have s1 := hb1.size
  have s2 := hb2.size
  have HD := newDev (p := w2.heap.size) (w0 := w) (w := w2) (by omega) (ho1.kept (hb2.block g1 l1.2)) (owns_base ho2 (fun g hg => by simp [Value.ownBlock] at hg; omega)) (by omega) rfl hby n HL.out h8 h4
  have HB : Hid (Below w.heap.size w (w2.alloc (.cells #[.slice (some ⟨g1, 0, none⟩) zs.length k1, .slice (some ⟨g2, 0, none⟩) zs.length k2, .slice none 0 0, .slice none 0 0, .int .i64 (-1), .int .i64 0, .bool false] 72))) := (hb1.trans (hb2.mono s1)).alloc (by omega) _
  have H2 := HD
  clear ho1 ho2 hb1 hb2 HL HD
  have HD : Hid _ := H2
  clear H2
  go_wp2
  go_ret
  exact ⟨w2.heap.size, _, rfl, HD.out, HB.out, fun k hk => hk.1⟩
end Go.Proofs.Ytojckbhbnalkeaa.Oct
