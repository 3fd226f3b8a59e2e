/-
  cell's layCell.
-/
import Derived.Test.YtaeooehilncokaaYi
import Derived.OwnWalk
namespace Go.Proofs.Ytaeooehilncokaa.Oct
open Go.RowKit

theorem heap_alloc_size (w : World) (o : Obj) : (w.alloc o).heap.size = w.heap.size + 1 := by
  show (w.heap.push o).size = _
  simp

theorem At4.at {w : World} {B : Nat} {q : C4} (h : At4 w B 0 q) {k : Nat} (hk : k < 4) : w.cell? ⟨B, k, none⟩ = some (.int .i64 (atC q k)) := by
  obtain ⟨h0, h1, h2, h3⟩ := h
  rcases four hk with rfl | rfl | rfl | rfl <;> assumption
theorem at4_new (w : World) (q : C4) (t : TypeId) : At4 (w.alloc (.cells #[.int .i64 q.a, .int .i64 q.b, .int .i64 q.c, .int .i64 q.d] t)) w.heap.size 0 q := by
  unfold At4
  simp

/-- A cell on its way: k numbers are laid. -/
structure Lyg (w wr : World) (t : Bool) (q : C4) (B F k : Nat) (g : Option Addr) (c : Nat) : Prop where
  own : Own w.heap.size wr (.slice g (szC t) c) (shC t q k)
  at4 : At4 wr B 0 q
  fd : Fd4 t wr F B
  bel : Below w.heap.size w wr

theorem lyg_step {w wr : World} {t : Bool} {q : C4} {B F k : Nat} {g : Option Addr} {c : Nat} (h : Lyg w wr t q B F k g c) (hok : okC t q = true) (hk : k < 4) (o : Obj) :
    Calls Try.prog 59 #[.slice g (szC t) c, .int .i64 (ofC t k : Nat), .int .i64 (wdC t k : Nat), .int .i64 (atC q k)] (wr.alloc o).drew fun e w' => ∃ g' c', e = .returned (.tuple #[.slice g' (szC t) c', .bool true]) ∧ Lyg w w' t q B F (k + 1) g' c' ∧ Below (wr.alloc o).heap.size (wr.alloc o) w' := by
  have hl := shC_len t q (k := k) (by omega)
  have hb0 : Below wr.heap.size wr (wr.alloc o).drew := ((Below.refl _ _).alloc (Nat.le_refl _) _).drew
  have ho := h.own.below' hb0
  obtain ⟨_, hr⟩ := ho.row' (shC_bys t q k)
  obtain ⟨q1, q2⟩ := shC_next hok hk
  have hsz := szC_bd t
  have hx : atC q k ≤ 9223372036854775807 := by
    have hf := fitC hok hk
    unfold fitB at hf
    have := (of_decide_eq_true hf).2.1
    omega
  have cp := put_any g c (shC t q k) (ofC t k : Nat) (wdC t k : Nat) (atC q k) _ hr (by omega) hx
  rw [q1, q2, hl] at cp
  refine cp.mono ?_
  rintro e w' ⟨v, rfl, ho', hb'⟩
  obtain ⟨g', c', rfl, _⟩ := ho'.row (shC_bys t q (k + 1))
  rw [shC_len t q (k := k + 1) (by omega)] at ho'
  refine ⟨g', c', by rw [shC_len t q (k := k + 1) (by omega)], ⟨ho'.weaken ?_, ?_, ?_, ?_⟩, ?_⟩
  · exact Nat.le_trans h.bel.size (hb0.size)
  · exact (h.at4.below hb0).below hb'
  · exact (h.fd.below hb0).below hb'
  · exact (h.bel.trans (hb0.mono h.bel.size)).trans (hb'.mono (Nat.le_trans h.bel.size hb0.size))
  · exact ((Below.refl _ (wr.alloc o)).drew).trans hb'

theorem pieceLay_start (q : C4) (w w1 : World) (hown1 : w1.ownsRow w.heap.size 5 1 (.slice (some ⟨((w.alloc (.cells #[.int .i64 12, .func (Fn.func 45) #[] #[], .func (Fn.func 46) #[] #[]] 58)).alloc (.cells #[.int .i64 q.a, .int .i64 q.b, .int .i64 q.c, .int .i64 q.d] 30)).heap.size, 0, none⟩) 12 12) 12 (madeCells (Value.int .u8 0).cells (12 * 1)).toList) (hgrow1 : ((w.alloc (.cells #[.int .i64 12, .func (Fn.func 45) #[] #[], .func (Fn.func 46) #[] #[]] 58)).alloc (.cells #[.int .i64 q.a, .int .i64 q.b, .int .i64 q.c, .int .i64 q.d] 30)).grownBy w1 none) :
    w1.cell? ⟨w.heap.size, 1, none⟩ = some (.func (Fn.func 45) #[] #[]) ∧ Hid (At4 w1 (w.heap.size + 1) 0 q) ∧ Hid (Below w.heap.size w w1) ∧ Hid (Own w.heap.size w1 (.slice (some ⟨w.heap.size + 1 + 1, 0, none⟩) 12 12) (shC false q 0)) := by
  have hb1 : Below ((w.alloc (.cells #[.int .i64 12, .func (Fn.func 45) #[] #[], .func (Fn.func 46) #[] #[]] 58)).alloc (.cells #[.int .i64 q.a, .int .i64 q.b, .int .i64 q.c, .int .i64 q.d] 30)).heap.size ((w.alloc (.cells #[.int .i64 12, .func (Fn.func 45) #[] #[], .func (Fn.func 46) #[] #[]] 58)).alloc (.cells #[.int .i64 q.a, .int .i64 q.b, .int .i64 q.c, .int .i64 q.d] 30)) w1 := (Below.refl _ _).grown hgrow1 (Nat.le_refl _) (by simp)
  refine ⟨(hb1.cell (p := ⟨w.heap.size, 1, none⟩) (by simp; omega)).trans (by simp), ?_, ?_, ?_⟩
  · have := (at4_new (w.alloc (.cells #[.int .i64 12, .func (Fn.func 45) #[] #[], .func (Fn.func 46) #[] #[]] 58)) q 30).below hb1
    simp only [heap_alloc_size] at this
    exact this
  · exact (((Below.refl _ w).alloc (Nat.le_refl _) _).alloc (by simp) _).trans (hb1.mono (by simp; omega))
  · have := made_own hown1
    simp only [heap_alloc_size] at this
    exact this

set_option maxHeartbeats 2000000 in
set_option maxRecDepth 20000 in
theorem pieceLay_v (q : C4) (w : World) (hok : okC false q = true) :
    Calls Try.prog 44 #[.agg #[.int .i64 12, .func (Fn.func 45) #[] #[], .func (Fn.func 46) #[] #[]], .agg #[.int .i64 q.a, .int .i64 q.b, .int .i64 q.c, .int .i64 q.d]] w fun e w' => ∃ g c, e = .returned (.slice g 12 c) ∧ Own w.heap.size w' (.slice g 12 c) (celC false q) ∧ Below w.heap.size w w' := by
  have HOK : Hid (okC false q = true) := hok
  clear hok
  obtain ⟨i0, hi0, hz0, hz1, hz2⟩ := info_parts info5
  go_enter Try.func44, Try.ntmps44
  go_wp2_with (at_make; refine wpList_make_full _ rfl _ _ 23 rfl w.heap.size 5 i0 (.int .u8 0) 1 Try.underlying23 hi0 hz0 hz1 .i64 .i64 _ _ 12 rfl rfl rfl rfl (by rw [hz2]; omega) (by simp [maxLen]) (by simp; omega) ?_; intro w1 hown1 hgrow1; obtain ⟨k1, HA, HB1, HO⟩ := pieceLay_start q w w1 hown1 hgrow1; clear hown1 hgrow1)
  refine (pieceFields_v _ _).mono ?_
  rintro e w2 ⟨rfl, hfd, hb⟩
  have HB : Hid (Lyg w w2 false q (w.heap.size + 1) w1.heap.size 0 (some ⟨w.heap.size + 1 + 1, 0, none⟩) 12) := ⟨HO.out.below' hb, HA.out.below hb, hfd, HB1.out.trans (hb.mono HB1.out.size)⟩
  clear hb hfd HO HA HB1 k1
  obtain ⟨F, hF⟩ : ∃ F, w1.heap.size = F := ⟨_, rfl⟩
  rw [hF] at HB ⊢
  clear hF hi0 hz0 hz1 hz2
  go_wp2_with fail
  go_loopw [5, 6, 16] (fun o a i wr => ∃ (k : Nat) (g : Option Addr) (c : Nat), k ≤ 4 ∧ o = .slice g 12 c ∧ a = .int .i64 (ofC false k : Nat) ∧ i = .int .i64 k ∧ Lyg w wr false q (w.heap.size + 1) F k g c) (fun _ _ i _ => 4 - (intOf i).toNat)
  case atStart => exact ⟨0, _, _, Nat.zero_le _, rfl, rfl, rfl, HB.out⟩
  case round =>
    obtain ⟨k, g, c, hk, rfl, rfl, rfl, hbd⟩ := hrel
    clear HB
    obtain ⟨B, hBB⟩ : ∃ B, w.heap.size + 1 = B := ⟨_, rfl⟩
    rw [hBB] at hbd ⊢
    clear hBB
    by_cases hlt : k < 4
    · obtain ⟨c0, c1⟩ := hbd.fd k hlt
      have c3 := hbd.at4.at hlt
      have CP : Hid _ := lyg_step hbd HOK.out hlt
      have HN : Hid (ofC false (k + 1) = ofC false k + wdC false k) := ofC_next false hlt
      have hob : ofC false k + wdC false k ≤ 12 := ofC_bd false hlt
      have hB : B < wr.heap.size := hbd.at4.lt
      obtain ⟨q', hq⟩ : ∃ q', wdC false k = q' := ⟨_, rfl⟩
      obtain ⟨x, hx⟩ : ∃ x, atC q k = x := ⟨_, rfl⟩
      obtain ⟨p, hp⟩ : ∃ p, ofC false k = p := ⟨_, rfl⟩
      rw [hq, hx, hp, show szC false = 12 from rfl] at CP
      rw [hq, hp] at HN hob
      rw [hq] at c0
      rw [hx] at c3
      rw [hp]
      clear hbd hq hx hp HOK
      go_wp2_with fail
      go_region_held3 (fun u => u.cell? ⟨wr.heap.size, 0, none⟩ = some (.int .i64 (q' : Int)) ∧ u.cell? ⟨wr.heap.size, 1, none⟩ = some (.pointer (some ⟨B, k, none⟩)) ∧ u.cell? ⟨B, k, none⟩ = some (.int .i64 x)) (go_keep) ((go_at_call 59; refine (CP.out _).mono ?_; rintro e w3 ⟨g', c', rfl, hbd3, hb3⟩; have HB3 : Hid (Lyg w w3 false q B F (k + 1) g' c') := hbd3; have d0 : w3.cell? ⟨wr.heap.size, 0, none⟩ = some (.int .i64 (q' : Int)) := (hb3.cell (p := ⟨wr.heap.size, 0, none⟩) (by simp)).trans (by simp); have d1 : w3.cell? ⟨wr.heap.size, 1, none⟩ = some (.pointer (some ⟨B, k, none⟩)) := (hb3.cell (p := ⟨wr.heap.size, 1, none⟩) (by simp)).trans (by simp); have d2 : w3.cell? ⟨B, k, none⟩ = some (.int .i64 x) := (hb3.cell (p := ⟨B, k, none⟩) (by simp; omega)).trans (by rw [World.cell?_alloc_lt _ _ _ hB]; exact c3); clear hbd3 hb3))
      go_wp2
      go_roundw
      case rel => exact ⟨k + 1, g', c', by omega, rfl, by rw [HN.out]; go_num, by go_num, HB3.out⟩
      case measure => simp [intOf]; omega
    · have hk4 : k = 4 := by omega
      subst hk4
      have HO : Hid (Own w.heap.size wr (.slice g 12 c) (celC false q)) := hbd.own
      have HBE : Hid (Below w.heap.size w wr) := hbd.bel
      clear hbd
      go_wp2
      go_ret
      exact ⟨_, _, rfl, HO.out, HBE.out⟩

theorem kidLay_start (q : C4) (w w1 : World) (hown1 : w1.ownsRow w.heap.size 5 1 (.slice (some ⟨((w.alloc (.cells #[.int .i64 20, .func (Fn.func 53) #[] #[], .func (Fn.func 54) #[] #[]] 75)).alloc (.cells #[.int .i64 q.a, .int .i64 q.b, .int .i64 q.c, .int .i64 q.d] 71)).heap.size, 0, none⟩) 20 20) 20 (madeCells (Value.int .u8 0).cells (20 * 1)).toList) (hgrow1 : ((w.alloc (.cells #[.int .i64 20, .func (Fn.func 53) #[] #[], .func (Fn.func 54) #[] #[]] 75)).alloc (.cells #[.int .i64 q.a, .int .i64 q.b, .int .i64 q.c, .int .i64 q.d] 71)).grownBy w1 none) :
    w1.cell? ⟨w.heap.size, 1, none⟩ = some (.func (Fn.func 53) #[] #[]) ∧ Hid (At4 w1 (w.heap.size + 1) 0 q) ∧ Hid (Below w.heap.size w w1) ∧ Hid (Own w.heap.size w1 (.slice (some ⟨w.heap.size + 1 + 1, 0, none⟩) 20 20) (shC true q 0)) := by
  have hb1 : Below ((w.alloc (.cells #[.int .i64 20, .func (Fn.func 53) #[] #[], .func (Fn.func 54) #[] #[]] 75)).alloc (.cells #[.int .i64 q.a, .int .i64 q.b, .int .i64 q.c, .int .i64 q.d] 71)).heap.size ((w.alloc (.cells #[.int .i64 20, .func (Fn.func 53) #[] #[], .func (Fn.func 54) #[] #[]] 75)).alloc (.cells #[.int .i64 q.a, .int .i64 q.b, .int .i64 q.c, .int .i64 q.d] 71)) w1 := (Below.refl _ _).grown hgrow1 (Nat.le_refl _) (by simp)
  refine ⟨(hb1.cell (p := ⟨w.heap.size, 1, none⟩) (by simp; omega)).trans (by simp), ?_, ?_, ?_⟩
  · have := (at4_new (w.alloc (.cells #[.int .i64 20, .func (Fn.func 53) #[] #[], .func (Fn.func 54) #[] #[]] 75)) q 71).below hb1
    simp only [heap_alloc_size] at this
    exact this
  · exact (((Below.refl _ w).alloc (Nat.le_refl _) _).alloc (by simp) _).trans (hb1.mono (by simp; omega))
  · have := made_own hown1
    simp only [heap_alloc_size] at this
    exact this

set_option maxHeartbeats 2000000 in
set_option maxRecDepth 20000 in
theorem kidLay_v (q : C4) (w : World) (hok : okC true q = true) :
    Calls Try.prog 52 #[.agg #[.int .i64 20, .func (Fn.func 53) #[] #[], .func (Fn.func 54) #[] #[]], .agg #[.int .i64 q.a, .int .i64 q.b, .int .i64 q.c, .int .i64 q.d]] w fun e w' => ∃ g c, e = .returned (.slice g 20 c) ∧ Own w.heap.size w' (.slice g 20 c) (celC true q) ∧ Below w.heap.size w w' := by
  have HOK : Hid (okC true q = true) := hok
  clear hok
  obtain ⟨i0, hi0, hz0, hz1, hz2⟩ := info_parts info5
  go_enter Try.func52, Try.ntmps52
  go_wp2_with (at_make; refine wpList_make_full _ rfl _ _ 23 rfl w.heap.size 5 i0 (.int .u8 0) 1 Try.underlying23 hi0 hz0 hz1 .i64 .i64 _ _ 20 rfl rfl rfl rfl (by rw [hz2]; omega) (by simp [maxLen]) (by simp; omega) ?_; intro w1 hown1 hgrow1; obtain ⟨k1, HA, HB1, HO⟩ := kidLay_start q w w1 hown1 hgrow1; clear hown1 hgrow1)
  refine (kidFields_v _ _).mono ?_
  rintro e w2 ⟨rfl, hfd, hb⟩
  have HB : Hid (Lyg w w2 true q (w.heap.size + 1) w1.heap.size 0 (some ⟨w.heap.size + 1 + 1, 0, none⟩) 20) := ⟨HO.out.below' hb, HA.out.below hb, hfd, HB1.out.trans (hb.mono HB1.out.size)⟩
  clear hb hfd HO HA HB1 k1
  obtain ⟨F, hF⟩ : ∃ F, w1.heap.size = F := ⟨_, rfl⟩
  rw [hF] at HB ⊢
  clear hF hi0 hz0 hz1 hz2
  go_wp2_with fail
  go_loopw [5, 6, 16] (fun o a i wr => ∃ (k : Nat) (g : Option Addr) (c : Nat), k ≤ 4 ∧ o = .slice g 20 c ∧ a = .int .i64 (ofC true k : Nat) ∧ i = .int .i64 k ∧ Lyg w wr true q (w.heap.size + 1) F k g c) (fun _ _ i _ => 4 - (intOf i).toNat)
  case atStart => exact ⟨0, _, _, Nat.zero_le _, rfl, rfl, rfl, HB.out⟩
  case round =>
    obtain ⟨k, g, c, hk, rfl, rfl, rfl, hbd⟩ := hrel
    clear HB
    obtain ⟨B, hBB⟩ : ∃ B, w.heap.size + 1 = B := ⟨_, rfl⟩
    rw [hBB] at hbd ⊢
    clear hBB
    by_cases hlt : k < 4
    · obtain ⟨c0, c1⟩ := hbd.fd k hlt
      have c3 := hbd.at4.at hlt
      have CP : Hid _ := lyg_step hbd HOK.out hlt
      have HN : Hid (ofC true (k + 1) = ofC true k + wdC true k) := ofC_next true hlt
      have hob : ofC true k + wdC true k ≤ 20 := ofC_bd true hlt
      have hB : B < wr.heap.size := hbd.at4.lt
      obtain ⟨q', hq⟩ : ∃ q', wdC true k = q' := ⟨_, rfl⟩
      obtain ⟨x, hx⟩ : ∃ x, atC q k = x := ⟨_, rfl⟩
      obtain ⟨p, hp⟩ : ∃ p, ofC true k = p := ⟨_, rfl⟩
      rw [hq, hx, hp, show szC true = 20 from rfl] at CP
      rw [hq, hp] at HN hob
      rw [hq] at c0
      rw [hx] at c3
      rw [hp]
      clear hbd hq hx hp HOK
      go_wp2_with fail
      go_region_held3 (fun u => u.cell? ⟨wr.heap.size, 0, none⟩ = some (.int .i64 (q' : Int)) ∧ u.cell? ⟨wr.heap.size, 1, none⟩ = some (.pointer (some ⟨B, k, none⟩)) ∧ u.cell? ⟨B, k, none⟩ = some (.int .i64 x)) (go_keep) ((go_at_call 59; refine (CP.out _).mono ?_; rintro e w3 ⟨g', c', rfl, hbd3, hb3⟩; have HB3 : Hid (Lyg w w3 true q B F (k + 1) g' c') := hbd3; have d0 : w3.cell? ⟨wr.heap.size, 0, none⟩ = some (.int .i64 (q' : Int)) := (hb3.cell (p := ⟨wr.heap.size, 0, none⟩) (by simp)).trans (by simp); have d1 : w3.cell? ⟨wr.heap.size, 1, none⟩ = some (.pointer (some ⟨B, k, none⟩)) := (hb3.cell (p := ⟨wr.heap.size, 1, none⟩) (by simp)).trans (by simp); have d2 : w3.cell? ⟨B, k, none⟩ = some (.int .i64 x) := (hb3.cell (p := ⟨B, k, none⟩) (by simp; omega)).trans (by rw [World.cell?_alloc_lt _ _ _ hB]; exact c3); clear hbd3 hb3))
      go_wp2
      go_roundw
      case rel => exact ⟨k + 1, g', c', by omega, rfl, by rw [HN.out]; go_num, by go_num, HB3.out⟩
      case measure => simp [intOf]; omega
    · have hk4 : k = 4 := by omega
      subst hk4
      have HO : Hid (Own w.heap.size wr (.slice g 20 c) (celC true q)) := hbd.own
      have HBE : Hid (Below w.heap.size w wr) := hbd.bel
      clear hbd
      go_wp2
      go_ret
      exact ⟨_, _, rfl, HO.out, HBE.out⟩
end Go.Proofs.Ytaeooehilncokaa.Oct
