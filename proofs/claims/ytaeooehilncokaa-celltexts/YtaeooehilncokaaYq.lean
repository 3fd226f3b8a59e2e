/-
  Two lists of cells that are one; rows of cells that came in.
-/
import Derived.Test.YtaeooehilncokaaYp
import Derived.Deep.QuietTactic
namespace Go.Proofs.Ytaeooehilncokaa.Oct
open Go.RowKit Go.ChangeShapes Go.WideShapes

theorem Below.drewN {B : Nat} {a w : World} (h : Below B a w) (n : Nat) : Below B a (w.drewN n) := ⟨h.os, h.tape, h.output, h.size, h.block⟩

set_option maxHeartbeats 2000000 in
set_option maxRecDepth 20000 in
theorem pieceSame_v (a1 a2 : Option Addr) (cap1 cap2 n : Nat) (l : List C4) (w : World) (h1 : RowC w a1 cap1 l) (h2 : RowC w a2 cap2 l) (hn : l.length = n) :
    Calls Try.prog 15 #[.slice a1 n cap1, .slice a2 n cap2] w fun e w' => e = .returned (.bool true) ∧ Below w.heap.size w w' := by
  by_cases h0 : n = 0
  · subst h0
    clear h1 h2 hn
    go_enter Try.func15, Try.ntmps15
    go_wp2_with fail
    go_loop [5] (fun i => i = .int .i64 0) (fun i => 0)
    case atStart => rfl
    case round =>
      subst hrel
      go_wp2
      go_ret
      exact ⟨rfl, Below.refl _ _⟩
  · obtain ⟨b1, o1, rfl⟩ := h1.some' (by omega)
    obtain ⟨b2, o2, rfl⟩ := h2.some' (by omega)
    have hm1 := h1.2.2.1
    have hc1 := h1.2.1
    have hc2 := h2.2.1
    have hm2 := h2.2.2.1
    unfold maxLen at hm1 hm2
    rw [hn] at hc1 hc2
    have HR1 : Hid (RowC w (some ⟨b1, o1, none⟩) cap1 l) := h1
    have HR2 : Hid (RowC w (some ⟨b2, o2, none⟩) cap2 l) := h2
    have HL : Hid (l.length = n) := hn
    clear h1 h2 hn
    go_enter Try.func15, Try.ntmps15
    go_wp2_with fail
    go_loopw [5] (fun i wr => ∃ k : Nat, k ≤ n ∧ i = .int .i64 k ∧ Hid (Below w.heap.size w wr)) (fun i _ => n - (intOf i).toNat)
    case atStart => exact ⟨0, Nat.zero_le _, rfl, Below.refl _ _⟩
    case round =>
      obtain ⟨k, hk, rfl, HB⟩ := hrel
      by_cases hlt : k < n
      · have q1 := (HR1.out.cells k (by rw [HL.out]; exact hlt)).below HB.out
        have q2 := (HR2.out.cells k (by rw [HL.out]; exact hlt)).below HB.out
        obtain ⟨q, hq⟩ : ∃ q, l.getD k c40 = q := ⟨_, rfl⟩
        rw [hq] at q1 q2
        obtain ⟨x0, x1, x2, x3⟩ := q1
        obtain ⟨y0, y1, y2, y3⟩ := q2
        clear hq
        go_wp2_with fail
        go_quiet (fail)
        go_wp2
        go_roundw
        case rel => exact ⟨k + 1, by omega, by go_num, Below.drewN HB.out _⟩
        case measure => simp [intOf]; omega
      · go_wp2
        go_ret
        exact ⟨rfl, HB.out⟩

set_option maxHeartbeats 2000000 in
set_option maxRecDepth 20000 in
theorem kidSame_v (a1 a2 : Option Addr) (cap1 cap2 n : Nat) (l : List C4) (w : World) (h1 : RowC w a1 cap1 l) (h2 : RowC w a2 cap2 l) (hn : l.length = n) :
    Calls Try.prog 19 #[.slice a1 n cap1, .slice a2 n cap2] w fun e w' => e = .returned (.bool true) ∧ Below w.heap.size w w' := by
  by_cases h0 : n = 0
  · subst h0
    clear h1 h2 hn
    go_enter Try.func19, Try.ntmps19
    go_wp2_with fail
    go_loop [5] (fun i => i = .int .i64 0) (fun i => 0)
    case atStart => rfl
    case round =>
      subst hrel
      go_wp2
      go_ret
      exact ⟨rfl, Below.refl _ _⟩
  · obtain ⟨b1, o1, rfl⟩ := h1.some' (by omega)
    obtain ⟨b2, o2, rfl⟩ := h2.some' (by omega)
    have hm1 := h1.2.2.1
    have hc1 := h1.2.1
    have hc2 := h2.2.1
    have hm2 := h2.2.2.1
    unfold maxLen at hm1 hm2
    rw [hn] at hc1 hc2
    have HR1 : Hid (RowC w (some ⟨b1, o1, none⟩) cap1 l) := h1
    have HR2 : Hid (RowC w (some ⟨b2, o2, none⟩) cap2 l) := h2
    have HL : Hid (l.length = n) := hn
    clear h1 h2 hn
    go_enter Try.func19, Try.ntmps19
    go_wp2_with fail
    go_loopw [5] (fun i wr => ∃ k : Nat, k ≤ n ∧ i = .int .i64 k ∧ Hid (Below w.heap.size w wr)) (fun i _ => n - (intOf i).toNat)
    case atStart => exact ⟨0, Nat.zero_le _, rfl, Below.refl _ _⟩
    case round =>
      obtain ⟨k, hk, rfl, HB⟩ := hrel
      by_cases hlt : k < n
      · have q1 := (HR1.out.cells k (by rw [HL.out]; exact hlt)).below HB.out
        have q2 := (HR2.out.cells k (by rw [HL.out]; exact hlt)).below HB.out
        obtain ⟨q, hq⟩ : ∃ q, l.getD k c40 = q := ⟨_, rfl⟩
        rw [hq] at q1 q2
        obtain ⟨x0, x1, x2, x3⟩ := q1
        obtain ⟨y0, y1, y2, y3⟩ := q2
        clear hq
        go_wp2_with fail
        go_quiet (fail)
        go_wp2
        go_roundw
        case rel => exact ⟨k + 1, by omega, by go_num, Below.drewN HB.out _⟩
        case measure => simp [intOf]; omega
      · go_wp2
        go_ret
        exact ⟨rfl, HB.out⟩

theorem cellsOf_int : Try.prog.cellsOf 3 = 1 := by kernel_rfl
theorem wf64 {z : Int} (h : (Lit.int .i64 z).wf = true) : wf1 z := by
  simp [Lit.wf, IntKind.min, IntKind.max, IntKind.signed, IntKind.bits] at h
  unfold wf1
  omega
theorem open_bytes {H : Type} {enc : TypeId × Value → H} {w : World} {base fuel : Nat} {held : Bool} {v : Value} {x : DataW H × List MemPlace} (h : DataW.trod enc Try.prog w base (fun _ => true) held fuel 23 [v] = some x) :
    ∃ a ys cap, v = .slice a ys.length cap ∧ Row w a cap ys ∧ (a = none → cap = 0) := by
  rcases open_ints Try.underlying23 Try.underlying5 (by kernel_rfl) h with ⟨hcs, _⟩ | ⟨x, l, c, zs, hcs, _, hl, hm, hz, _, hcell, hwz⟩
  · simp at hcs
    exact ⟨none, [], 0, hcs, ⟨fun z hz => by simp at hz, Nat.le_refl _, by simp [maxLen], .inl rfl⟩, fun _ => rfl⟩
  · simp at hcs
    have hr : IsRow .u8 w (some x) l c zs := .inr ⟨_, rfl, hl, hm, by simpa using hz, hcell, hwz⟩
    obtain ⟨ys, h1, h2⟩ := hr.row
    exact ⟨some x, ys, c, by rw [hcs, h1], h2, fun e => by cases e⟩

theorem pieceCells : Try.prog.cellsOf 30 = 4 := by kernel_rfl
set_option maxRecDepth 20000 in
theorem open_piece {H : Type} {enc : TypeId × Value → H} {w : World} {base fuel : Nat} {held : Bool} {cs : List Value} {x : DataW H × List MemPlace} (h : DataW.trod enc Try.prog w base (fun _ => true) held fuel 30 cs = some x) :
    ∃ q : C4, cs = [.int .i64 q.a, .int .i64 q.b, .int .i64 q.c, .int .i64 q.d] ∧ wfC q := by
  obtain ⟨xs, n, _, _, hl, hlen, hf⟩ := DataW.trod_struct Try.underlying30 h
  rw [pieceCells] at hl
  match cs, hl with
  | [v0, v1, v2, v3], _ =>
    match xs, hlen with
    | [y0, y1, y2, y3], _ =>
      have g0 := hf 0 _ rfl
      have g1 := hf 1 _ rfl
      have g2 := hf 2 _ rfl
      have g3 := hf 3 _ rfl
      simp [cellsOf_int] at g0 g1 g2 g3
      obtain ⟨n0, e0, _, w0⟩ := DataW.trod_int Try.underlying3 g0
      obtain ⟨n1, e1, _, w1⟩ := DataW.trod_int Try.underlying3 g1
      obtain ⟨n2, e2, _, w2⟩ := DataW.trod_int Try.underlying3 g2
      obtain ⟨n3, e3, _, w3⟩ := DataW.trod_int Try.underlying3 g3
      simp at e0 e1 e2 e3
      subst e0 e1 e2 e3
      exact ⟨⟨n0, n1, n2, n3⟩, rfl, wf64 w0, wf64 w1, wf64 w2, wf64 w3⟩

set_option maxRecDepth 20000 in
theorem open_pieces {H : Type} {enc : TypeId × Value → H} {w : World} {base fuel : Nat} {held : Bool} {a : Option Addr} {len cap : Nat} {x : DataW H × List MemPlace} (h : DataW.trod enc Try.prog w base (fun _ => true) held fuel 27 [.slice a len cap] = some x) :
    ∃ l : List C4, len = l.length ∧ RowC w a cap l := by
  rcases Deep.open_slice Try.underlying27 h with ⟨hcs, _⟩ | ⟨x, l, c, m, n, D, Pl, hcs, _, hl, hm, hmm, _, hx⟩
  · simp at hcs
    obtain ⟨rfl, rfl, rfl⟩ := hcs
    exact ⟨[], rfl, fun q hq => (by cases hq), Nat.le_refl _, by simp [maxLen], .inl rfl⟩
  · simp at hcs
    obtain ⟨rfl, rfl, rfl⟩ := hcs
    have hlm : len ≤ m := by rw [hmm]; split <;> omega
    have each : ∀ i, i < len → ∃ d : C4, wfC d ∧ ∀ (b off : Nat), x = ⟨b, off, none⟩ → At4 w b (off + i * 4) d := by
      intro i hi
      obtain ⟨cs', h1, h2⟩ := hx i (by omega)
      rw [pieceCells] at h1
      obtain ⟨_, hlen, hcell⟩ := World.cells?_some h1
      obtain ⟨d, rfl, hw⟩ := open_piece h2
      refine ⟨d, hw, fun b off e => ?_⟩
      subst e
      have q : ∀ j, ((⟨b, off, none⟩ : Addr).add (i * 4)).add j = ⟨b, off + i * 4 + j, none⟩ := fun j => by rw [Addr.add_lit, Addr.add_lit]
      have e0 := hcell 0 (by omega)
      have e1 := hcell 1 (by omega)
      have e2 := hcell 2 (by omega)
      have e3 := hcell 3 (by omega)
      rw [q] at e0 e1 e2 e3
      exact ⟨by simpa using e0, by simpa using e1, by simpa using e2, by simpa using e3⟩
    have : Inhabited C4 := ⟨c40⟩
    obtain ⟨f, hf⟩ := Deep.choose_lt each
    refine ⟨(List.range len).map f, by simp, fun q hq => ?_, by simpa using hl, hm, ?_⟩
    · obtain ⟨i, hi, rfl⟩ := List.mem_map.1 hq
      exact (hf i (List.mem_range.1 hi)).1
    by_cases h0 : len = 0
    · exact .inl (by simp [h0])
    · refine .inr ?_
      obtain ⟨b, off, spot⟩ := x
      have hspot : spot = none := by
        obtain ⟨cs', h1, h2⟩ := hx 0 (by omega)
        rw [pieceCells] at h1
        obtain ⟨_, hlen, hcell⟩ := World.cells?_some h1
        have e0 := hcell 0 (by omega)
        obtain ⟨v, hv⟩ : ∃ v, w.cell? (((⟨b, off, spot⟩ : Addr).add (0 * 4)).add 0) = some v := ⟨_, e0.trans (List.getElem?_eq_getElem (by omega))⟩
        simpa [Addr.add] using World.cell?_spot hv
      subst hspot
      refine ⟨b, off, rfl, fun i hi => ?_⟩
      simp at hi
      have := (hf i hi).2 b off rfl
      rw [show ((List.range len).map f).getD i c40 = f i by simp [List.getD_eq_getElem?_getD, hi]]
      exact this

theorem kidCells : Try.prog.cellsOf 71 = 4 := by kernel_rfl
set_option maxRecDepth 20000 in
theorem open_kid {H : Type} {enc : TypeId × Value → H} {w : World} {base fuel : Nat} {held : Bool} {cs : List Value} {x : DataW H × List MemPlace} (h : DataW.trod enc Try.prog w base (fun _ => true) held fuel 71 cs = some x) :
    ∃ q : C4, cs = [.int .i64 q.a, .int .i64 q.b, .int .i64 q.c, .int .i64 q.d] ∧ wfC q := by
  obtain ⟨xs, n, _, _, hl, hlen, hf⟩ := DataW.trod_struct Try.underlying71 h
  rw [kidCells] at hl
  match cs, hl with
  | [v0, v1, v2, v3], _ =>
    match xs, hlen with
    | [y0, y1, y2, y3], _ =>
      have g0 := hf 0 _ rfl
      have g1 := hf 1 _ rfl
      have g2 := hf 2 _ rfl
      have g3 := hf 3 _ rfl
      simp [cellsOf_int] at g0 g1 g2 g3
      obtain ⟨n0, e0, _, w0⟩ := DataW.trod_int Try.underlying3 g0
      obtain ⟨n1, e1, _, w1⟩ := DataW.trod_int Try.underlying3 g1
      obtain ⟨n2, e2, _, w2⟩ := DataW.trod_int Try.underlying3 g2
      obtain ⟨n3, e3, _, w3⟩ := DataW.trod_int Try.underlying3 g3
      simp at e0 e1 e2 e3
      subst e0 e1 e2 e3
      exact ⟨⟨n0, n1, n2, n3⟩, rfl, wf64 w0, wf64 w1, wf64 w2, wf64 w3⟩

set_option maxRecDepth 20000 in
theorem open_kids {H : Type} {enc : TypeId × Value → H} {w : World} {base fuel : Nat} {held : Bool} {a : Option Addr} {len cap : Nat} {x : DataW H × List MemPlace} (h : DataW.trod enc Try.prog w base (fun _ => true) held fuel 38 [.slice a len cap] = some x) :
    ∃ l : List C4, len = l.length ∧ RowC w a cap l := by
  rcases Deep.open_slice Try.underlying38 h with ⟨hcs, _⟩ | ⟨x, l, c, m, n, D, Pl, hcs, _, hl, hm, hmm, _, hx⟩
  · simp at hcs
    obtain ⟨rfl, rfl, rfl⟩ := hcs
    exact ⟨[], rfl, fun q hq => (by cases hq), Nat.le_refl _, by simp [maxLen], .inl rfl⟩
  · simp at hcs
    obtain ⟨rfl, rfl, rfl⟩ := hcs
    have hlm : len ≤ m := by rw [hmm]; split <;> omega
    have each : ∀ i, i < len → ∃ d : C4, wfC d ∧ ∀ (b off : Nat), x = ⟨b, off, none⟩ → At4 w b (off + i * 4) d := by
      intro i hi
      obtain ⟨cs', h1, h2⟩ := hx i (by omega)
      rw [kidCells] at h1
      obtain ⟨_, hlen, hcell⟩ := World.cells?_some h1
      obtain ⟨d, rfl, hw⟩ := open_kid h2
      refine ⟨d, hw, fun b off e => ?_⟩
      subst e
      have q : ∀ j, ((⟨b, off, none⟩ : Addr).add (i * 4)).add j = ⟨b, off + i * 4 + j, none⟩ := fun j => by rw [Addr.add_lit, Addr.add_lit]
      have e0 := hcell 0 (by omega)
      have e1 := hcell 1 (by omega)
      have e2 := hcell 2 (by omega)
      have e3 := hcell 3 (by omega)
      rw [q] at e0 e1 e2 e3
      exact ⟨by simpa using e0, by simpa using e1, by simpa using e2, by simpa using e3⟩
    have : Inhabited C4 := ⟨c40⟩
    obtain ⟨f, hf⟩ := Deep.choose_lt each
    refine ⟨(List.range len).map f, by simp, fun q hq => ?_, by simpa using hl, hm, ?_⟩
    · obtain ⟨i, hi, rfl⟩ := List.mem_map.1 hq
      exact (hf i (List.mem_range.1 hi)).1
    by_cases h0 : len = 0
    · exact .inl (by simp [h0])
    · refine .inr ?_
      obtain ⟨b, off, spot⟩ := x
      have hspot : spot = none := by
        obtain ⟨cs', h1, h2⟩ := hx 0 (by omega)
        rw [kidCells] at h1
        obtain ⟨_, hlen, hcell⟩ := World.cells?_some h1
        have e0 := hcell 0 (by omega)
        obtain ⟨v, hv⟩ : ∃ v, w.cell? (((⟨b, off, spot⟩ : Addr).add (0 * 4)).add 0) = some v := ⟨_, e0.trans (List.getElem?_eq_getElem (by omega))⟩
        simpa [Addr.add] using World.cell?_spot hv
      subst hspot
      refine ⟨b, off, rfl, fun i hi => ?_⟩
      simp at hi
      have := (hf i hi).2 b off rfl
      rw [show ((List.range len).map f).getD i c40 = f i by simp [List.getD_eq_getElem?_getD, hi]]
      exact this
end Go.Proofs.Ytaeooehilncokaa.Oct
