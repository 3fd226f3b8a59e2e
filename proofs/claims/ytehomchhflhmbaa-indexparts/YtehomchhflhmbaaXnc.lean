/-
  Rows of deeds that came in; room.
-/
import Derived.Test.YtehomchhflhmbaaR
import Derived.Deep.Slices
import Derived.Deep.LoopGhost
import Derived.ChangeSame
import Derived.ProofKit
namespace Go.Proofs.Ytehomchhflhmbaa.Oct
open Go.RowKit Go.ChangeShapes Go.WideShapes

/-- A deed, plainly. -/
structure Dx where
  do' : Int
  p : Int
  n : Int
  b : List Int
  ba : Option Addr
  bc : Nat
def noDx : Dx := ⟨0, 0, 0, [], none, 0⟩

/-- A deed in memory. -/
structure DxAt (w : World) (b o : Nat) (d : Dx) : Prop where
  c0 : w.cell? ⟨b, o, none⟩ = some (.int .i64 d.do')
  c1 : w.cell? ⟨b, o + 1, none⟩ = some (.int .i64 d.p)
  c2 : w.cell? ⟨b, o + 2, none⟩ = some (.int .i64 d.n)
  c3 : w.cell? ⟨b, o + 3, none⟩ = some (.slice d.ba d.b.length d.bc)
  row : Row w d.ba d.bc d.b
  nil : d.ba = none → d.bc = 0
  wd : -9223372036854775808 ≤ d.do' ∧ d.do' ≤ 9223372036854775807
  wp : -9223372036854775808 ≤ d.p ∧ d.p ≤ 9223372036854775807
  wn : -9223372036854775808 ≤ d.n ∧ d.n ≤ 9223372036854775807

theorem DxAt.below {w w' : World} {b o : Nat} {d : Dx} (h : DxAt w b o d) (k : Below w.heap.size w w') : DxAt w' b o d :=
  { h with
    c0 := (k.cell (p := ⟨b, o, none⟩) (block_lt_of_cell h.c0)).trans h.c0
    c1 := (k.cell (p := ⟨b, o + 1, none⟩) (block_lt_of_cell h.c1)).trans h.c1
    c2 := (k.cell (p := ⟨b, o + 2, none⟩) (block_lt_of_cell h.c2)).trans h.c2
    c3 := (k.cell (p := ⟨b, o + 3, none⟩) (block_lt_of_cell h.c3)).trans h.c3
    row := h.row.below k }

/-- A row of deeds. -/
def IsDxs (w : World) (a : Option Addr) (cap : Nat) (l : List Dx) : Prop :=
  l.length ≤ cap ∧ cap ≤ maxLen ∧ (l = [] ∨ ∃ b off, a = some ⟨b, off, none⟩ ∧ ∀ i, i < l.length → DxAt w b (off + i * 4) (l.getD i noDx))
theorem IsDxs.below {w w' : World} {a : Option Addr} {cap : Nat} {l : List Dx} (h : IsDxs w a cap l) (hb : Below w.heap.size w w') : IsDxs w' a cap l := by
  obtain ⟨h1, h2, h3⟩ := h
  refine ⟨h1, h2, ?_⟩
  rcases h3 with h3 | ⟨b, off, e, hd⟩
  · exact .inl h3
  · exact .inr ⟨b, off, e, fun i hi => (hd i hi).below hb⟩
theorem IsDxs.at {w : World} {a : Option Addr} {cap : Nat} {l : List Dx} (h : IsDxs w a cap l) (i : Nat) (hi : i < l.length) : ∃ b off, a = some ⟨b, off, none⟩ ∧ DxAt w b (off + i * 4) (l.getD i noDx) := by
  rcases h.2.2 with h | ⟨b, off, rfl, hd⟩
  · rw [h] at hi; exact absurd hi (by simp)
  · exact ⟨b, off, rfl, hd i hi⟩

theorem wf64 {z : Int} (h : (Lit.int .i64 z).wf = true) : -9223372036854775808 ≤ z ∧ z ≤ 9223372036854775807 := by
  simp [Lit.wf, IntKind.min, IntKind.max, IntKind.signed, IntKind.bits] at h
  omega

theorem open_bytes {H : Type} {enc : TypeId × Value → H} {w : World} {base fuel : Nat} {held : Bool} {v : Value} {x : DataW H × List MemPlace} (h : DataW.trod enc Try.prog w base (fun _ => true) held fuel 26 [v] = some x) :
    ∃ a ys cap, v = .slice a ys.length cap ∧ Row w a cap ys ∧ (a = none → cap = 0) := by
  rcases open_ints Try.underlying26 Try.underlying5 (by kernel_rfl) h with ⟨hcs, _⟩ | ⟨x, l, c, zs, hcs, _, hl, hm, hz, _, hcell, hwz⟩
  · simp at hcs
    exact ⟨none, [], 0, hcs, ⟨fun z hz => by simp at hz, Nat.le_refl _, by simp [maxLen], .inl rfl⟩, fun _ => rfl⟩
  · simp at hcs
    have hr : IsRow .u8 w (some x) l c zs := .inr ⟨_, rfl, hl, hm, by simpa using hz, hcell, hwz⟩
    obtain ⟨ys, h1, h2⟩ := hr.row
    exact ⟨some x, ys, c, by rw [hcs, h1], h2, fun e => by cases e⟩

theorem cellsDx : Try.prog.cellsOf 35 = 4 := by kernel_rfl
theorem cellsI : Try.prog.cellsOf 3 = 1 := by kernel_rfl
theorem cells28 : Try.prog.cellsOf 26 = 1 := by kernel_rfl

set_option maxRecDepth 20000 in
theorem open_dx {H : Type} {enc : TypeId × Value → H} {w : World} {base fuel : Nat} {held : Bool} {cs : List Value} {x : DataW H × List MemPlace} (h : DataW.trod enc Try.prog w base (fun _ => true) held fuel 35 cs = some x) :
    ∃ d : Dx, cs = [.int .i64 d.do', .int .i64 d.p, .int .i64 d.n, .slice d.ba d.b.length d.bc] ∧ Row w d.ba d.bc d.b ∧ (d.ba = none → d.bc = 0) ∧
      (-9223372036854775808 ≤ d.do' ∧ d.do' ≤ 9223372036854775807) ∧ (-9223372036854775808 ≤ d.p ∧ d.p ≤ 9223372036854775807) ∧ (-9223372036854775808 ≤ d.n ∧ d.n ≤ 9223372036854775807) := by
  obtain ⟨xs, n, _, _, hl, hlen, hf⟩ := DataW.trod_struct Try.underlying35 h
  rw [cellsDx] at hl
  match cs, hl with
  | [v0, v1, v2, v3], _ =>
    match xs, hlen with
    | [y0, y1, y2, y3], _ =>
      have g0 := hf 0 _ rfl
      have g1 := hf 1 _ rfl
      have g2 := hf 2 _ rfl
      have g3 := hf 3 _ rfl
      simp [cellsI, cells28] at g0 g1 g2 g3
      obtain ⟨n0, e0, _, w0⟩ := DataW.trod_int Try.underlying3 g0
      obtain ⟨n1, e1, _, w1⟩ := DataW.trod_int Try.underlying3 g1
      obtain ⟨n2, e2, _, w2⟩ := DataW.trod_int Try.underlying3 g2
      obtain ⟨a, ys, cap, e3, hr, hn⟩ := open_bytes g3
      simp at e0 e1 e2
      subst e0 e1 e2 e3
      exact ⟨⟨n0, n1, n2, ys, a, cap⟩, rfl, hr, hn, wf64 w0, wf64 w1, wf64 w2⟩

set_option maxRecDepth 20000 in
theorem open_dxs {H : Type} {enc : TypeId × Value → H} {w : World} {base fuel : Nat} {held : Bool} {a : Option Addr} {len cap : Nat} {x : DataW H × List MemPlace} (h : DataW.trod enc Try.prog w base (fun _ => true) held fuel 31 [.slice a len cap] = some x) :
    ∃ l : List Dx, len = l.length ∧ IsDxs w a cap l := by
  rcases Deep.open_slice Try.underlying31 h with ⟨hcs, _⟩ | ⟨x, l, c, m, n, D, Pl, hcs, _, hl, hm, hmm, _, hx⟩
  · simp at hcs
    obtain ⟨rfl, rfl, rfl⟩ := hcs
    exact ⟨[], rfl, Nat.le_refl _, by simp [maxLen], .inl rfl⟩
  · simp at hcs
    obtain ⟨rfl, rfl, rfl⟩ := hcs
    have hlm : len ≤ m := by rw [hmm]; split <;> omega
    have each : ∀ i, i < len → ∃ d : Dx, ∀ (b off : Nat), x = ⟨b, off, none⟩ → DxAt w b (off + i * 4) d := by
      intro i hi
      obtain ⟨cs', h1, h2⟩ := hx i (by omega)
      rw [cellsDx] at h1
      obtain ⟨_, hlen, hcell⟩ := World.cells?_some h1
      obtain ⟨d, rfl, hr, hn, wd, wp, wn⟩ := open_dx h2
      refine ⟨d, fun b off e => ?_⟩
      subst e
      have q : ∀ j, ((⟨b, off, none⟩ : Addr).add (i * 4)).add j = ⟨b, off + i * 4 + j, none⟩ := fun j => by rw [Addr.add_lit, Addr.add_lit]
      have e0 := hcell 0 (by omega)
      have e1 := hcell 1 (by omega)
      have e2 := hcell 2 (by omega)
      have e3 := hcell 3 (by omega)
      rw [q] at e0 e1 e2 e3
      exact ⟨by simpa using e0, by simpa using e1, by simpa using e2, by simpa using e3, hr, hn, wd, wp, wn⟩
    have : Inhabited Dx := ⟨noDx⟩
    obtain ⟨f, hf⟩ := Deep.choose_lt each
    refine ⟨(List.range len).map f, by simp, by simpa using hl, hm, ?_⟩
    by_cases h0 : len = 0
    · exact .inl (by simp [h0])
    · refine .inr ?_
      obtain ⟨b, off, spot⟩ := x
      have hspot : spot = none := by
        obtain ⟨cs', h1, h2⟩ := hx 0 (by omega)
        rw [cellsDx] at h1
        obtain ⟨_, hlen, hcell⟩ := World.cells?_some h1
        have e0 := hcell 0 (by omega)
        obtain ⟨v, hv⟩ : ∃ v, w.cell? (((⟨b, off, spot⟩ : Addr).add (0 * 4)).add 0) = some v := ⟨_, e0.trans (List.getElem?_eq_getElem (by omega))⟩
        simpa [Addr.add] using World.cell?_spot hv
      subst hspot
      refine ⟨b, off, rfl, fun i hi => ?_⟩
      simp at hi
      have := hf i hi b off rfl
      rw [show ((List.range len).map f).getD i noDx = f i by simp [List.getD_eq_getElem?_getD, hi]]
      exact this

/-- room, plainly. -/
def rmB (n : Nat) (l : List Dx) : Bool := decide (n ≤ 3000 ∧ l.length ≤ 100) && l.all fun d => decide (d.b.length ≤ 200)
theorem rmB_at {n : Nat} {l : List Dx} (h : rmB n l = true) {i : Nat} (hi : i < l.length) : (l.getD i noDx).b.length ≤ 200 := by
  unfold rmB at h
  rw [Bool.and_eq_true, List.all_eq_true] at h
  have := h.2 (l.getD i noDx) (by rw [List.getD_eq_getElem?_getD, List.getElem?_eq_getElem hi]; exact List.getElem_mem _)
  exact of_decide_eq_true this
theorem rmB_len {n : Nat} {l : List Dx} (h : rmB n l = true) : n ≤ 3000 ∧ l.length ≤ 100 := by
  unfold rmB at h
  rw [Bool.and_eq_true] at h
  exact of_decide_eq_true h.1
theorem rmB_no {n : Nat} {l : List Dx} {i : Nat} (hi : i < l.length) (h : 200 < (l.getD i noDx).b.length) : rmB n l = false := by
  cases hb : rmB n l with
  | false => rfl
  | true => have := rmB_at hb hi; omega
theorem rmB_yes {n : Nat} {l : List Dx} (h1 : n ≤ 3000) (h2 : l.length ≤ 100) (h : ∀ i, i < l.length → (l.getD i noDx).b.length ≤ 200) : rmB n l = true := by
  unfold rmB
  rw [Bool.and_eq_true, List.all_eq_true]
  refine ⟨decide_eq_true ⟨h1, h2⟩, fun d hd => decide_eq_true ?_⟩
  obtain ⟨i, hi, rfl⟩ := List.mem_iff_getElem.1 hd
  have := h i hi
  rwa [List.getD_eq_getElem?_getD, List.getElem?_eq_getElem hi] at this

set_option maxHeartbeats 1000000 in
theorem room_any (a : Option Addr) (n cap : Nat) (b : Option Addr) (capb : Nat) (l : List Dx) (w : World) (hn : n ≤ 9223372036854775807) (h : IsDxs w b capb l) (m : Nat) (hm : l.length = m) :
    Calls Try.prog 14 #[.slice a n cap, .slice b m capb] w fun e w' => e = .returned (.bool (rmB n l)) ∧ w' = w := by
  have h1 := h.1
  have h2 := h.2.1
  unfold maxLen at h2
  rw [hm] at h1
  have ht : ∀ (b : Bool), b = rmB n l → Ending.returned (.bool b) = .returned (.bool (rmB n l)) := fun b h => by rw [h]
  have HT : Hid (∀ (b : Bool), b = rmB n l → Ending.returned (.bool b) = .returned (.bool (rmB n l))) := ht
  have HR : Hid (IsDxs w b capb l ∧ l.length = m) := ⟨h, hm⟩
  clear h hm ht
  have hno : ¬ (n ≤ 3000 ∧ m ≤ 100) → rmB n l = false := fun h => by
    cases hb : rmB n l with
    | false => rfl
    | true => have := rmB_len hb; have := HR.out.2; omega
  have HN : Hid (¬ (n ≤ 3000 ∧ m ≤ 100) → rmB n l = false) := hno
  clear hno
  by_cases c1 : 3000 < n
  · go_enter Try.func14, Try.ntmps14
    go_wp2_with fail
    go_ret
    exact ⟨HT.out _ (HN.out (by omega)).symm, rfl⟩
  by_cases c2 : 100 < m
  · go_enter Try.func14, Try.ntmps14
    go_wp2_with fail
    go_ret
    exact ⟨HT.out _ (HN.out (by omega)).symm, rfl⟩
  go_enter Try.func14, Try.ntmps14
  go_wp2_with fail
  go_loopg [5] m (fun gh vi wr => ∃ k : Nat, k ≤ m ∧ gh = m - k ∧ vi = .int .i64 (k : Int) ∧ Hid (∀ i, i < k → (l.getD i noDx).b.length ≤ 200) ∧ wr = w)
  case atStart => exact ⟨0, Nat.zero_le _, rfl, rfl, fun i hi => absurd hi (Nat.not_lt_zero i), rfl⟩
  case round =>
    obtain ⟨k, hk, hgk, rfl, hall, rfl⟩ := hrel
    have HGK : Hid (gk = m - k) := hgk
    clear hgk
    by_cases hkn : k < m
    · obtain ⟨bo, off, rfl, hd⟩ := HR.out.1.at k (by have := HR.out.2; omega)
      have h3 := hd.c3
      have hrc := hd.row.2.1
      have hrm := hd.row.2.2.1
      unfold maxLen at hrm
      have hno2 := @rmB_no n l k (by have := HR.out.2; omega)
      have HZ : Hid (∀ h : (l.getD k noDx).b.length ≤ 200, ∀ i, i < k + 1 → (l.getD i noDx).b.length ≤ 200) := fun h i hi => by
        by_cases e : i = k
        · rw [e]; exact h
        · exact hall.out i (by omega)
      obtain ⟨z, hz⟩ : ∃ z, l.getD k noDx = z := ⟨_, rfl⟩
      rw [hz] at h3 hno2 hrc hrm
      have HZ2 : Hid (l.getD k noDx = z) := hz
      have HNO : Hid (200 < z.b.length → rmB n l = false) := hno2
      obtain ⟨zl, hzl⟩ : ∃ m, z.b.length = m := ⟨_, rfl⟩
      have HZL : Hid (z.b.length = zl) := hzl
      rw [hzl] at h3 hrc
      have hkc : k < capb := by omega
      clear hz hd hno2 hzl
      by_cases hc : 200 < zl
      · go_wp2_with fail
        go_ret
        exact ⟨HT.out _ (HNO.out (by have := HZL.out; omega)).symm, rfl⟩
      · go_wp2_with fail
        go_roundg (m - (k + 1))
        case rel => exact ⟨k + 1, by omega, rfl, by go_num, HZ.out (by rw [HZ2.out, HZL.out]; omega), rfl⟩
        case measure => have := HGK.out; omega
    · have hkn' : k = m := by omega
      subst hkn'
      go_wp2_with fail
      go_ret
      exact ⟨HT.out _ (rmB_yes (by omega) (by have := HR.out.2; omega) (fun i hi => hall.out i (by have := HR.out.2; omega))).symm, rfl⟩
end Go.Proofs.Ytehomchhflhmbaa.Oct
