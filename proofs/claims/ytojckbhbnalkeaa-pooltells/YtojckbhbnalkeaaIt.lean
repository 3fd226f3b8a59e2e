/-
  Rows of deeds that came in.
-/
import Derived.Test.YtojckbhbnalkeaaR
import Derived.Test.YtojckbhbnalkeaaRi
import Derived.Deep.Slices
import Derived.ChangeSame
import Derived.ProofKit
namespace Go.Proofs.Ytojckbhbnalkeaa.Oct
open Go.RowKit Go.ChangeShapes Go.WideShapes

/-- A deed, plainly. -/
structure Dd where
  do' : Int
  n : Int
  page : Int
  fill : Int
  b : List Int
  ba : Option Addr
  bc : Nat

def noDeed : Dd := ⟨0, 0, 0, 0, [], none, 0⟩

/-- A deed in memory. -/
structure DeedAt (w : World) (b o : Nat) (d : Dd) : Prop where
  c0 : w.cell? ⟨b, o, none⟩ = some (.int .i64 d.do')
  c1 : w.cell? ⟨b, o + 1, none⟩ = some (.int .i64 d.n)
  c2 : w.cell? ⟨b, o + 2, none⟩ = some (.int .i64 d.page)
  c3 : w.cell? ⟨b, o + 3, none⟩ = some (.int .u8 d.fill)
  c4 : w.cell? ⟨b, o + 4, none⟩ = some (.slice d.ba d.b.length d.bc)
  row : Row w d.ba d.bc d.b
  nil : d.ba = none → d.bc = 0
  wd : -9223372036854775808 ≤ d.do' ∧ d.do' ≤ 9223372036854775807
  wn : -9223372036854775808 ≤ d.n ∧ d.n ≤ 9223372036854775807
  wp : -9223372036854775808 ≤ d.page ∧ d.page ≤ 9223372036854775807
  wf : 0 ≤ d.fill ∧ d.fill ≤ 255

theorem DeedAt.below {w w' : World} {b o : Nat} {d : Dd} (h : DeedAt w b o d) (k : Below w.heap.size w w') : DeedAt w' b o d :=
  { h with
    c0 := (k.cell (p := ⟨b, o, none⟩) (block_lt_of_cell h.c0)).trans h.c0
    c1 := (k.cell (p := ⟨b, o + 1, none⟩) (block_lt_of_cell h.c1)).trans h.c1
    c2 := (k.cell (p := ⟨b, o + 2, none⟩) (block_lt_of_cell h.c2)).trans h.c2
    c3 := (k.cell (p := ⟨b, o + 3, none⟩) (block_lt_of_cell h.c3)).trans h.c3
    c4 := (k.cell (p := ⟨b, o + 4, none⟩) (block_lt_of_cell h.c4)).trans h.c4
    row := h.row.below k }

/-- A row of deeds. -/
def IsDeeds (w : World) (a : Option Addr) (cap : Nat) (l : List Dd) : Prop :=
  l.length ≤ cap ∧ cap ≤ maxLen ∧ (l = [] ∨ ∃ b off, a = some ⟨b, off, none⟩ ∧ ∀ i, i < l.length → DeedAt w b (off + i * 5) (l.getD i noDeed))

theorem wf64 {z : Int} (h : (Lit.int .i64 z).wf = true) : -9223372036854775808 ≤ z ∧ z ≤ 9223372036854775807 := by
  simp [Lit.wf, IntKind.min, IntKind.max, IntKind.signed, IntKind.bits] at h
  omega

set_option maxRecDepth 20000 in
theorem open_bytes {H : Type} {enc : TypeId × Value → H} {w : World} {base fuel : Nat} {held : Bool} {v : Value} {x : DataW H × List MemPlace} (h : DataW.trod enc Try.prog w base (fun _ => true) held fuel 31 [v] = some x) :
    ∃ a ys cap, v = .slice a ys.length cap ∧ Row w a cap ys ∧ (a = none → cap = 0) := by
  rcases open_ints Try.underlying31 Try.underlying5 (by kernel_rfl) h with ⟨hcs, _⟩ | ⟨x, l, c, zs, hcs, _, hl, hm, hz, _, hcell, hwz⟩
  · simp at hcs
    exact ⟨none, [], 0, hcs, ⟨fun z hz => by simp at hz, Nat.le_refl _, by simp [maxLen], .inl rfl⟩, fun _ => rfl⟩
  · simp at hcs
    have hr : IsRow .u8 w (some x) l c zs := .inr ⟨_, rfl, hl, hm, by simpa using hz, hcell, hwz⟩
    obtain ⟨ys, h1, h2⟩ := hr.row
    exact ⟨some x, ys, c, by rw [hcs, h1], h2, fun e => by cases e⟩

theorem cells43 : Try.prog.cellsOf 42 = 5 := by kernel_rfl
theorem cells3 : Try.prog.cellsOf 3 = 1 := by kernel_rfl
theorem cells5 : Try.prog.cellsOf 5 = 1 := by kernel_rfl
theorem cells28 : Try.prog.cellsOf 31 = 1 := by kernel_rfl

set_option maxRecDepth 20000 in
theorem open_deed {H : Type} {enc : TypeId × Value → H} {w : World} {base fuel : Nat} {held : Bool} {cs : List Value} {x : DataW H × List MemPlace} (h : DataW.trod enc Try.prog w base (fun _ => true) held fuel 42 cs = some x) :
    ∃ d : Dd, cs = [.int .i64 d.do', .int .i64 d.n, .int .i64 d.page, .int .u8 d.fill, .slice d.ba d.b.length d.bc] ∧ Row w d.ba d.bc d.b ∧ (d.ba = none → d.bc = 0) ∧
      (-9223372036854775808 ≤ d.do' ∧ d.do' ≤ 9223372036854775807) ∧ (-9223372036854775808 ≤ d.n ∧ d.n ≤ 9223372036854775807) ∧ (-9223372036854775808 ≤ d.page ∧ d.page ≤ 9223372036854775807) ∧ (0 ≤ d.fill ∧ d.fill ≤ 255) := by
  obtain ⟨xs, n, _, _, hl, hlen, hf⟩ := DataW.trod_struct Try.underlying42 h
  rw [cells43] at hl
  match cs, hl with
  | [v0, v1, v2, v3, v4], _ =>
    match xs, hlen with
    | [y0, y1, y2, y3, y4], _ =>
      have g0 := hf 0 _ rfl
      have g1 := hf 1 _ rfl
      have g2 := hf 2 _ rfl
      have g3 := hf 3 _ rfl
      have g4 := hf 4 _ rfl
      simp [cells3, cells5, cells28] at g0 g1 g2 g3 g4
      obtain ⟨n0, e0, _, w0⟩ := DataW.trod_int Try.underlying3 g0
      obtain ⟨n1, e1, _, w1⟩ := DataW.trod_int Try.underlying3 g1
      obtain ⟨n2, e2, _, w2⟩ := DataW.trod_int Try.underlying3 g2
      obtain ⟨n3, e3, _, w3⟩ := DataW.trod_int Try.underlying5 g3
      obtain ⟨a, ys, cap, e4, hr, hn⟩ := open_bytes g4
      simp at e0 e1 e2 e3
      subst e0 e1 e2 e3 e4
      exact ⟨⟨n0, n1, n2, n3, ys, a, cap⟩, rfl, hr, hn, wf64 w0, wf64 w1, wf64 w2, u8_wf w3⟩

set_option maxRecDepth 20000 in
theorem open_deeds {H : Type} {enc : TypeId × Value → H} {w : World} {base fuel : Nat} {held : Bool} {a : Option Addr} {len cap : Nat} {x : DataW H × List MemPlace} (h : DataW.trod enc Try.prog w base (fun _ => true) held fuel 38 [.slice a len cap] = some x) :
    ∃ l : List Dd, len = l.length ∧ IsDeeds w a cap l := by
  rcases Deep.open_slice Try.underlying38 h with ⟨hcs, _⟩ | ⟨x, l, c, m, n, D, Pl, hcs, _, hl, hm, hmm, _, hx⟩
  · simp at hcs
    obtain ⟨rfl, rfl, rfl⟩ := hcs
    exact ⟨[], rfl, Nat.le_refl _, by simp [maxLen], .inl rfl⟩
  · simp at hcs
    obtain ⟨rfl, rfl, rfl⟩ := hcs
    have hlm : len ≤ m := by rw [hmm]; split <;> omega
    have each : ∀ i, i < len → ∃ d : Dd, ∀ (b off : Nat), x = ⟨b, off, none⟩ → DeedAt w b (off + i * 5) d := by
      intro i hi
      obtain ⟨cs', h1, h2⟩ := hx i (by omega)
      rw [cells43] at h1
      obtain ⟨_, hlen, hcell⟩ := World.cells?_some h1
      obtain ⟨d, rfl, hr, hn, wd, wn, wp, wf⟩ := open_deed h2
      refine ⟨d, fun b off e => ?_⟩
      subst e
      have q : ∀ j, ((⟨b, off, none⟩ : Addr).add (i * 5)).add j = ⟨b, off + i * 5 + j, none⟩ := fun j => by rw [Addr.add_lit, Addr.add_lit]
      have e0 := hcell 0 (by omega)
      have e1 := hcell 1 (by omega)
      have e2 := hcell 2 (by omega)
      have e3 := hcell 3 (by omega)
      have e4 := hcell 4 (by omega)
      rw [q] at e0 e1 e2 e3 e4
      exact ⟨by simpa using e0, by simpa using e1, by simpa using e2, by simpa using e3, by simpa using e4, hr, hn, wd, wn, wp, wf⟩
    have : Inhabited Dd := ⟨noDeed⟩
    obtain ⟨f, hf⟩ := Deep.choose_lt each
    refine ⟨(List.range len).map f, by simp, by simpa using hl, hm, ?_⟩
    by_cases h0 : len = 0
    · exact .inl (by simp [h0])
    · refine .inr ?_
      obtain ⟨b, off, spot⟩ := x
      have hspot : spot = none := by
        obtain ⟨cs', h1, h2⟩ := hx 0 (by omega)
        rw [cells43] at h1
        obtain ⟨_, hlen, hcell⟩ := World.cells?_some h1
        have e0 := hcell 0 (by omega)
        obtain ⟨v, hv⟩ : ∃ v, w.cell? (((⟨b, off, spot⟩ : Addr).add (0 * 5)).add 0) = some v := ⟨_, e0.trans (List.getElem?_eq_getElem (by omega))⟩
        simpa [Addr.add] using World.cell?_spot hv
      subst hspot
      refine ⟨b, off, rfl, fun i hi => ?_⟩
      simp at hi
      have := hf i hi b off rfl
      rw [show ((List.range len).map f).getD i noDeed = f i by simp [List.getD_eq_getElem?_getD, hi]]
      exact this

set_option maxRecDepth 20000 in
theorem open_intsI {H : Type} {enc : TypeId × Value → H} {w : World} {base fuel : Nat} {held : Bool} {v : Value} {x : DataW H × List MemPlace} (h : DataW.trod enc Try.prog w base (fun _ => true) held fuel 35 [v] = some x) :
    ∃ a ys cap, v = .slice a ys.length cap ∧ RowI w a cap ys ∧ ∀ z ∈ ys, -9223372036854775808 ≤ z ∧ z ≤ 9223372036854775807 := by
  rcases open_ints Try.underlying35 Try.underlying3 (by kernel_rfl) h with ⟨hcs, _⟩ | ⟨x, l, c, zs, hcs, _, hl, hm, hz, _, hcell, hwz⟩
  · simp at hcs
    exact ⟨none, [], 0, hcs, ⟨Nat.le_refl _, by simp [maxLen], .inl rfl⟩, fun z hz => by simp at hz⟩
  · simp at hcs
    have hr : IsRow .i64 w (some x) l c zs := .inr ⟨_, rfl, hl, hm, by simpa using hz, hcell, hwz⟩
    obtain ⟨ys, e, r, b⟩ := hr.rowI
    exact ⟨some x, ys, c, by rw [hcs, e], r, b⟩
end Go.Proofs.Ytojckbhbnalkeaa.Oct
