/-
  Rows of floats that came in; sums and quotients that may be a NaN.
-/
import Derived.Test.YtieldmakbokekaaGreatDoorAw3
import Derived.Deep.Slices
namespace Go.Proofs.YtieldmakbokekaaGreatDoor.Oct
open Go.RowKit
open Go.Proofs.YtieldmakbokekaaGreatDoor.Fl

theorem trod_float {H : Type} {enc : TypeId × Value → H} {P : Program} {w : World} {base : Nat} {spare : Nat → Bool} {held : Bool} {fuel : Nat} {t : TypeId} {cs : List Value} {x : DataW H × List MemPlace} {k : FloatKind}
    (ht : P.underlying t = some (.float k)) (h : DataW.trod enc P w base spare held fuel t cs = some x) : ∃ b, cs = [.float k b] ∧ (Lit.float k b).wf = true := by
  cases fuel with
  | zero => simp [DataW.trod] at h
  | succ n =>
    unfold DataW.trod at h
    rw [ht] at h
    split at h <;> simp_all

/-- What the walk is told of a slice of floats that came in: nil, or a row of cap cells. -/
def IsRowF (w : World) (a : Option Addr) (len cap : Nat) (zs : List Nat) : Prop :=
  (a = none ∧ len = 0 ∧ cap = 0 ∧ zs = []) ∨
  ∃ x, a = some x ∧ len ≤ cap ∧ cap ≤ maxLen ∧ zs.length = cap ∧ (∀ i, i < zs.length → w.cell? (x.add i) = some (.float .f64 (zs.getD i 0))) ∧ ∀ n ∈ zs, n < 2 ^ 64

theorem open_floats {H : Type} {enc : TypeId × Value → H} {P : Program} {w : World} {held : Bool} {t e : TypeId} {fuel : Nat} {a : Option Addr} {len cap : Nat} {x : DataW H × List MemPlace}
    (ht : P.underlying t = some (.slice e)) (he : P.underlying e = some (.float .f64)) (hc : P.cellsOf e = 1) (h : DataW.trod enc P w 0 (fun _ => true) held fuel t (Value.slice a len cap).cells.toList = some x) :
    ∃ zs, IsRowF w a len cap zs := by
  rcases DataW.trod_slice ht h with h0 | ⟨ad, l, c, elems, rest, n, _, hcs, _, hb, hl, hm, hlen, hel, hsp, hns⟩
  · have h1 := h0.1
    simp [Value.cells] at h1
    obtain ⟨rfl, rfl, rfl⟩ := h1
    exact ⟨[], .inl ⟨rfl, rfl, rfl, rfl⟩⟩
  · simp [Value.cells] at hcs
    obtain ⟨rfl, rfl, rfl⟩ := hcs
    obtain ⟨hrl, hr⟩ := hsp rfl
    have each : ∀ i, i < cap → ∃ b, w.cell? (ad.add i) = some (.float .f64 b) ∧ b < 2 ^ 64 := by
      intro i hi
      have hb' : ∃ y, (w.cells? 0 (ad.add (i * P.cellsOf e)) (P.cellsOf e)).bind (DataW.trod enc P w 0 (fun _ => true) held n e) = some y := by
        by_cases hi' : i < len
        · refine ⟨elems[i]'(by omega), ?_⟩
          rw [hel i hi', List.getElem?_eq_getElem (by omega)]
        · have := hr (i - len) (by omega)
          rw [show len + (i - len) = i by omega] at this
          refine ⟨rest[i - len]'(by omega), ?_⟩
          rw [this, List.getElem?_eq_getElem (by omega)]
      obtain ⟨y, hy⟩ := hb'
      rw [hc, Nat.mul_one, Option.bind_eq_some_iff] at hy
      obtain ⟨cs', hcs, hy'⟩ := hy
      obtain ⟨b, rfl, hw⟩ := trod_float he hy'
      exact ⟨b, Go.ChangeShapes.cell_of_cells?_one hcs, f64_wf hw⟩
    obtain ⟨f, hf⟩ := Go.Deep.choose_lt each
    refine ⟨(List.range cap).map f, .inr ⟨ad, rfl, hl, hm, by simp, ?_, ?_⟩⟩
    · intro i hi
      have hi' : i < cap := by simpa using hi
      rw [(hf i hi').1]; simp [hi']
    · intro z hz
      obtain ⟨i, hi, rfl⟩ := List.mem_map.1 hz
      exact (hf i (List.mem_range.1 hi)).2

/-- A row of floats. -/
def RowF (w : World) (a : Option Addr) (cap : Nat) (zs : List Nat) : Prop :=
  (∀ n ∈ zs, n < 2 ^ 64) ∧ zs.length ≤ cap ∧ cap ≤ maxLen ∧ (zs = [] ∨ ∃ b off, a = some ⟨b, off, none⟩ ∧ ∀ i, i < zs.length → w.cell? ⟨b, off + i, none⟩ = some (.float .f64 (zs.getD i 0)))

theorem RowF.below {w w' : World} {a : Option Addr} {cap : Nat} {zs : List Nat} (h : RowF w a cap zs) (k : Below w.heap.size w w') : RowF w' a cap zs := by
  obtain ⟨h1, h2, h3, h4⟩ := h
  refine ⟨h1, h2, h3, ?_⟩
  rcases h4 with h4 | ⟨b, off, ha, hc⟩
  · exact .inl h4
  · exact .inr ⟨b, off, ha, fun i hi => (k.cell (p := ⟨b, off + i, none⟩) (block_lt_of_cell (hc i hi))).trans (hc i hi)⟩

theorem IsRowF.row {w : World} {a : Option Addr} {len cap : Nat} {zs : List Nat} (h : IsRowF w a len cap zs) :
    ∃ ys : List Nat, len = ys.length ∧ RowF w a cap ys := by
  rcases h with ⟨rfl, rfl, rfl, rfl⟩ | ⟨x, rfl, hl, hm, hz, hcell, hwz⟩
  · exact ⟨[], rfl, by intro z hz; simp at hz, Nat.le_refl _, by simp [maxLen], .inl rfl⟩
  · refine ⟨zs.take len, by simp; omega, fun z hmem => hwz z (List.mem_of_mem_take hmem), by simp; omega, hm, ?_⟩
    by_cases h0 : len = 0
    · exact .inl (by simp [h0])
    · refine .inr ?_
      obtain ⟨b, off, spot⟩ := x
      have hc := hcell 0 (by omega)
      have hspot : spot = none := by simpa [Addr.add] using World.cell?_spot hc
      subst hspot
      refine ⟨b, off, rfl, fun i hi => ?_⟩
      simp at hi
      have := hcell i (by omega)
      have e : (⟨b, off, none⟩ : Addr).add i = ⟨b, off + i, none⟩ := by simp [Addr.add]
      rw [e] at this
      rw [this]
      simp [show i < len by omega]

theorem at_lt {zs : List Nat} (h : ∀ n ∈ zs, n < 2 ^ 64) (i : Nat) : zs.getD i 0 < 2 ^ 64 := by
  by_cases hi : i < zs.length
  · rw [List.getD_eq_getElem?_getD, List.getElem?_eq_getElem hi]; exact h _ (List.getElem_mem hi)
  · rw [List.getD_eq_getElem?_getD, List.getElem?_eq_none (by omega)]; simp

/-- One added, or some NaN. -/
def add2 (x y : Nat) : Nat := (Ieee.double.add x y).getD 0x7ff8000000000001
def quo2 (x y : Nat) : Nat := (Ieee.double.div x y).getD 0x7ff8000000000001

theorem nan_can : Nan 0x7ff8000000000001 := by rw [nan_iff]; omega

theorem nb_eq {x y : Nat} : nb x = nb y ↔ (Nan x ∧ Nan y) ∨ (x = y) := by
  constructor
  · intro h
    by_cases hx : Nan x
    · by_cases hy : Nan y
      · exact .inl ⟨hx, hy⟩
      · rw [nb_nan hx, nb_num hy] at h; subst h; exact absurd nan_can hy
    · by_cases hy : Nan y
      · rw [nb_num hx, nb_nan hy] at h; subst h; exact absurd nan_can hx
      · rw [nb_num hx, nb_num hy] at h; exact .inr h
  · rintro (⟨hx, hy⟩ | rfl)
    · rw [nb_nan hx, nb_nan hy]
    · rfl

theorem add_nan {x y : Nat} (h : Nan x ∨ Nan y) : Ieee.double.add x y = none := by
  unfold Ieee.Format.add
  rcases h with h | h
  · obtain ⟨f, e⟩ := read_nan h
    rw [e]; rfl
  · obtain ⟨f, e⟩ := read_nan h
    rw [e]; cases Ieee.double.read x <;> rfl

theorem run_add (x x' y : Nat) (w : World) (hx : nb x = nb x') : ∃ r w', Below w.heap.size w w' ∧ r < 2 ^ 64 ∧ nb r = nb (add2 x' y) ∧ (binOp .add 22 (.float .f64 x) (.float .f64 y)).run Tryz.prog w = .ok (.float .f64 r) w' := by
  cases h : Ieee.double.add x y with
  | some r =>
    have hn : ¬ Nan x := fun hn => by rw [add_nan (.inl hn)] at h; cases h
    have hxx : x = x' := by
      rcases nb_eq.1 hx with ⟨h1, _⟩ | h1
      · exact absurd h1 hn
      · exact h1
    subst hxx
    refine ⟨r, w, Below.refl _ w, Ieee.Format.add_lt _ h, ?_, run_float_arith w .add 22 .f64 x y r h⟩
    unfold add2; rw [h]; rfl
  | none =>
    obtain ⟨r, h1, h2, h3⟩ := run_nan .add 22 x y w (by simp) h
    refine ⟨r, w.drew, (Below.refl _ w).drew, h2, ?_, h3⟩
    have : add2 x' y = 0x7ff8000000000001 := by
      unfold add2
      rcases nb_eq.1 hx with ⟨_, h1⟩ | rfl
      · rw [add_nan (.inl h1)]; rfl
      · rw [h]; rfl
    rw [this, nb_nan h1, nb_nan nan_can]

theorem run_quo (x y : Nat) (w : World) : ∃ r w', Below w.heap.size w w' ∧ r < 2 ^ 64 ∧ nb r = nb (quo2 x y) ∧ (binOp .quo 22 (.float .f64 x) (.float .f64 y)).run Tryz.prog w = .ok (.float .f64 r) w' := by
  cases h : Ieee.double.div x y with
  | some r =>
    refine ⟨r, w, Below.refl _ w, Ieee.Format.div_lt _ h, ?_, run_float_arith w .quo 22 .f64 x y r h⟩
    unfold quo2; rw [h]; rfl
  | none =>
    obtain ⟨r, h1, h2, h3⟩ := run_nan .quo 22 x y w (by simp) h
    refine ⟨r, w.drew, (Below.refl _ w).drew, h2, ?_, h3⟩
    unfold quo2; rw [h, nb_nan h1]; exact (nb_nan nan_can).symm

end Go.Proofs.YtieldmakbokekaaGreatDoor.Oct
