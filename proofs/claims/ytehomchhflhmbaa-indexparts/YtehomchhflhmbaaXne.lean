/-
  Indices as the laws use them: one whose blocks are all new; pieces of a row.
-/
import Derived.Test.YtehomchhflhmbaaXnd
namespace Go.Proofs.Ytehomchhflhmbaa.Oct
open Go.RowKit

theorem Row.mid {w : World} {g off cap : Nat} {L : List Int} (h : Row w (some ⟨g, off, none⟩) cap L) (a n : Nat) (hn : a + n ≤ L.length) : Row w (some ⟨g, off + a, none⟩) (cap - a) ((L.drop a).take n) := by
  have hl : ((L.drop a).take n).length = n := by simp; omega
  refine ⟨fun z hz => h.1 z (List.mem_of_mem_drop (List.mem_of_mem_take hz)), by have := h.2.1; omega, by have := h.2.2.1; omega, ?_⟩
  by_cases h0 : n = 0
  · exact .inl (by simp [h0])
  · refine .inr ⟨g, off + a, rfl, fun i hi => ?_⟩
    rw [hl] at hi
    have := h.cells (a + i) (by omega)
    rw [show off + a + i = off + (a + i) by omega, this]
    simp [List.getD_eq_getElem?_getD, hi, List.getElem?_drop]
theorem Row.past {w : World} {b off cap : Nat} {zs : List Int} (h : Row w (some ⟨b, off, none⟩) cap zs) (k : Nat) (hk : k ≤ zs.length) : Row w (some ⟨b, off + k, none⟩) (cap - k) (zs.drop k) := by
  refine ⟨fun z hz => h.1 z (List.mem_of_mem_drop hz), by rw [List.length_drop]; have := h.2.1; omega, by have := h.2.2.1; omega, .inr ⟨b, off + k, rfl, fun i hi => ?_⟩⟩
  rw [List.length_drop] at hi
  rw [Nat.add_assoc, h.cells (k + i) (by omega)]
  simp only [List.getD_eq_getElem?_getD, List.getElem?_drop]
theorem Row.under {w : World} {a : Option Addr} {c : Nat} {zs : List Int} (h : Row w a c zs) : zs = [] ∨ ∀ x, a = some x → x.block < w.heap.size := by
  by_cases hz : zs = []
  · exact .inl hz
  · rcases h.2.2.2 with e | ⟨b, off, e, hc⟩
    · exact absurd e hz
    · refine .inr fun x hx => ?_
      rw [e] at hx
      cases hx
      exact block_lt_of_cell (hc 0 (List.length_pos_iff.2 hz))

section
variable {Ix : World → Nat → (Nat → Prop) → List Int → Prop}
/-- An index whose blocks are all newer than a world. -/
structure IxL (Ix : World → Nat → (Nat → Prop) → List Int → Prop) (w wr : World) (s : Nat) (F : Nat → Prop) (b : List Int) : Prop where
  a : Ix wr s F b
  f : ∀ k, F k → w.heap.size ≤ k
  b : Below w.heap.size w wr
variable {w wr w' : World} {s : Nat} {F F' : Nat → Prop} {b b' : List Int}
theorem IxL.step (h : IxL Ix w wr s F b) (h2 : Ix w' s F' b') (st : Step F F' wr w') : IxL Ix w w' s F' b' := by
  obtain ⟨x, y⟩ := st.below h.b.size h.f
  exact ⟨h2, y, h.b.trans x⟩
theorem IxL.keep (X : IxC Ix) (h : IxL Ix w wr s F b) (hb : Below wr.heap.size wr w') : IxL Ix w w' s F b :=
  ⟨X.below h.a hb, h.f, h.b.trans (hb.mono h.b.size)⟩
/-- What was there ahead lies apart. -/
theorem IxL.apart (h : IxL Ix w wr s F b) {a : Option Addr} {c : Nat} {zs : List Int} (hr : Row w a c zs) : zs = [] ∨ Apart F a :=
  hr.under.imp id fun hh x hx hF => by have h1 := h.f _ hF; have h2 := hh x hx; omega
end

theorem bg_line (b : List Int) (k : Nat) (hk : k ≤ nlC b) : bgB b (k : Int) = true ∧ liB b (bgV b (k : Int)) = true ∧ liV b (bgV b (k : Int)) = (k : Int) ∧ 0 ≤ bgV b (k : Int) ∧ bgV b (k : Int) ≤ (b.length : Int) ∧
    (0 < k → ∃ i : Nat, i < b.length ∧ bgV b (k : Int) = (i : Int) + 1 ∧ b.getD i 0 = 10 ∧ liB b (i : Int) = true ∧ liV b (i : Int) = (k : Int) - 1) := by
  have h1 : bgB b (k : Int) = true := decide_eq_true (by omega)
  by_cases h0 : k = 0
  · subst h0
    have e : bgV b ((0 : Nat) : Int) = 0 := if_neg (by omega)
    rw [e]
    refine ⟨h1, decide_eq_true (by omega), ?_, by omega, by omega, fun h => absurd h (by omega)⟩
    unfold liV
    rw [if_pos (by omega)]
    rfl
  · obtain ⟨i, hi, h10, hn, he⟩ := ends_find b (k - 1) (by omega)
    have e : bgV b (k : Int) = (i : Int) + 1 := by
      unfold bgV
      rw [if_pos (by omega), Int.toNat_natCast]
      exact he
    have e2 := nlC_snoc b i hi
    rw [if_pos h10] at e2
    rw [e]
    refine ⟨h1, decide_eq_true (by omega), ?_, by omega, by omega, fun _ => ⟨i, hi, rfl, h10, decide_eq_true (by omega), ?_⟩⟩
    · unfold liV
      rw [if_pos (by omega), show ((i : Int) + 1).toNat = i + 1 by omega]
      omega
    · unfold liV
      rw [if_pos (by omega), Int.toNat_natCast]
      omega
end Go.Proofs.Ytehomchhflhmbaa.Oct
