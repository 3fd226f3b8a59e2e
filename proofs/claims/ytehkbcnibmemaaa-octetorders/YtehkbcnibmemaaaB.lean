/-
  The contracts of octet.Get and of the document's Get over a row of bytes, and awake.
-/
import Derived.Test.YtehkbcnibmemaaaA
namespace Go.Proofs.Ytehkbcnibmemaaa.Oct
open Go.RowKit

/-- What a slice of bytes reads. -/
def Row (w : World) (a : Option Addr) (cap : Nat) (zs : List Int) : Prop :=
  Bys zs ∧ zs.length ≤ cap ∧ cap ≤ maxLen ∧ (zs = [] ∨ ∃ b off, a = some ⟨b, off, none⟩ ∧ ∀ i, i < zs.length → w.cell? ⟨b, off + i, none⟩ = some (.int .u8 (zs.getD i 0)))

theorem Row.below {w w' : World} {a : Option Addr} {cap : Nat} {zs : List Int} (h : Row w a cap zs) (k : Below w.heap.size w w') : Row w' a cap zs := by
  obtain ⟨h1, h2, h3, h4⟩ := h
  refine ⟨h1, h2, h3, ?_⟩
  rcases h4 with h4 | ⟨b, off, ha, hc⟩
  · exact .inl h4
  · exact .inr ⟨b, off, ha, fun i hi => (k.cell (p := ⟨b, off + i, none⟩) (block_lt_of_cell (hc i hi))).trans (hc i hi)⟩

def getI (zs : List Int) (p n : Int) : Int := if insB zs.length p n then capI (num zs p.toNat n.toNat) else 0
def getB (zs : List Int) (p n : Int) : Bool := if insB zs.length p n then capB (num zs p.toNat n.toNat) else false

theorem insB_yes {len : Nat} {p n : Int} (h : insB len p n = true) : 1 ≤ n ∧ n ≤ 8 ∧ 0 ≤ p ∧ p ≤ (len : Int) - n := by simpa [insB] using h

theorem get_any (a : Option Addr) (cap : Nat) (zs : List Int) (p n : Int) (w : World) (h : Row w a cap zs) :
    Calls Try.prog 9 #[.slice a zs.length cap, .int .i64 p, .int .i64 n] w fun e w' => e = .returned (.tuple #[.int .i64 (getI zs p n), .bool (getB zs p n)]) ∧ Below w.heap.size w w' := by
  obtain ⟨h1, h2, h3, h4⟩ := h
  by_cases hi : insB zs.length p n = true
  · have hv := insB_yes hi
    obtain ⟨p', rfl⟩ := Int.eq_ofNat_of_zero_le hv.2.2.1
    obtain ⟨n', rfl⟩ := Int.eq_ofNat_of_zero_le (show 0 ≤ n by omega)
    rcases h4 with rfl | ⟨b, off, rfl, hc⟩
    · simp at hv; omega
    · have e1 : getI zs p' n' = capI (num zs p' n') := by simp [getI, hi]
      have e2 : getB zs p' n' = capB (num zs p' n') := by simp [getB, hi]
      rw [e1, e2]
      exact get_yes b off cap zs p' n' w hc h1 h2 h3 (by omega) (by omega) (by omega)
  · have hi' : insB zs.length p n = false := by simpa using hi
    have e1 : getI zs p n = 0 := by simp [getI, hi']
    have e2 : getB zs p n = false := by simp [getB, hi']
    rw [e1, e2]
    refine (get_no a zs.length cap p n w (by omega) hi').mono ?_
    rintro e w' ⟨rfl, rfl⟩
    exact ⟨rfl, Below.refl _ _⟩

theorem refget_any (a : Option Addr) (cap : Nat) (zs : List Int) (p n : Int) (w : World) (h : Row w a cap zs) :
    Calls Try.prog 13 #[.slice a zs.length cap, .int .i64 p, .int .i64 n] w fun e w' => e = .returned (.tuple #[.int .i64 (getI zs p n), .bool (getB zs p n)]) ∧ w = w' := by
  obtain ⟨h1, h2, h3, h4⟩ := h
  by_cases hi : insB zs.length p n = true
  · have hv := insB_yes hi
    obtain ⟨p', rfl⟩ := Int.eq_ofNat_of_zero_le hv.2.2.1
    obtain ⟨n', rfl⟩ := Int.eq_ofNat_of_zero_le (show 0 ≤ n by omega)
    rcases h4 with rfl | ⟨b, off, rfl, hc⟩
    · simp at hv; omega
    · have e1 : getI zs p' n' = capI (num zs p' n') := by simp [getI, hi]
      have e2 : getB zs p' n' = capB (num zs p' n') := by simp [getB, hi]
      rw [e1, e2]
      exact refget_yes b off cap zs p' n' w hc h1 (by omega) (by omega) (by omega) (by omega)
  · have hi' : insB zs.length p n = false := by simpa using hi
    have e1 : getI zs p n = 0 := by simp [getI, hi']
    have e2 : getB zs p n = false := by simp [getB, hi']
    rw [e1, e2]
    exact refget_no a zs.length cap p n w (by omega) hi'

/-- A row that lies in a block of its own, which was just laid. -/
theorem row_new (w : World) (zs : List Int) (t : TypeId) (hb : Bys zs) (hm : zs.length ≤ maxLen) :
    Row (w.alloc (.cells (zs.map (Value.int .u8)).toArray t)) (some ⟨w.heap.size, 0, none⟩) zs.length zs := by
  refine ⟨hb, Nat.le_refl _, hm, .inr ⟨_, _, rfl, fun i hi => ?_⟩⟩
  rw [World.cell?_alloc_at _ _ _ _ rfl]
  simp [hi]

/-- The same, whatever its mark. -/
theorem row_new' (w : World) (zs : List Int) (t : TypeId) (fr : Nat × Nat) (hb : Bys zs) (hm : zs.length ≤ maxLen) :
    Row (w.alloc (.cells (zs.map (Value.int .u8)).toArray t fr)) (some ⟨w.heap.size, 0, none⟩) zs.length zs := by
  refine ⟨hb, Nat.le_refl _, hm, .inr ⟨_, _, rfl, fun i hi => ?_⟩⟩
  have hh : (w.alloc (.cells (zs.map (Value.int .u8)).toArray t fr)).heap[w.heap.size]? = some (.cells (zs.map (Value.int .u8)).toArray t fr) := by
    show (w.heap.push (.cells (zs.map (Value.int .u8)).toArray t fr))[w.heap.size]? = _
    simp
  unfold World.cell?
  rw [hh]
  simp [hi]

theorem bys123 : Bys [1, 2, 3] := by intro z hz; simp at hz; omega
theorem get123I : getI [1, 2, 3] 1 2 = 515 := by decide
theorem get123B : getB [1, 2, 3] 1 2 = true := by decide

set_option maxHeartbeats 400000 in
theorem awake_any (w : World) :
    Calls Try.prog 8 #[] w fun e w' => e = .returned (.bool true) ∧ Below w.heap.size w w' := by
  have hr := row_new w [1, 2, 3] 5 bys123 (by simp [maxLen])
  simp at hr
  go_enter Try.func8, Try.ntmps8
  go_wp2_with fail
  have c := get_any _ _ _ 1 2 _ hr
  rw [get123I, get123B] at c
  refine c.mono ?_
  clear c hr
  rintro e w1 ⟨rfl, hb⟩
  go_wp2
  go_ret
  exact ⟨rfl, ((Below.refl _ _).alloc (Nat.le_refl _) _).trans (hb.mono (by simp))⟩
end Go.Proofs.Ytehkbcnibmemaaa.Oct
