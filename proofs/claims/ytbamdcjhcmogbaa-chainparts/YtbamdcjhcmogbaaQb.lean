/-
  The contracts of octet.Get and of the document's Get over a row of bytes, and awake.
-/
import Derived.Test.YtbamdcjhcmogbaaQa
namespace Go.Proofs.Ytbamdcjhcmogbaa.Oct
open Go.RowKit

def getI (zs : List Int) (p n : Int) : Int := if insB zs.length p n then capI (num zs p.toNat n.toNat) else 0
def getB (zs : List Int) (p n : Int) : Bool := if insB zs.length p n then capB (num zs p.toNat n.toNat) else false

theorem insB_yes {len : Nat} {p n : Int} (h : insB len p n = true) : 1 ≤ n ∧ n ≤ 8 ∧ 0 ≤ p ∧ p ≤ (len : Int) - n := by simpa [insB] using h

theorem get_any (a : Option Addr) (cap : Nat) (zs : List Int) (p n : Int) (w : World) (h : Row w a cap zs) :
    Calls Try.prog 23 #[.slice a zs.length cap, .int .i64 p, .int .i64 n] w fun e w' => e = .returned (.tuple #[.int .i64 (getI zs p n), .bool (getB zs p n)]) ∧ Below w.heap.size w w' := by
  obtain ⟨h1, h2, h3, h4⟩ := h
  by_cases hi : insB zs.length p n = true
  · have hv := insB_yes hi
    obtain ⟨p', rfl⟩ := Int.eq_ofNat_of_zero_le hv.2.2.1
    obtain ⟨n', rfl⟩ := Int.eq_ofNat_of_zero_le (show 0 ≤ n by omega)
    rcases h4 with rfl | ⟨b, off, rfl, hc⟩
    · simp at hv; omega
    · have e1 : getI zs p' n' = capI (num zs p' n') := by simp [getI, hi]
      have e2 : getB zs p' n' = capB (num zs p' n') := by simp [getB, hi]
      rw [e1, e2]
      exact get_yes b off cap zs p' n' w hc h1 h2 h3 (by omega) (by omega) (by omega)
  · have hi' : insB zs.length p n = false := by simpa using hi
    have e1 : getI zs p n = 0 := by simp [getI, hi']
    have e2 : getB zs p n = false := by simp [getB, hi']
    rw [e1, e2]
    refine (get_no a zs.length cap p n w (by omega) hi').mono ?_
    rintro e w' ⟨rfl, rfl⟩
    exact ⟨rfl, Below.refl _ _⟩

theorem refget_any (a : Option Addr) (cap : Nat) (zs : List Int) (p n : Int) (w : World) (h : Row w a cap zs) :
    Calls Try.prog 43 #[.slice a zs.length cap, .int .i64 p, .int .i64 n] w fun e w' => e = .returned (.tuple #[.int .i64 (getI zs p n), .bool (getB zs p n)]) ∧ w = w' := by
  obtain ⟨h1, h2, h3, h4⟩ := h
  by_cases hi : insB zs.length p n = true
  · have hv := insB_yes hi
    obtain ⟨p', rfl⟩ := Int.eq_ofNat_of_zero_le hv.2.2.1
    obtain ⟨n', rfl⟩ := Int.eq_ofNat_of_zero_le (show 0 ≤ n by omega)
    rcases h4 with rfl | ⟨b, off, rfl, hc⟩
    · simp at hv; omega
    · have e1 : getI zs p' n' = capI (num zs p' n') := by simp [getI, hi]
      have e2 : getB zs p' n' = capB (num zs p' n') := by simp [getB, hi]
      rw [e1, e2]
      exact refget_yes b off cap zs p' n' w hc h1 (by omega) (by omega) (by omega) (by omega)
  · have hi' : insB zs.length p n = false := by simpa using hi
    have e1 : getI zs p n = 0 := by simp [getI, hi']
    have e2 : getB zs p n = false := by simp [getB, hi']
    rw [e1, e2]
    exact refget_no a zs.length cap p n w (by omega) hi'
end Go.Proofs.Ytbamdcjhcmogbaa.Oct
