/-
  The contracts of both Puts over a row of bytes, and the walk of laid.
-/
import Derived.Test.YtbamdcjhcmogbaaQh
import Derived.Test.YtbamdcjhcmogbaaSm
namespace Go.Proofs.Ytbamdcjhcmogbaa.Oct
open Go.RowKit

def putB (zs : List Int) (p n x : Int) : Bool := insB zs.length p n && fitB n x
def putR (zs : List Int) (p n x : Int) : List Int := if putB zs p n x then putL zs p.toNat n.toNat x.toNat else []

theorem putR_bys {zs : List Int} (h : Bys zs) (p n x : Int) : Bys (putR zs p n x) := by
  unfold putR
  split
  · exact putL_bys h _ _ _
  · intro z hz; simp at hz

theorem fit_out {n x : Int} (h : fitB n x = true) : 0 ≤ x ∧ x ≤ 4611686018427387904 ∧ x < 256 ^ n.toNat := of_decide_eq_true h

theorem put_parts {zs : List Int} {p n x : Int} (h : putB zs p n x = true) :
    ∃ p' n' X : Nat, p = p' ∧ n = n' ∧ x = X ∧ 1 ≤ n' ∧ n' ≤ 8 ∧ p' + n' ≤ zs.length ∧ X ≤ 4611686018427387904 ∧ X < 256 ^ n' := by
  unfold putB at h
  rw [Bool.and_eq_true] at h
  have h1 := insB_yes h.1
  have h2 := fit_out h.2
  obtain ⟨p', rfl⟩ := Int.eq_ofNat_of_zero_le h1.2.2.1
  obtain ⟨n', rfl⟩ := Int.eq_ofNat_of_zero_le (show 0 ≤ n by omega)
  obtain ⟨X, rfl⟩ := Int.eq_ofNat_of_zero_le h2.1
  refine ⟨p', n', X, rfl, rfl, rfl, by omega, by omega, by omega, by omega, ?_⟩
  have h3 := h2.2.2
  rw [Int.toNat_natCast] at h3
  have h4 : ((X : Nat) : Int) < ((256 ^ n' : Nat) : Int) := by rw [Int.natCast_pow]; exact h3
  exact Int.ofNat_lt.1 h4

theorem put_any (a : Option Addr) (cap : Nat) (zs : List Int) (p n x : Int) (w : World) (h : Row w a cap zs) (hsz : zs.length ≤ 140737488355328) (hx : x ≤ 9223372036854775807) :
    Calls Try.prog 32 #[.slice a zs.length cap, .int .i64 p, .int .i64 n, .int .i64 x] w fun e w' => ∃ v, e = .returned (.tuple #[v, .bool (putB zs p n x)]) ∧ Own w.heap.size w' v (putR zs p n x) ∧ Below w.heap.size w w' := by
  by_cases hb : putB zs p n x = true
  · obtain ⟨p', n', X, rfl, rfl, rfl, h1, h8, hp, hX, hXn⟩ := put_parts hb
    obtain ⟨_, g2, g3, g4⟩ := h
    rcases g4 with rfl | ⟨b, off, rfl, hc⟩
    · simp at hp; omega
    · have e : putR zs p' n' X = putL zs p' n' X := by simp [putR, hb]
      rw [e, hb]
      exact put_yes b off cap zs p' n' X w hc g2 g3 hsz h1 h8 hp hX hXn
  · have hb' : putB zs p n x = false := by simpa using hb
    have e : putR zs p n x = [] := by simp [putR, hb']
    rw [e, hb']
    refine (put_no a zs.length cap p n x w (Nat.le_trans h.2.1 h.2.2.1) hx hb').mono ?_
    rintro e w' ⟨rfl, rfl⟩
    exact ⟨_, rfl, World.ownsRow_nil _ _ _ _, Below.refl _ _⟩

theorem refput_any (a : Option Addr) (cap : Nat) (zs : List Int) (p n x : Int) (w : World) (h : Row w a cap zs) (hsz : zs.length ≤ 140737488355328) :
    Calls Try.prog 35 #[.slice a zs.length cap, .int .i64 p, .int .i64 n, .int .i64 x] w fun e w' => ∃ v, e = .returned (.tuple #[v, .bool (putB zs p n x)]) ∧ Own w.heap.size w' v (putR zs p n x) ∧ Below w.heap.size w w' := by
  by_cases hb : putB zs p n x = true
  · obtain ⟨p', n', X, rfl, rfl, rfl, h1, h8, hp, hX, hXn⟩ := put_parts hb
    have hr := h
    obtain ⟨_, g2, g3, g4⟩ := h
    rcases g4 with rfl | ⟨b, off, rfl, hc⟩
    · simp at hp; omega
    · have e : putR zs p' n' X = putL zs p' n' X := by simp [putR, hb]
      rw [e, hb]
      exact refput_yes b off cap zs p' n' X w hr hsz h1 h8 hp hX hXn
  · have hb' : putB zs p n x = false := by simpa using hb
    have e : putR zs p n x = [] := by simp [putR, hb']
    rw [e, hb']
    refine (refput_no a zs.length cap p n x w (Nat.le_trans h.2.1 h.2.2.1) hb').mono ?_
    rintro e w' ⟨rfl, rfl⟩
    exact ⟨_, rfl, World.ownsRow_nil _ _ _ _, Below.refl _ _⟩

/-- What was laid is read. -/
theorem get_put {zs : List Int} {p n x : Int} (h : putB zs p n x = true) : getI (putR zs p n x) p n = x ∧ getB (putR zs p n x) p n = true := by
  obtain ⟨p', n', X, rfl, rfl, rfl, h1, h8, hp, hX, hXn⟩ := put_parts h
  have e : putR zs p' n' X = putL zs p' n' X := by simp [putR, h]
  have hi : insB (putL zs p' n' X).length p' n' = true := by rw [putL_len]; simp [insB]; omega
  have hn := num_put zs p' n' X hp hXn
  have hc := cap_yes (c := (X : Int)) (by omega)
  rw [e]
  unfold getI getB
  rw [hi, if_pos rfl, if_pos rfl, Int.toNat_natCast, Int.toNat_natCast, hn]
  exact hc

theorem same_self (xs : List Int) : sameB xs xs = true := by simp [sameB]

end Go.Proofs.Ytbamdcjhcmogbaa.Oct
