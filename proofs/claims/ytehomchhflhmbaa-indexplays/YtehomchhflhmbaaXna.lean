/-
  Lines of a row of bytes, plainly: where they begin, on which one a place is.
-/
import Derived.Test.YtehomchhflhmbaaR
namespace Go.Proofs.Ytehomchhflhmbaa.Oct

/-- Where lines begin behind a byte 10, of bytes that stand from o on. -/
def endsF : Int → List Int → List Int
  | _, [] => []
  | o, z :: zs => if z = 10 then (o + 1) :: endsF (o + 1) zs else endsF (o + 1) zs

theorem endsF_cons (o z : Int) (zs : List Int) : endsF o (z :: zs) = if z = 10 then (o + 1) :: endsF (o + 1) zs else endsF (o + 1) zs := rfl
theorem endsF_len (o : Int) (b : List Int) : (endsF o b).length = b.count 10 := by
  induction b generalizing o with
  | nil => rfl
  | cons z zs ih =>
    unfold endsF
    split
    · next h => rw [h, List.length_cons, ih, List.count_cons_self]
    · next h => rw [ih, List.count_cons_of_ne h]
theorem endsF_app (o : Int) (a b : List Int) : endsF o (a ++ b) = endsF o a ++ endsF (o + a.length) b := by
  induction a generalizing o with
  | nil => simp [endsF]
  | cons z zs ih =>
    rw [List.cons_append, endsF_cons, endsF_cons, ih, show o + 1 + (zs.length : Int) = o + ((z :: zs).length : Int) by simp; omega]
    split <;> rfl
theorem endsF_add (o d : Int) (b : List Int) : endsF (o + d) b = (endsF o b).map (· + d) := by
  induction b generalizing o with
  | nil => rfl
  | cons z zs ih =>
    unfold endsF
    rw [show o + d + 1 = o + 1 + d by omega, ih]
    split
    · rfl
    · rfl
theorem endsF_in {o : Int} {b : List Int} {e : Int} (h : e ∈ endsF o b) : o < e ∧ e ≤ o + b.length := by
  induction b generalizing o with
  | nil => cases h
  | cons z zs ih =>
    unfold endsF at h
    have hl : ((z :: zs).length : Int) = zs.length + 1 := by simp
    split at h
    · rcases List.mem_cons.1 h with rfl | h
      · omega
      · have := ih h; omega
    · have := ih h; omega
theorem endsF_pair (o : Int) (b : List Int) : (endsF o b).Pairwise (· < ·) := by
  induction b generalizing o with
  | nil => exact List.Pairwise.nil
  | cons z zs ih =>
    unfold endsF
    split
    · exact List.Pairwise.cons (fun e he => (endsF_in he).1) (ih _)
    · exact ih _
/-- So many of them are at a place or ahead of it. -/
theorem endsF_upto (o : Int) (b : List Int) (at' : Nat) (h : at' ≤ b.length) : endsF o b = endsF o (b.take at') ++ endsF (o + at') (b.drop at') := by
  have := endsF_app o (b.take at') (b.drop at')
  rw [List.take_append_drop] at this
  rw [this, List.length_take, Nat.min_eq_left h]

def nlC (b : List Int) : Nat := b.count 10
def bgB (b : List Int) (k : Int) : Bool := decide (0 ≤ k ∧ k ≤ (nlC b : Int))
def bgV (b : List Int) (k : Int) : Int := if 1 ≤ k ∧ k ≤ (nlC b : Int) then (endsF 0 b).getD (k.toNat - 1) 0 else 0
def liB (b : List Int) (p : Int) : Bool := decide (0 ≤ p ∧ p ≤ (b.length : Int))
def liV (b : List Int) (p : Int) : Int := if 0 ≤ p ∧ p ≤ (b.length : Int) then (nlC (b.take p.toNat) : Int) else 0
def cutL (b : List Int) (p : Int) : List Int := if 0 ≤ p ∧ p ≤ (b.length : Int) then b.take p.toNat else b
def edL (b : List Int) (p o : Int) (c : List Int) : List Int :=
  if p < 0 ∨ o < 0 ∨ (b.length : Int) < p then b else if (b.length : Int) - p < o then b.take p.toNat else b.take p.toNat ++ c ++ b.drop (p.toNat + o.toNat)

theorem nlC_app (a b : List Int) : nlC (a ++ b) = nlC a + nlC b := List.count_append ..
theorem nlC_le (b : List Int) : nlC b ≤ b.length := List.count_le_length
theorem nlC_take_le (b : List Int) (k : Nat) : nlC (b.take k) ≤ nlC b := by
  have := nlC_app (b.take k) (b.drop k)
  rw [List.take_append_drop] at this
  omega
theorem nlC_snoc (b : List Int) (i : Nat) (h : i < b.length) : nlC (b.take (i + 1)) = nlC (b.take i) + (if b.getD i 0 = 10 then 1 else 0) := by
  rw [take_snoc b i h, nlC_app]
  congr 1
  unfold nlC
  rw [List.count_singleton]
  by_cases e : b.getD i 0 = 10
  · rw [e]; rfl
  · rw [if_neg e, if_neg (by simpa using e)]
/-- The byte 10 number k (from 0 on) stands at i: line k + 1 begins behind it. -/
theorem ends_at (b : List Int) (i : Nat) (h : i < b.length) (h10 : b.getD i 0 = 10) : (endsF 0 b).getD (nlC (b.take i)) 0 = (i : Int) + 1 := by
  have h1 := endsF_upto 0 b (i + 1) (by omega)
  have h2 := endsF_upto 0 (b.take (i + 1)) i (by rw [List.length_take]; omega)
  have e1 : (b.take (i + 1)).take i = b.take i := by rw [List.take_take, Nat.min_eq_left (by omega)]
  have e2 : (b.take (i + 1)).drop i = [b.getD i 0] := by
    rw [take_snoc b i h, List.drop_append_of_le_length (by rw [List.length_take]; omega), List.drop_eq_nil_of_le (by rw [List.length_take]; omega)]
    rfl
  rw [e1, e2, h10] at h2
  rw [h1, h2]
  have hl : (endsF 0 (b.take i)).length = nlC (b.take i) := endsF_len ..
  simp only [List.append_assoc, List.getD_eq_getElem?_getD]
  rw [List.getElem?_append_right (by rw [hl]; exact Nat.le_refl _), hl, Nat.sub_self]
  simp [endsF]
/-- Of the lines that begin behind a byte 10 the one number k: where. -/
theorem ends_find (b : List Int) (k : Nat) (h : k < nlC b) : ∃ i, i < b.length ∧ b.getD i 0 = 10 ∧ nlC (b.take i) = k ∧ (endsF 0 b).getD k 0 = (i : Int) + 1 := by
  have key : ∀ n, n ≤ b.length → k < nlC (b.take n) → ∃ i, i < n ∧ b.getD i 0 = 10 ∧ nlC (b.take i) = k := by
    intro n
    induction n with
    | zero => intro _ h; exact absurd h (by unfold nlC; simp)
    | succ n ih =>
      intro hn h
      rw [nlC_snoc b n (by omega)] at h
      by_cases h2 : k < nlC (b.take n)
      · obtain ⟨i, a, b', c⟩ := ih (by omega) h2
        exact ⟨i, by omega, b', c⟩
      · by_cases e : b.getD n 0 = 10
        · rw [if_pos e] at h
          exact ⟨n, by omega, e, by omega⟩
        · rw [if_neg e] at h
          omega
  obtain ⟨i, hi, h10, hk⟩ := key b.length (Nat.le_refl _) (by rw [List.take_length]; exact h)
  exact ⟨i, hi, h10, hk, by rw [← hk]; exact ends_at b i hi h10⟩
end Go.Proofs.Ytehomchhflhmbaa.Oct
