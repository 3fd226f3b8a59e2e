/-
  Expressions, plainly: a number alone.
-/
import Derived.Test.YtalifohnieclhaaGreatDoorPb
namespace Go.Proofs.YtalifohnieclhaaGreatDoor.Oct

/-- A text of signs of a number alone. -/
theorem tk_nc {t l : List UInt8} {c : UInt8} {m : List UInt8} (ht : t = c :: m) (hc : nc c = false) (hl : ∀ b ∈ l, nc b = true) : tk t l = false := by
  subst ht
  refine Bool.eq_false_iff.2 fun h => ?_
  have := hl c ((List.isPrefixOf_iff_prefix.1 h).subset List.mem_cons_self)
  rw [hc] at this; cases this

theorem tw_id {l : List UInt8} (hl : ∀ b ∈ l, nc b = true) : l.takeWhile nc = l ∧ l.dropWhile nc = [] := by
  induction l with
  | nil => exact ⟨rfl, rfl⟩
  | cons c l ih =>
    have h1 := hl c List.mem_cons_self
    have h2 := ih fun b hb => hl b (List.mem_cons_of_mem _ hb)
    rw [List.takeWhile_cons, List.dropWhile_cons, h1]
    exact ⟨by simp [h2.1], by simp [h2.2]⟩

theorem tb_nc {l : List UInt8} (hl : ∀ b ∈ l, nc b = true) : tb l = l := by
  cases l with
  | nil => rfl
  | cons c l =>
    rw [tb_cons, if_neg]
    rintro rfl
    have := hl 32 List.mem_cons_self
    revert this; decide

theorem pF_nc (n : Nat) {l : List UInt8} (hl : ∀ b ∈ l, nc b = true) {v : Nat} (hv : dcm l = some v) : pF (n + 1) l = some (v, [], 0) := by
  unfold pF
  rw [if_neg (ne_t (tk_nc rfl (by decide) hl)), if_neg (ne_t (tk_nc rfl (by decide) hl)), if_neg (ne_t (tk_nc rfl (by decide) hl)), if_neg (ne_t (tk_nc rfl (by decide) hl)), if_neg (ne_t (tk_nc rfl (by decide) hl)), if_neg (ne_t (tk_nc rfl (by decide) hl)), if_neg (ne_t (tk_nc rfl (by decide) hl)), (tw_id hl).1, (tw_id hl).2, hv]
  rfl

/-- A factor that is all there is. -/
theorem pE_one {F : List UInt8 → Res} (n : Nat) {l : List UInt8} {v k : Nat} (h : F l = some (v, [], k)) : pE F (n + 1) l = some (v, [], k) := by
  unfold pE ps
  rw [show pT F (n + 1) l = some (v, [], k) from by unfold pT ps; rw [h]; rfl]
  rfl

theorem pW_one (n : Nat) {l : List UInt8} {v k : Nat} (hl : tb l = l) (h : pF (n + 1) l = some (v, [], k)) : pW (n + 1) l = some (v, [], k) := by
  unfold pW
  rw [hl, pE_one n h]
  rfl

theorem pF_neg (n : Nat) {l : List UInt8} (hl : tb l = l) {v k : Nat} {r : List UInt8} (h : pF n l = some (v, r, k)) : pF (n + 1) (45 :: l) = some (negN v, r, k + 1) := by
  unfold pF
  rw [if_pos (by rfl), show go [45] (45 :: l) = l from hl, h]
  rfl

end Go.Proofs.YtalifohnieclhaaGreatDoor.Oct
