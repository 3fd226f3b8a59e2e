/-
  Rows that came in.
-/
import Derived.Test.YtbamdcjhcmogbaaRi
import Derived.Deep.Slices
import Derived.ChangeSame
import Derived.ProofKit
namespace Go.Proofs.Ytbamdcjhcmogbaa.Oct
open Go.RowKit Go.ChangeShapes Go.WideShapes

set_option maxRecDepth 20000 in
theorem open_intsJ {H : Type} {enc : TypeId × Value → H} {w : World} {base fuel : Nat} {held : Bool} {v : Value} {x : DataW H × List MemPlace} (h : DataW.trod enc Try.prog w base (fun _ => true) held fuel 29 [v] = some x) :
    ∃ a ys cap, v = .slice a ys.length cap ∧ RowI w a cap ys ∧ ∀ z ∈ ys, -9223372036854775808 ≤ z ∧ z ≤ 9223372036854775807 := by
  rcases open_ints Try.underlying29 Try.underlying3 (by kernel_rfl) h with ⟨hcs, _⟩ | ⟨x, l, c, zs, hcs, _, hl, hm, hz, _, hcell, hwz⟩
  · simp at hcs
    exact ⟨none, [], 0, hcs, ⟨Nat.le_refl _, by simp [maxLen], .inl rfl⟩, fun z hz => by simp at hz⟩
  · simp at hcs
    have hr : IsRow .i64 w (some x) l c zs := .inr ⟨_, rfl, hl, hm, by simpa using hz, hcell, hwz⟩
    obtain ⟨ys, e, r, b⟩ := hr.rowI
    exact ⟨some x, ys, c, by rw [hcs, e], r, b⟩
set_option maxRecDepth 20000 in
theorem open_bytesJ {H : Type} {enc : TypeId × Value → H} {w : World} {base fuel : Nat} {held : Bool} {v : Value} {x : DataW H × List MemPlace} (h : DataW.trod enc Try.prog w base (fun _ => true) held fuel 27 [v] = some x) :
    ∃ a ys cap, v = .slice a ys.length cap ∧ Row w a cap ys ∧ (a = none → cap = 0) := by
  rcases open_ints Try.underlying27 Try.underlying5 (by kernel_rfl) h with ⟨hcs, _⟩ | ⟨x, l, c, zs, hcs, _, hl, hm, hz, _, hcell, hwz⟩
  · simp at hcs
    exact ⟨none, [], 0, hcs, ⟨fun z hz => by simp at hz, Nat.le_refl _, by simp [maxLen], .inl rfl⟩, fun _ => rfl⟩
  · simp at hcs
    have hr : IsRow .u8 w (some x) l c zs := .inr ⟨_, rfl, hl, hm, by simpa using hz, hcell, hwz⟩
    obtain ⟨ys, h1, h2⟩ := hr.row
    exact ⟨some x, ys, c, by rw [hcs, h1], h2, fun e => by cases e⟩

end Go.Proofs.Ytbamdcjhcmogbaa.Oct
