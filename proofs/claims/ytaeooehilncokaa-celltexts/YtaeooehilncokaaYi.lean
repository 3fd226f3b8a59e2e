/-
  The fields of a piece and of a kid.
-/
import Derived.Test.YtaeooehilncokaaYh
import Derived.StillTailTactics
namespace Go.Proofs.Ytaeooehilncokaa.Oct
open Go.RowKit

/-- The list of fields of the block B, at F. -/
def Fd4 (t : Bool) (w : World) (F B : Nat) : Prop := ∀ k, k < 4 → w.cell? ⟨F, k * 2, none⟩ = some (.int .i64 (wdC t k : Nat)) ∧ w.cell? ⟨F, k * 2 + 1, none⟩ = some (.pointer (some ⟨B, k, none⟩))
theorem Fd4.lt {t : Bool} {w : World} {F B : Nat} (h : Fd4 t w F B) : F < w.heap.size := block_lt_of_cell (h 0 (by omega)).1
theorem Fd4.same {t : Bool} {w w1 : World} {F B : Nat} (h : Fd4 t w F B) (k : w1.heap[F]? = w.heap[F]?) : Fd4 t w1 F B := fun i hi => by
  obtain ⟨h0, h1⟩ := h i hi
  exact ⟨(World.cell?_of_block k).trans h0, (World.cell?_of_block k).trans h1⟩
theorem Fd4.below {t : Bool} {w w1 : World} {F B : Nat} (h : Fd4 t w F B) (k : Below w.heap.size w w1) : Fd4 t w1 F B := h.same (k.block F h.lt)

theorem pieceFd_new (w : World) (B : Nat) (t : TypeId) : Fd4 false (w.alloc (.cells #[.int .i64 4, .pointer (some ⟨B, 0, none⟩), .int .i64 2, .pointer (some ⟨B, 1, none⟩), .int .i64 2, .pointer (some ⟨B, 2, none⟩), .int .i64 2, .pointer (some ⟨B, 3, none⟩)] t)) w.heap.size B := by
  intro k hk
  rcases four hk with rfl | rfl | rfl | rfl <;> simp [World.cell?_alloc_at, wdC]

set_option maxHeartbeats 1000000 in
set_option maxRecDepth 20000 in
theorem pieceFields_v (B : Nat) (w : World) :
    Calls Try.prog 45 #[.pointer (some ⟨B, 0, none⟩)] w fun e w' => e = .returned (.slice (some ⟨w.heap.size, 0, none⟩) 4 4) ∧ Fd4 false w' w.heap.size B ∧ Below w.heap.size w w' := by
  go_enter Try.func45, Try.ntmps45
  go_wp2_with fail
  go_still_tail 16, (by kernel_rfl)
  go_wp2
  go_ret
  exact ⟨rfl, (pieceFd_new w B 102).same rfl, ((Below.refl _ _).alloc (Nat.le_refl _) _).drew⟩

theorem kidFd_new (w : World) (B : Nat) (t : TypeId) : Fd4 true (w.alloc (.cells #[.int .i64 4, .pointer (some ⟨B, 0, none⟩), .int .i64 4, .pointer (some ⟨B, 1, none⟩), .int .i64 8, .pointer (some ⟨B, 2, none⟩), .int .i64 4, .pointer (some ⟨B, 3, none⟩)] t)) w.heap.size B := by
  intro k hk
  rcases four hk with rfl | rfl | rfl | rfl <;> simp [World.cell?_alloc_at, wdC]

set_option maxHeartbeats 1000000 in
set_option maxRecDepth 20000 in
theorem kidFields_v (B : Nat) (w : World) :
    Calls Try.prog 53 #[.pointer (some ⟨B, 0, none⟩)] w fun e w' => e = .returned (.slice (some ⟨w.heap.size, 0, none⟩) 4 4) ∧ Fd4 true w' w.heap.size B ∧ Below w.heap.size w w' := by
  go_enter Try.func53, Try.ntmps53
  go_wp2_with fail
  go_still_tail 16, (by kernel_rfl)
  go_wp2
  go_ret
  exact ⟨rfl, (kidFd_new w B 102).same rfl, ((Below.refl _ _).alloc (Nat.le_refl _) _).drew⟩
end Go.Proofs.Ytaeooehilncokaa.Oct
