/-
  A superblock's numbers in memory; the list of its fields.
-/
import Derived.Test.YtoadkdjmbhflnaaUa
import Derived.Test.YtoadkdjmbhflnaaZo
import Derived.StillTailTactics
namespace Go.Proofs.Ytoadkdjmbhflnaa.Oct
open Go.RowKit

/-- Eight cells of a block. -/
def Sl8 (w : World) (B : Nat) (S : Sp) : Prop :=
  w.cell? ⟨B, 0, none⟩ = some (.int .i64 S.g) ∧ w.cell? ⟨B, 1, none⟩ = some (.int .i64 S.p) ∧ w.cell? ⟨B, 2, none⟩ = some (.int .i64 S.r) ∧ w.cell? ⟨B, 3, none⟩ = some (.int .i64 S.h) ∧
  w.cell? ⟨B, 4, none⟩ = some (.int .i64 S.b) ∧ w.cell? ⟨B, 5, none⟩ = some (.int .i64 S.l) ∧ w.cell? ⟨B, 6, none⟩ = some (.int .i64 S.s) ∧ w.cell? ⟨B, 7, none⟩ = some (.int .i64 S.f)

theorem Sl8.lt {w : World} {B : Nat} {S : Sp} (h : Sl8 w B S) : B < w.heap.size := block_lt_of_cell h.1

theorem Sl8.same {w w1 : World} {B : Nat} {S : Sp} (h : Sl8 w B S) (k : w1.heap[B]? = w.heap[B]?) : Sl8 w1 B S := by
  obtain ⟨h0, h1, h2, h3, h4, h5, h6, h7⟩ := h
  exact ⟨(World.cell?_of_block k).trans h0, (World.cell?_of_block k).trans h1, (World.cell?_of_block k).trans h2, (World.cell?_of_block k).trans h3, (World.cell?_of_block k).trans h4, (World.cell?_of_block k).trans h5, (World.cell?_of_block k).trans h6, (World.cell?_of_block k).trans h7⟩

theorem Sl8.below {w w1 : World} {B : Nat} {S : Sp} (h : Sl8 w B S) (k : Below w.heap.size w w1) : Sl8 w1 B S := h.same (k.block B h.lt)

theorem Sl8.at {w : World} {B : Nat} {S : Sp} (h : Sl8 w B S) {k : Nat} (hk : k < 8) : w.cell? ⟨B, k, none⟩ = some (.int .i64 (atS S k)) := by
  obtain ⟨h0, h1, h2, h3, h4, h5, h6, h7⟩ := h
  rcases eight hk with rfl | rfl | rfl | rfl | rfl | rfl | rfl | rfl <;> assumption

theorem sl8_new (w : World) (S : Sp) (t : TypeId) : Sl8 (w.alloc (.cells #[.int .i64 S.g, .int .i64 S.p, .int .i64 S.r, .int .i64 S.h, .int .i64 S.b, .int .i64 S.l, .int .i64 S.s, .int .i64 S.f] t)) w.heap.size S := by
  unfold Sl8
  simp

/-- The number of the function that asks field k. -/
def ff (k : Nat) : Nat := match k with
  | 0 => 40
  | 1 => 41
  | 2 => 42
  | 3 => 43
  | 4 => 44
  | 5 => 45
  | 6 => 46
  | _ => 47

/-- The list of fields of the block B, at F. -/
def Fds (w : World) (F B : Nat) : Prop := ∀ k, k < 8 → w.cell? ⟨F, k * 3, none⟩ = some (.int .i64 (wdS k : Nat)) ∧ w.cell? ⟨F, k * 3 + 1, none⟩ = some (.pointer (some ⟨B, k, none⟩)) ∧ w.cell? ⟨F, k * 3 + 2, none⟩ = some (.func (Fn.func (ff k)) #[.pointer (some ⟨B, 0, none⟩)] #[])

theorem Fds.lt {w : World} {F B : Nat} (h : Fds w F B) : F < w.heap.size := block_lt_of_cell (h 0 (by omega)).1

theorem Fds.same {w w1 : World} {F B : Nat} (h : Fds w F B) (k : w1.heap[F]? = w.heap[F]?) : Fds w1 F B := fun i hi => by
  obtain ⟨h0, h1, h2⟩ := h i hi
  exact ⟨(World.cell?_of_block k).trans h0, (World.cell?_of_block k).trans h1, (World.cell?_of_block k).trans h2⟩

theorem Fds.below {w w1 : World} {F B : Nat} (h : Fds w F B) (k : Below w.heap.size w w1) : Fds w1 F B := h.same (k.block F h.lt)

theorem fds_new (w : World) (B : Nat) (t : TypeId) : Fds (w.alloc (.cells #[.int .i64 8, .pointer (some ⟨B, 0, none⟩), .func (Fn.func 40) #[.pointer (some ⟨B, 0, none⟩)] #[], .int .i64 4, .pointer (some ⟨B, 1, none⟩), .func (Fn.func 41) #[.pointer (some ⟨B, 0, none⟩)] #[], .int .i64 4, .pointer (some ⟨B, 2, none⟩), .func (Fn.func 42) #[.pointer (some ⟨B, 0, none⟩)] #[], .int .i64 2, .pointer (some ⟨B, 3, none⟩), .func (Fn.func 43) #[.pointer (some ⟨B, 0, none⟩)] #[], .int .i64 4, .pointer (some ⟨B, 4, none⟩), .func (Fn.func 44) #[.pointer (some ⟨B, 0, none⟩)] #[], .int .i64 4, .pointer (some ⟨B, 5, none⟩), .func (Fn.func 45) #[.pointer (some ⟨B, 0, none⟩)] #[], .int .i64 4, .pointer (some ⟨B, 6, none⟩), .func (Fn.func 46) #[.pointer (some ⟨B, 0, none⟩)] #[], .int .i64 4, .pointer (some ⟨B, 7, none⟩), .func (Fn.func 47) #[.pointer (some ⟨B, 0, none⟩)] #[]] t)) w.heap.size B := by
  intro k hk
  rcases eight hk with rfl | rfl | rfl | rfl | rfl | rfl | rfl | rfl <;> simp [World.cell?_alloc_at, ff, wdS]

set_option maxHeartbeats 1000000 in
theorem fields_any (B : Nat) (w : World) :
    Calls Try.prog 27 #[.pointer (some ⟨B, 0, none⟩)] w fun e w' => e = .returned (.slice (some ⟨w.heap.size, 0, none⟩) 8 8) ∧ Fds w' w.heap.size B ∧ Below w.heap.size w w' ∧ w'.heap.size = w.heap.size + 1 := by
  go_enter Try.func27, Try.ntmps27
  go_wp2_with fail
  go_still_tail 56, (by kernel_rfl)
  go_wp2
  go_ret
  refine ⟨rfl, (fds_new w B 67).same rfl, ((Below.refl _ _).alloc (Nat.le_refl _) _).drew, ?_⟩
  show (w.heap.push _).size = _
  simp
end Go.Proofs.Ytoadkdjmbhflnaa.Oct
