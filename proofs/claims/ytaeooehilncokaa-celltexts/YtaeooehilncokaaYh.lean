/-
  What may be a piece, what a kid: cell's, the document's.
-/
import Derived.Test.YtaeooehilncokaaYg
namespace Go.Proofs.Ytaeooehilncokaa.Oct
open Go.RowKit
set_option linter.unusedVariables false

set_option maxHeartbeats 1000000 in
theorem mayP_0 (a b c d : Int) (w : World) (wb : -9223372036854775808 ≤ b ∧ b ≤ 9223372036854775807)  (h0 : a < 2) :
    Calls Try.prog 31 #[.agg #[.int .i64 a, .int .i64 b, .int .i64 c, .int .i64 d]] w fun e w' => e = .returned (.bool false) ∧ Below w.heap.size w w' := by
  go_enter Try.func31, Try.ntmps31
  go_wp2
  go_ret
  exact ⟨rfl, (Below.refl _ _).alloc (Nat.le_refl _) _⟩

set_option maxHeartbeats 1000000 in
theorem mayP_1 (a b c d : Int) (w : World) (wb : -9223372036854775808 ≤ b ∧ b ≤ 9223372036854775807) (h0 : 2 ≤ a) (h1 : 4096 ≤ a) :
    Calls Try.prog 31 #[.agg #[.int .i64 a, .int .i64 b, .int .i64 c, .int .i64 d]] w fun e w' => e = .returned (.bool false) ∧ Below w.heap.size w w' := by
  go_enter Try.func31, Try.ntmps31
  go_wp2
  go_ret
  exact ⟨rfl, (Below.refl _ _).alloc (Nat.le_refl _) _⟩

set_option maxHeartbeats 1000000 in
theorem mayP_2 (a b c d : Int) (w : World) (wb : -9223372036854775808 ≤ b ∧ b ≤ 9223372036854775807) (h0 : 2 ≤ a) (h1 : a < 4096) (h2 : b < 0) :
    Calls Try.prog 31 #[.agg #[.int .i64 a, .int .i64 b, .int .i64 c, .int .i64 d]] w fun e w' => e = .returned (.bool false) ∧ Below w.heap.size w w' := by
  go_enter Try.func31, Try.ntmps31
  go_wp2
  go_ret
  exact ⟨rfl, (Below.refl _ _).alloc (Nat.le_refl _) _⟩

set_option maxHeartbeats 1000000 in
theorem mayP_3 (a b c d : Int) (w : World) (wb : -9223372036854775808 ≤ b ∧ b ≤ 9223372036854775807) (h0 : 2 ≤ a) (h1 : a < 4096) (h2 : 0 ≤ b) (h3 : 248 < b) :
    Calls Try.prog 31 #[.agg #[.int .i64 a, .int .i64 b, .int .i64 c, .int .i64 d]] w fun e w' => e = .returned (.bool false) ∧ Below w.heap.size w w' := by
  go_enter Try.func31, Try.ntmps31
  go_wp2
  go_ret
  exact ⟨rfl, (Below.refl _ _).alloc (Nat.le_refl _) _⟩

set_option maxHeartbeats 1000000 in
theorem mayP_4 (a b c d : Int) (w : World) (wb : -9223372036854775808 ≤ b ∧ b ≤ 9223372036854775807) (h0 : 2 ≤ a) (h1 : a < 4096) (h2 : 0 ≤ b) (h3 : b ≤ 248) (h4 : c < 1) :
    Calls Try.prog 31 #[.agg #[.int .i64 a, .int .i64 b, .int .i64 c, .int .i64 d]] w fun e w' => e = .returned (.bool false) ∧ Below w.heap.size w w' := by
  go_enter Try.func31, Try.ntmps31
  go_wp2
  go_ret
  exact ⟨rfl, (Below.refl _ _).alloc (Nat.le_refl _) _⟩

set_option maxHeartbeats 1000000 in
theorem mayP_5 (a b c d : Int) (w : World) (wb : -9223372036854775808 ≤ b ∧ b ≤ 9223372036854775807) (h0 : 2 ≤ a) (h1 : a < 4096) (h2 : 0 ≤ b) (h3 : b ≤ 248) (h4 : 1 ≤ c) (h5 : 248 < c) :
    Calls Try.prog 31 #[.agg #[.int .i64 a, .int .i64 b, .int .i64 c, .int .i64 d]] w fun e w' => e = .returned (.bool false) ∧ Below w.heap.size w w' := by
  go_enter Try.func31, Try.ntmps31
  go_wp2
  go_ret
  exact ⟨rfl, (Below.refl _ _).alloc (Nat.le_refl _) _⟩

set_option maxHeartbeats 1000000 in
theorem mayP_6 (a b c d : Int) (w : World) (wb : -9223372036854775808 ≤ b ∧ b ≤ 9223372036854775807) (h0 : 2 ≤ a) (h1 : a < 4096) (h2 : 0 ≤ b) (h3 : b ≤ 248) (h4 : 1 ≤ c) (h5 : c ≤ 248) (h6 : 248 < b + c) :
    Calls Try.prog 31 #[.agg #[.int .i64 a, .int .i64 b, .int .i64 c, .int .i64 d]] w fun e w' => e = .returned (.bool false) ∧ Below w.heap.size w w' := by
  go_enter Try.func31, Try.ntmps31
  go_wp2
  go_ret
  exact ⟨rfl, (Below.refl _ _).alloc (Nat.le_refl _) _⟩

set_option maxHeartbeats 1000000 in
theorem mayP_7 (a b c d : Int) (w : World) (wb : -9223372036854775808 ≤ b ∧ b ≤ 9223372036854775807) (h0 : 2 ≤ a) (h1 : a < 4096) (h2 : 0 ≤ b) (h3 : b ≤ 248) (h4 : 1 ≤ c) (h5 : c ≤ 248) (h6 : b + c ≤ 248) (h7 : d < 0) :
    Calls Try.prog 31 #[.agg #[.int .i64 a, .int .i64 b, .int .i64 c, .int .i64 d]] w fun e w' => e = .returned (.bool false) ∧ Below w.heap.size w w' := by
  go_enter Try.func31, Try.ntmps31
  go_wp2
  go_ret
  exact ⟨rfl, (Below.refl _ _).alloc (Nat.le_refl _) _⟩

set_option maxHeartbeats 1000000 in
theorem mayP_8 (a b c d : Int) (w : World) (wb : -9223372036854775808 ≤ b ∧ b ≤ 9223372036854775807) (h0 : 2 ≤ a) (h1 : a < 4096) (h2 : 0 ≤ b) (h3 : b ≤ 248) (h4 : 1 ≤ c) (h5 : c ≤ 248) (h6 : b + c ≤ 248) (h7 : 0 ≤ d) (h8 : c < d) :
    Calls Try.prog 31 #[.agg #[.int .i64 a, .int .i64 b, .int .i64 c, .int .i64 d]] w fun e w' => e = .returned (.bool false) ∧ Below w.heap.size w w' := by
  go_enter Try.func31, Try.ntmps31
  go_wp2
  go_ret
  exact ⟨by simp [show ¬ d ≤ c from by omega], (Below.refl _ _).alloc (Nat.le_refl _) _⟩

set_option maxHeartbeats 1000000 in
theorem mayP_9 (a b c d : Int) (w : World) (wb : -9223372036854775808 ≤ b ∧ b ≤ 9223372036854775807) (h0 : 2 ≤ a) (h1 : a < 4096) (h2 : 0 ≤ b) (h3 : b ≤ 248) (h4 : 1 ≤ c) (h5 : c ≤ 248) (h6 : b + c ≤ 248) (h7 : 0 ≤ d) (h8 : d ≤ c) :
    Calls Try.prog 31 #[.agg #[.int .i64 a, .int .i64 b, .int .i64 c, .int .i64 d]] w fun e w' => e = .returned (.bool true) ∧ Below w.heap.size w w' := by
  go_enter Try.func31, Try.ntmps31
  go_wp2
  go_ret
  exact ⟨rfl, (Below.refl _ _).alloc (Nat.le_refl _) _⟩

theorem mayP_v (q : C4) (hq : wfC q) (w : World) (V : Bool) (hV : okC false q = V) :
    Calls Try.prog 31 #[.agg #[.int .i64 q.a, .int .i64 q.b, .int .i64 q.c, .int .i64 q.d]] w fun e w' => e = .returned (.bool V) ∧ Below w.heap.size w w' := by
  obtain ⟨a, b, c, d⟩ := q
  subst hV
  have wb : -9223372036854775808 ≤ b ∧ b ≤ 9223372036854775807 := hq.2.1
  dsimp only
  by_cases h0 : 2 ≤ a
  rotate_left
  · rw [show okC false ⟨a, b, c, d⟩ = false from decide_eq_false (show ¬ ((2 ≤ a ∧ a ≤ 4095) ∧ 0 ≤ b ∧ (1 ≤ c ∧ c ≤ 248 - b) ∧ (0 ≤ d ∧ d ≤ c)) by omega)]
    exact mayP_0 a b c d w wb  (by omega)
  by_cases h1 : a < 4096
  rotate_left
  · rw [show okC false ⟨a, b, c, d⟩ = false from decide_eq_false (show ¬ ((2 ≤ a ∧ a ≤ 4095) ∧ 0 ≤ b ∧ (1 ≤ c ∧ c ≤ 248 - b) ∧ (0 ≤ d ∧ d ≤ c)) by omega)]
    exact mayP_1 a b c d w wb h0 (by omega)
  by_cases h2 : 0 ≤ b
  rotate_left
  · rw [show okC false ⟨a, b, c, d⟩ = false from decide_eq_false (show ¬ ((2 ≤ a ∧ a ≤ 4095) ∧ 0 ≤ b ∧ (1 ≤ c ∧ c ≤ 248 - b) ∧ (0 ≤ d ∧ d ≤ c)) by omega)]
    exact mayP_2 a b c d w wb h0 h1 (by omega)
  by_cases h3 : b ≤ 248
  rotate_left
  · rw [show okC false ⟨a, b, c, d⟩ = false from decide_eq_false (show ¬ ((2 ≤ a ∧ a ≤ 4095) ∧ 0 ≤ b ∧ (1 ≤ c ∧ c ≤ 248 - b) ∧ (0 ≤ d ∧ d ≤ c)) by omega)]
    exact mayP_3 a b c d w wb h0 h1 h2 (by omega)
  by_cases h4 : 1 ≤ c
  rotate_left
  · rw [show okC false ⟨a, b, c, d⟩ = false from decide_eq_false (show ¬ ((2 ≤ a ∧ a ≤ 4095) ∧ 0 ≤ b ∧ (1 ≤ c ∧ c ≤ 248 - b) ∧ (0 ≤ d ∧ d ≤ c)) by omega)]
    exact mayP_4 a b c d w wb h0 h1 h2 h3 (by omega)
  by_cases h5 : c ≤ 248
  rotate_left
  · rw [show okC false ⟨a, b, c, d⟩ = false from decide_eq_false (show ¬ ((2 ≤ a ∧ a ≤ 4095) ∧ 0 ≤ b ∧ (1 ≤ c ∧ c ≤ 248 - b) ∧ (0 ≤ d ∧ d ≤ c)) by omega)]
    exact mayP_5 a b c d w wb h0 h1 h2 h3 h4 (by omega)
  by_cases h6 : b + c ≤ 248
  rotate_left
  · rw [show okC false ⟨a, b, c, d⟩ = false from decide_eq_false (show ¬ ((2 ≤ a ∧ a ≤ 4095) ∧ 0 ≤ b ∧ (1 ≤ c ∧ c ≤ 248 - b) ∧ (0 ≤ d ∧ d ≤ c)) by omega)]
    exact mayP_6 a b c d w wb h0 h1 h2 h3 h4 h5 (by omega)
  by_cases h7 : 0 ≤ d
  rotate_left
  · rw [show okC false ⟨a, b, c, d⟩ = false from decide_eq_false (show ¬ ((2 ≤ a ∧ a ≤ 4095) ∧ 0 ≤ b ∧ (1 ≤ c ∧ c ≤ 248 - b) ∧ (0 ≤ d ∧ d ≤ c)) by omega)]
    exact mayP_7 a b c d w wb h0 h1 h2 h3 h4 h5 h6 (by omega)
  by_cases h8 : d ≤ c
  rotate_left
  · rw [show okC false ⟨a, b, c, d⟩ = false from decide_eq_false (show ¬ ((2 ≤ a ∧ a ≤ 4095) ∧ 0 ≤ b ∧ (1 ≤ c ∧ c ≤ 248 - b) ∧ (0 ≤ d ∧ d ≤ c)) by omega)]
    exact mayP_8 a b c d w wb h0 h1 h2 h3 h4 h5 h6 h7 (by omega)
  rw [show okC false ⟨a, b, c, d⟩ = true from decide_eq_true (show ((2 ≤ a ∧ a ≤ 4095) ∧ 0 ≤ b ∧ (1 ≤ c ∧ c ≤ 248 - b) ∧ (0 ≤ d ∧ d ≤ c)) by omega)]
  exact mayP_9 a b c d w wb h0 h1 h2 h3 h4 h5 h6 h7 h8

set_option maxHeartbeats 1000000 in
theorem mayK_0 (a b c d : Int) (w : World) (wb : -9223372036854775808 ≤ b ∧ b ≤ 9223372036854775807)  (h0 : a < 2) :
    Calls Try.prog 38 #[.agg #[.int .i64 a, .int .i64 b, .int .i64 c, .int .i64 d]] w fun e w' => e = .returned (.bool false) ∧ Below w.heap.size w w' := by
  go_enter Try.func38, Try.ntmps38
  go_wp2
  go_ret
  exact ⟨rfl, (Below.refl _ _).alloc (Nat.le_refl _) _⟩

set_option maxHeartbeats 1000000 in
theorem mayK_1 (a b c d : Int) (w : World) (wb : -9223372036854775808 ≤ b ∧ b ≤ 9223372036854775807) (h0 : 2 ≤ a) (h1 : 4096 ≤ a) :
    Calls Try.prog 38 #[.agg #[.int .i64 a, .int .i64 b, .int .i64 c, .int .i64 d]] w fun e w' => e = .returned (.bool false) ∧ Below w.heap.size w w' := by
  go_enter Try.func38, Try.ntmps38
  go_wp2
  go_ret
  exact ⟨rfl, (Below.refl _ _).alloc (Nat.le_refl _) _⟩

set_option maxHeartbeats 1000000 in
theorem mayK_2 (a b c d : Int) (w : World) (wb : -9223372036854775808 ≤ b ∧ b ≤ 9223372036854775807) (h0 : 2 ≤ a) (h1 : a < 4096) (h2 : b < 1) :
    Calls Try.prog 38 #[.agg #[.int .i64 a, .int .i64 b, .int .i64 c, .int .i64 d]] w fun e w' => e = .returned (.bool false) ∧ Below w.heap.size w w' := by
  go_enter Try.func38, Try.ntmps38
  go_wp2
  go_ret
  exact ⟨rfl, (Below.refl _ _).alloc (Nat.le_refl _) _⟩

set_option maxHeartbeats 1000000 in
theorem mayK_3 (a b c d : Int) (w : World) (wb : -9223372036854775808 ≤ b ∧ b ≤ 9223372036854775807) (h0 : 2 ≤ a) (h1 : a < 4096) (h2 : 1 ≤ b) (h3 : c < b) :
    Calls Try.prog 38 #[.agg #[.int .i64 a, .int .i64 b, .int .i64 c, .int .i64 d]] w fun e w' => e = .returned (.bool false) ∧ Below w.heap.size w w' := by
  go_enter Try.func38, Try.ntmps38
  go_wp2
  go_ret
  exact ⟨rfl, (Below.refl _ _).alloc (Nat.le_refl _) _⟩

set_option maxHeartbeats 1000000 in
theorem mayK_4 (a b c d : Int) (w : World) (wb : -9223372036854775808 ≤ b ∧ b ≤ 9223372036854775807) (h0 : 2 ≤ a) (h1 : a < 4096) (h2 : 1 ≤ b) (h3 : b ≤ c) (h4 : 1048576 < c) :
    Calls Try.prog 38 #[.agg #[.int .i64 a, .int .i64 b, .int .i64 c, .int .i64 d]] w fun e w' => e = .returned (.bool false) ∧ Below w.heap.size w w' := by
  go_enter Try.func38, Try.ntmps38
  go_wp2
  go_ret
  exact ⟨rfl, (Below.refl _ _).alloc (Nat.le_refl _) _⟩

set_option maxHeartbeats 1000000 in
theorem mayK_5 (a b c d : Int) (w : World) (wb : -9223372036854775808 ≤ b ∧ b ≤ 9223372036854775807) (h0 : 2 ≤ a) (h1 : a < 4096) (h2 : 1 ≤ b) (h3 : b ≤ c) (h4 : c ≤ 1048576) (h5 : d < 0) :
    Calls Try.prog 38 #[.agg #[.int .i64 a, .int .i64 b, .int .i64 c, .int .i64 d]] w fun e w' => e = .returned (.bool false) ∧ Below w.heap.size w w' := by
  go_enter Try.func38, Try.ntmps38
  go_wp2
  go_ret
  exact ⟨rfl, (Below.refl _ _).alloc (Nat.le_refl _) _⟩

set_option maxHeartbeats 1000000 in
theorem mayK_6 (a b c d : Int) (w : World) (wb : -9223372036854775808 ≤ b ∧ b ≤ 9223372036854775807) (h0 : 2 ≤ a) (h1 : a < 4096) (h2 : 1 ≤ b) (h3 : b ≤ c) (h4 : c ≤ 1048576) (h5 : 0 ≤ d) (h6 : c < d) :
    Calls Try.prog 38 #[.agg #[.int .i64 a, .int .i64 b, .int .i64 c, .int .i64 d]] w fun e w' => e = .returned (.bool false) ∧ Below w.heap.size w w' := by
  go_enter Try.func38, Try.ntmps38
  go_wp2
  go_ret
  exact ⟨by simp [show ¬ d ≤ c from by omega], (Below.refl _ _).alloc (Nat.le_refl _) _⟩

set_option maxHeartbeats 1000000 in
theorem mayK_7 (a b c d : Int) (w : World) (wb : -9223372036854775808 ≤ b ∧ b ≤ 9223372036854775807) (h0 : 2 ≤ a) (h1 : a < 4096) (h2 : 1 ≤ b) (h3 : b ≤ c) (h4 : c ≤ 1048576) (h5 : 0 ≤ d) (h6 : d ≤ c) :
    Calls Try.prog 38 #[.agg #[.int .i64 a, .int .i64 b, .int .i64 c, .int .i64 d]] w fun e w' => e = .returned (.bool true) ∧ Below w.heap.size w w' := by
  go_enter Try.func38, Try.ntmps38
  go_wp2
  go_ret
  exact ⟨rfl, (Below.refl _ _).alloc (Nat.le_refl _) _⟩

theorem mayK_v (q : C4) (hq : wfC q) (w : World) (V : Bool) (hV : okC true q = V) :
    Calls Try.prog 38 #[.agg #[.int .i64 q.a, .int .i64 q.b, .int .i64 q.c, .int .i64 q.d]] w fun e w' => e = .returned (.bool V) ∧ Below w.heap.size w w' := by
  obtain ⟨a, b, c, d⟩ := q
  subst hV
  have wb : -9223372036854775808 ≤ b ∧ b ≤ 9223372036854775807 := hq.2.1
  dsimp only
  by_cases h0 : 2 ≤ a
  rotate_left
  · rw [show okC true ⟨a, b, c, d⟩ = false from decide_eq_false (show ¬ ((2 ≤ a ∧ a ≤ 4095) ∧ 1 ≤ b ∧ (b ≤ c ∧ c ≤ 1048576) ∧ (0 ≤ d ∧ d ≤ c)) by omega)]
    exact mayK_0 a b c d w wb  (by omega)
  by_cases h1 : a < 4096
  rotate_left
  · rw [show okC true ⟨a, b, c, d⟩ = false from decide_eq_false (show ¬ ((2 ≤ a ∧ a ≤ 4095) ∧ 1 ≤ b ∧ (b ≤ c ∧ c ≤ 1048576) ∧ (0 ≤ d ∧ d ≤ c)) by omega)]
    exact mayK_1 a b c d w wb h0 (by omega)
  by_cases h2 : 1 ≤ b
  rotate_left
  · rw [show okC true ⟨a, b, c, d⟩ = false from decide_eq_false (show ¬ ((2 ≤ a ∧ a ≤ 4095) ∧ 1 ≤ b ∧ (b ≤ c ∧ c ≤ 1048576) ∧ (0 ≤ d ∧ d ≤ c)) by omega)]
    exact mayK_2 a b c d w wb h0 h1 (by omega)
  by_cases h3 : b ≤ c
  rotate_left
  · rw [show okC true ⟨a, b, c, d⟩ = false from decide_eq_false (show ¬ ((2 ≤ a ∧ a ≤ 4095) ∧ 1 ≤ b ∧ (b ≤ c ∧ c ≤ 1048576) ∧ (0 ≤ d ∧ d ≤ c)) by omega)]
    exact mayK_3 a b c d w wb h0 h1 h2 (by omega)
  by_cases h4 : c ≤ 1048576
  rotate_left
  · rw [show okC true ⟨a, b, c, d⟩ = false from decide_eq_false (show ¬ ((2 ≤ a ∧ a ≤ 4095) ∧ 1 ≤ b ∧ (b ≤ c ∧ c ≤ 1048576) ∧ (0 ≤ d ∧ d ≤ c)) by omega)]
    exact mayK_4 a b c d w wb h0 h1 h2 h3 (by omega)
  by_cases h5 : 0 ≤ d
  rotate_left
  · rw [show okC true ⟨a, b, c, d⟩ = false from decide_eq_false (show ¬ ((2 ≤ a ∧ a ≤ 4095) ∧ 1 ≤ b ∧ (b ≤ c ∧ c ≤ 1048576) ∧ (0 ≤ d ∧ d ≤ c)) by omega)]
    exact mayK_5 a b c d w wb h0 h1 h2 h3 h4 (by omega)
  by_cases h6 : d ≤ c
  rotate_left
  · rw [show okC true ⟨a, b, c, d⟩ = false from decide_eq_false (show ¬ ((2 ≤ a ∧ a ≤ 4095) ∧ 1 ≤ b ∧ (b ≤ c ∧ c ≤ 1048576) ∧ (0 ≤ d ∧ d ≤ c)) by omega)]
    exact mayK_6 a b c d w wb h0 h1 h2 h3 h4 h5 (by omega)
  rw [show okC true ⟨a, b, c, d⟩ = true from decide_eq_true (show ((2 ≤ a ∧ a ≤ 4095) ∧ 1 ≤ b ∧ (b ≤ c ∧ c ≤ 1048576) ∧ (0 ≤ d ∧ d ≤ c)) by omega)]
  exact mayK_7 a b c d w wb h0 h1 h2 h3 h4 h5 h6

set_option maxHeartbeats 1000000 in
theorem pieceFits_0 (a b c d : Int) (w : World) (wb : -9223372036854775808 ≤ b ∧ b ≤ 9223372036854775807) (h0 : decide (2 ≤ a ∧ a ≤ 4095) = false) :
    Calls Try.prog 46 #[.agg #[.int .i64 a, .int .i64 b, .int .i64 c, .int .i64 d]] w fun e w' => e = .returned (.bool false) ∧ Below w.heap.size w w' := by
  go_enter Try.func46, Try.ntmps46
  go_wp2_with fail
  refine (within_v _ _ _ _ h0 _).mono ?_
  rintro e w1 ⟨rfl, rfl⟩
  go_wp2
  go_ret
  exact ⟨rfl, (Below.refl _ _).alloc (Nat.le_refl _) _⟩

set_option maxHeartbeats 1000000 in
theorem pieceFits_1 (a b c d : Int) (w : World) (wb : -9223372036854775808 ≤ b ∧ b ≤ 9223372036854775807) (h0 : decide (2 ≤ a ∧ a ≤ 4095) = true) (h1 : b < 0) :
    Calls Try.prog 46 #[.agg #[.int .i64 a, .int .i64 b, .int .i64 c, .int .i64 d]] w fun e w' => e = .returned (.bool false) ∧ Below w.heap.size w w' := by
  go_enter Try.func46, Try.ntmps46
  go_wp2_with fail
  refine (within_v _ _ _ _ h0 _).mono ?_
  rintro e w1 ⟨rfl, rfl⟩
  go_wp2
  go_ret
  exact ⟨rfl, (Below.refl _ _).alloc (Nat.le_refl _) _⟩

set_option maxHeartbeats 1000000 in
theorem pieceFits_2 (a b c d : Int) (w : World) (wb : -9223372036854775808 ≤ b ∧ b ≤ 9223372036854775807) (h0 : decide (2 ≤ a ∧ a ≤ 4095) = true) (h1 : 0 ≤ b) (h2 : decide (1 ≤ c ∧ c ≤ 248 - b) = false) :
    Calls Try.prog 46 #[.agg #[.int .i64 a, .int .i64 b, .int .i64 c, .int .i64 d]] w fun e w' => e = .returned (.bool false) ∧ Below w.heap.size w w' := by
  go_enter Try.func46, Try.ntmps46
  go_wp2_with fail
  refine (within_v _ _ _ _ h0 _).mono ?_
  rintro e w1 ⟨rfl, rfl⟩
  go_wp2_with fail
  refine (within_v _ _ _ _ h2 _).mono ?_
  rintro e w1 ⟨rfl, rfl⟩
  go_wp2
  go_ret
  exact ⟨rfl, (Below.refl _ _).alloc (Nat.le_refl _) _⟩

set_option maxHeartbeats 1000000 in
theorem pieceFits_3 (a b c d : Int) (w : World) (wb : -9223372036854775808 ≤ b ∧ b ≤ 9223372036854775807) (h0 : decide (2 ≤ a ∧ a ≤ 4095) = true) (h1 : 0 ≤ b) (h2 : decide (1 ≤ c ∧ c ≤ 248 - b) = true) (h3 : decide (0 ≤ d ∧ d ≤ c) = false) :
    Calls Try.prog 46 #[.agg #[.int .i64 a, .int .i64 b, .int .i64 c, .int .i64 d]] w fun e w' => e = .returned (.bool false) ∧ Below w.heap.size w w' := by
  go_enter Try.func46, Try.ntmps46
  go_wp2_with fail
  refine (within_v _ _ _ _ h0 _).mono ?_
  rintro e w1 ⟨rfl, rfl⟩
  go_wp2_with fail
  refine (within_v _ _ _ _ h2 _).mono ?_
  rintro e w1 ⟨rfl, rfl⟩
  go_wp2_with fail
  refine (within_v _ _ _ _ h3 _).mono ?_
  rintro e w1 ⟨rfl, rfl⟩
  go_wp2
  go_ret
  exact ⟨rfl, (Below.refl _ _).alloc (Nat.le_refl _) _⟩

set_option maxHeartbeats 1000000 in
theorem pieceFits_4 (a b c d : Int) (w : World) (wb : -9223372036854775808 ≤ b ∧ b ≤ 9223372036854775807) (h0 : decide (2 ≤ a ∧ a ≤ 4095) = true) (h1 : 0 ≤ b) (h2 : decide (1 ≤ c ∧ c ≤ 248 - b) = true) (h3 : decide (0 ≤ d ∧ d ≤ c) = true) :
    Calls Try.prog 46 #[.agg #[.int .i64 a, .int .i64 b, .int .i64 c, .int .i64 d]] w fun e w' => e = .returned (.bool true) ∧ Below w.heap.size w w' := by
  go_enter Try.func46, Try.ntmps46
  go_wp2_with fail
  refine (within_v _ _ _ _ h0 _).mono ?_
  rintro e w1 ⟨rfl, rfl⟩
  go_wp2_with fail
  refine (within_v _ _ _ _ h2 _).mono ?_
  rintro e w1 ⟨rfl, rfl⟩
  go_wp2_with fail
  refine (within_v _ _ _ _ h3 _).mono ?_
  rintro e w1 ⟨rfl, rfl⟩
  go_wp2
  go_ret
  exact ⟨rfl, (Below.refl _ _).alloc (Nat.le_refl _) _⟩

theorem pieceFits_v (q : C4) (hq : wfC q) (w : World) (V : Bool) (hV : okC false q = V) :
    Calls Try.prog 46 #[.agg #[.int .i64 q.a, .int .i64 q.b, .int .i64 q.c, .int .i64 q.d]] w fun e w' => e = .returned (.bool V) ∧ Below w.heap.size w w' := by
  obtain ⟨a, b, c, d⟩ := q
  subst hV
  have wb : -9223372036854775808 ≤ b ∧ b ≤ 9223372036854775807 := hq.2.1
  dsimp only
  by_cases h0 : 2 ≤ a ∧ a ≤ 4095
  rotate_left
  · rw [show okC false ⟨a, b, c, d⟩ = false from decide_eq_false (show ¬ ((2 ≤ a ∧ a ≤ 4095) ∧ 0 ≤ b ∧ (1 ≤ c ∧ c ≤ 248 - b) ∧ (0 ≤ d ∧ d ≤ c)) by omega)]
    exact pieceFits_0 a b c d w wb  (decide_eq_false h0)
  by_cases h1 : 0 ≤ b
  rotate_left
  · rw [show okC false ⟨a, b, c, d⟩ = false from decide_eq_false (show ¬ ((2 ≤ a ∧ a ≤ 4095) ∧ 0 ≤ b ∧ (1 ≤ c ∧ c ≤ 248 - b) ∧ (0 ≤ d ∧ d ≤ c)) by omega)]
    exact pieceFits_1 a b c d w wb (decide_eq_true h0) (by omega)
  by_cases h2 : 1 ≤ c ∧ c ≤ 248 - b
  rotate_left
  · rw [show okC false ⟨a, b, c, d⟩ = false from decide_eq_false (show ¬ ((2 ≤ a ∧ a ≤ 4095) ∧ 0 ≤ b ∧ (1 ≤ c ∧ c ≤ 248 - b) ∧ (0 ≤ d ∧ d ≤ c)) by omega)]
    exact pieceFits_2 a b c d w wb (decide_eq_true h0) h1 (decide_eq_false h2)
  by_cases h3 : 0 ≤ d ∧ d ≤ c
  rotate_left
  · rw [show okC false ⟨a, b, c, d⟩ = false from decide_eq_false (show ¬ ((2 ≤ a ∧ a ≤ 4095) ∧ 0 ≤ b ∧ (1 ≤ c ∧ c ≤ 248 - b) ∧ (0 ≤ d ∧ d ≤ c)) by omega)]
    exact pieceFits_3 a b c d w wb (decide_eq_true h0) h1 (decide_eq_true h2) (decide_eq_false h3)
  rw [show okC false ⟨a, b, c, d⟩ = true from decide_eq_true (show ((2 ≤ a ∧ a ≤ 4095) ∧ 0 ≤ b ∧ (1 ≤ c ∧ c ≤ 248 - b) ∧ (0 ≤ d ∧ d ≤ c)) by omega)]
  exact pieceFits_4 a b c d w wb (decide_eq_true h0) h1 (decide_eq_true h2) (decide_eq_true h3)

set_option maxHeartbeats 1000000 in
theorem kidFits_0 (a b c d : Int) (w : World) (wb : -9223372036854775808 ≤ b ∧ b ≤ 9223372036854775807) (h0 : decide (2 ≤ a ∧ a ≤ 4095) = false) :
    Calls Try.prog 54 #[.agg #[.int .i64 a, .int .i64 b, .int .i64 c, .int .i64 d]] w fun e w' => e = .returned (.bool false) ∧ Below w.heap.size w w' := by
  go_enter Try.func54, Try.ntmps54
  go_wp2_with fail
  refine (within_v _ _ _ _ h0 _).mono ?_
  rintro e w1 ⟨rfl, rfl⟩
  go_wp2
  go_ret
  exact ⟨rfl, (Below.refl _ _).alloc (Nat.le_refl _) _⟩

set_option maxHeartbeats 1000000 in
theorem kidFits_1 (a b c d : Int) (w : World) (wb : -9223372036854775808 ≤ b ∧ b ≤ 9223372036854775807) (h0 : decide (2 ≤ a ∧ a ≤ 4095) = true) (h1 : b < 1) :
    Calls Try.prog 54 #[.agg #[.int .i64 a, .int .i64 b, .int .i64 c, .int .i64 d]] w fun e w' => e = .returned (.bool false) ∧ Below w.heap.size w w' := by
  go_enter Try.func54, Try.ntmps54
  go_wp2_with fail
  refine (within_v _ _ _ _ h0 _).mono ?_
  rintro e w1 ⟨rfl, rfl⟩
  go_wp2
  go_ret
  exact ⟨rfl, (Below.refl _ _).alloc (Nat.le_refl _) _⟩

set_option maxHeartbeats 1000000 in
theorem kidFits_2 (a b c d : Int) (w : World) (wb : -9223372036854775808 ≤ b ∧ b ≤ 9223372036854775807) (h0 : decide (2 ≤ a ∧ a ≤ 4095) = true) (h1 : 1 ≤ b) (h2 : decide (b ≤ c ∧ c ≤ 1048576) = false) :
    Calls Try.prog 54 #[.agg #[.int .i64 a, .int .i64 b, .int .i64 c, .int .i64 d]] w fun e w' => e = .returned (.bool false) ∧ Below w.heap.size w w' := by
  go_enter Try.func54, Try.ntmps54
  go_wp2_with fail
  refine (within_v _ _ _ _ h0 _).mono ?_
  rintro e w1 ⟨rfl, rfl⟩
  go_wp2_with fail
  refine (within_v _ _ _ _ h2 _).mono ?_
  rintro e w1 ⟨rfl, rfl⟩
  go_wp2
  go_ret
  exact ⟨rfl, (Below.refl _ _).alloc (Nat.le_refl _) _⟩

set_option maxHeartbeats 1000000 in
theorem kidFits_3 (a b c d : Int) (w : World) (wb : -9223372036854775808 ≤ b ∧ b ≤ 9223372036854775807) (h0 : decide (2 ≤ a ∧ a ≤ 4095) = true) (h1 : 1 ≤ b) (h2 : decide (b ≤ c ∧ c ≤ 1048576) = true) (h3 : decide (0 ≤ d ∧ d ≤ c) = false) :
    Calls Try.prog 54 #[.agg #[.int .i64 a, .int .i64 b, .int .i64 c, .int .i64 d]] w fun e w' => e = .returned (.bool false) ∧ Below w.heap.size w w' := by
  go_enter Try.func54, Try.ntmps54
  go_wp2_with fail
  refine (within_v _ _ _ _ h0 _).mono ?_
  rintro e w1 ⟨rfl, rfl⟩
  go_wp2_with fail
  refine (within_v _ _ _ _ h2 _).mono ?_
  rintro e w1 ⟨rfl, rfl⟩
  go_wp2_with fail
  refine (within_v _ _ _ _ h3 _).mono ?_
  rintro e w1 ⟨rfl, rfl⟩
  go_wp2
  go_ret
  exact ⟨rfl, (Below.refl _ _).alloc (Nat.le_refl _) _⟩

set_option maxHeartbeats 1000000 in
theorem kidFits_4 (a b c d : Int) (w : World) (wb : -9223372036854775808 ≤ b ∧ b ≤ 9223372036854775807) (h0 : decide (2 ≤ a ∧ a ≤ 4095) = true) (h1 : 1 ≤ b) (h2 : decide (b ≤ c ∧ c ≤ 1048576) = true) (h3 : decide (0 ≤ d ∧ d ≤ c) = true) :
    Calls Try.prog 54 #[.agg #[.int .i64 a, .int .i64 b, .int .i64 c, .int .i64 d]] w fun e w' => e = .returned (.bool true) ∧ Below w.heap.size w w' := by
  go_enter Try.func54, Try.ntmps54
  go_wp2_with fail
  refine (within_v _ _ _ _ h0 _).mono ?_
  rintro e w1 ⟨rfl, rfl⟩
  go_wp2_with fail
  refine (within_v _ _ _ _ h2 _).mono ?_
  rintro e w1 ⟨rfl, rfl⟩
  go_wp2_with fail
  refine (within_v _ _ _ _ h3 _).mono ?_
  rintro e w1 ⟨rfl, rfl⟩
  go_wp2
  go_ret
  exact ⟨rfl, (Below.refl _ _).alloc (Nat.le_refl _) _⟩

theorem kidFits_v (q : C4) (hq : wfC q) (w : World) (V : Bool) (hV : okC true q = V) :
    Calls Try.prog 54 #[.agg #[.int .i64 q.a, .int .i64 q.b, .int .i64 q.c, .int .i64 q.d]] w fun e w' => e = .returned (.bool V) ∧ Below w.heap.size w w' := by
  obtain ⟨a, b, c, d⟩ := q
  subst hV
  have wb : -9223372036854775808 ≤ b ∧ b ≤ 9223372036854775807 := hq.2.1
  dsimp only
  by_cases h0 : 2 ≤ a ∧ a ≤ 4095
  rotate_left
  · rw [show okC true ⟨a, b, c, d⟩ = false from decide_eq_false (show ¬ ((2 ≤ a ∧ a ≤ 4095) ∧ 1 ≤ b ∧ (b ≤ c ∧ c ≤ 1048576) ∧ (0 ≤ d ∧ d ≤ c)) by omega)]
    exact kidFits_0 a b c d w wb  (decide_eq_false h0)
  by_cases h1 : 1 ≤ b
  rotate_left
  · rw [show okC true ⟨a, b, c, d⟩ = false from decide_eq_false (show ¬ ((2 ≤ a ∧ a ≤ 4095) ∧ 1 ≤ b ∧ (b ≤ c ∧ c ≤ 1048576) ∧ (0 ≤ d ∧ d ≤ c)) by omega)]
    exact kidFits_1 a b c d w wb (decide_eq_true h0) (by omega)
  by_cases h2 : b ≤ c ∧ c ≤ 1048576
  rotate_left
  · rw [show okC true ⟨a, b, c, d⟩ = false from decide_eq_false (show ¬ ((2 ≤ a ∧ a ≤ 4095) ∧ 1 ≤ b ∧ (b ≤ c ∧ c ≤ 1048576) ∧ (0 ≤ d ∧ d ≤ c)) by omega)]
    exact kidFits_2 a b c d w wb (decide_eq_true h0) h1 (decide_eq_false h2)
  by_cases h3 : 0 ≤ d ∧ d ≤ c
  rotate_left
  · rw [show okC true ⟨a, b, c, d⟩ = false from decide_eq_false (show ¬ ((2 ≤ a ∧ a ≤ 4095) ∧ 1 ≤ b ∧ (b ≤ c ∧ c ≤ 1048576) ∧ (0 ≤ d ∧ d ≤ c)) by omega)]
    exact kidFits_3 a b c d w wb (decide_eq_true h0) h1 (decide_eq_true h2) (decide_eq_false h3)
  rw [show okC true ⟨a, b, c, d⟩ = true from decide_eq_true (show ((2 ≤ a ∧ a ≤ 4095) ∧ 1 ≤ b ∧ (b ≤ c ∧ c ≤ 1048576) ∧ (0 ≤ d ∧ d ≤ c)) by omega)]
  exact kidFits_4 a b c d w wb (decide_eq_true h0) h1 (decide_eq_true h2) (decide_eq_true h3)
end Go.Proofs.Ytaeooehilncokaa.Oct
