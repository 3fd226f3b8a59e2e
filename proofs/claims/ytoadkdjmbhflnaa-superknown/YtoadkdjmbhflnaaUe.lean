/-
  The document's CheckSuper.
-/
import Derived.Test.YtoadkdjmbhflnaaUc
namespace Go.Proofs.Ytoadkdjmbhflnaa.Oct
open Go.RowKit

set_option maxHeartbeats 400000 in
theorem root_v (n p : Int) (V : Bool) (hV : ldB p n = V) (w : World) :
    Calls Try.prog 28 #[.int .i64 n, .int .i64 p] w fun e w' => e = .returned (.bool V) ∧ w' = w := by
  unfold ldB at hV
  by_cases h0 : n = 0
  · rw [decide_eq_true (.inl h0)] at hV
    subst hV h0
    go_enter Try.func28, Try.ntmps28
    go_wp2
    go_ret
    exact ⟨rfl, rfl⟩
  · have h0b : (n == 0) = false := by simpa using h0
    by_cases h1 : 2 ≤ n
    · by_cases h2 : n < p
      · rw [decide_eq_true (.inr (by omega))] at hV
        subst hV
        go_enter Try.func28, Try.ntmps28
        go_wp2
        go_ret
        exact ⟨rfl, rfl⟩
      · rw [decide_eq_false (by omega)] at hV
        subst hV
        go_enter Try.func28, Try.ntmps28
        go_wp2
        go_ret
        exact ⟨rfl, rfl⟩
    · rw [decide_eq_false (by omega)] at hV
      subst hV
      go_enter Try.func28, Try.ntmps28
      go_wp2
      go_ret
      exact ⟨rfl, rfl⟩


set_option maxHeartbeats 2000000 in
theorem rck_a1 (g p r h b l s f : Int) (w : World) (h1 : ¬ 1 ≤ g) :
    Calls Try.prog 15 #[.agg #[.int .i64 g, .int .i64 p, .int .i64 r, .int .i64 h, .int .i64 b, .int .i64 l, .int .i64 s, .int .i64 f]] w fun e w' => e = .returned (.int .i64 1) ∧ Below w.heap.size w w' := by
  go_enter Try.func15, Try.ntmps15
  go_wp2
  go_ret
  exact ⟨rfl, (Below.refl _ _).alloc (Nat.le_refl _) _⟩

set_option maxHeartbeats 2000000 in
theorem rck_a2 (g p r h b l s f : Int) (w : World) (h1 : 1 ≤ g) (h2 : ¬ g ≤ 1152921504606846976) :
    Calls Try.prog 15 #[.agg #[.int .i64 g, .int .i64 p, .int .i64 r, .int .i64 h, .int .i64 b, .int .i64 l, .int .i64 s, .int .i64 f]] w fun e w' => e = .returned (.int .i64 1) ∧ Below w.heap.size w w' := by
  go_enter Try.func15, Try.ntmps15
  go_wp2
  go_ret
  exact ⟨rfl, (Below.refl _ _).alloc (Nat.le_refl _) _⟩

set_option maxHeartbeats 2000000 in
theorem rck_a3 (g p r h b l s f : Int) (w : World) (h1 : 1 ≤ g) (h2 : g ≤ 1152921504606846976) (h3 : ¬ 8 ≤ p) :
    Calls Try.prog 15 #[.agg #[.int .i64 g, .int .i64 p, .int .i64 r, .int .i64 h, .int .i64 b, .int .i64 l, .int .i64 s, .int .i64 f]] w fun e w' => e = .returned (.int .i64 1) ∧ Below w.heap.size w w' := by
  go_enter Try.func15, Try.ntmps15
  go_wp2
  go_ret
  exact ⟨rfl, (Below.refl _ _).alloc (Nat.le_refl _) _⟩

set_option maxHeartbeats 2000000 in
theorem rck_a4 (g p r h b l s f : Int) (w : World) (h1 : 1 ≤ g) (h2 : g ≤ 1152921504606846976) (h3 : 8 ≤ p) (h4 : ¬ p ≤ 4096) :
    Calls Try.prog 15 #[.agg #[.int .i64 g, .int .i64 p, .int .i64 r, .int .i64 h, .int .i64 b, .int .i64 l, .int .i64 s, .int .i64 f]] w fun e w' => e = .returned (.int .i64 1) ∧ Below w.heap.size w w' := by
  go_enter Try.func15, Try.ntmps15
  go_wp2
  go_ret
  exact ⟨rfl, (Below.refl _ _).alloc (Nat.le_refl _) _⟩

set_option maxHeartbeats 2000000 in
theorem rck_a5 (g p r h b l s f : Int) (w : World) (h1 : 1 ≤ g) (h2 : g ≤ 1152921504606846976) (h3 : 8 ≤ p) (h4 : p ≤ 4096) (h5 : ldB p r = false) :
    Calls Try.prog 15 #[.agg #[.int .i64 g, .int .i64 p, .int .i64 r, .int .i64 h, .int .i64 b, .int .i64 l, .int .i64 s, .int .i64 f]] w fun e w' => e = .returned (.int .i64 1) ∧ Below w.heap.size w w' := by
  have Ch5 := root_v r p false h5
  clear h5
  go_enter Try.func15, Try.ntmps15
  go_wp2_with fail
  refine (Ch5 _).mono ?_
  clear Ch5
  rintro e w1 ⟨rfl, rfl⟩
  go_wp2
  go_ret
  exact ⟨rfl, (Below.refl _ _).alloc (Nat.le_refl _) _⟩

set_option maxHeartbeats 2000000 in
theorem rck_a6 (g p r h b l s f : Int) (w : World) (h1 : 1 ≤ g) (h2 : g ≤ 1152921504606846976) (h3 : 8 ≤ p) (h4 : p ≤ 4096) (h5 : ldB p r = true) (h6 : ldB p s = false) :
    Calls Try.prog 15 #[.agg #[.int .i64 g, .int .i64 p, .int .i64 r, .int .i64 h, .int .i64 b, .int .i64 l, .int .i64 s, .int .i64 f]] w fun e w' => e = .returned (.int .i64 1) ∧ Below w.heap.size w w' := by
  have Ch5 := root_v r p true h5
  have Ch6 := root_v s p false h6
  clear h5 h6
  go_enter Try.func15, Try.ntmps15
  go_wp2_with fail
  refine (Ch5 _).mono ?_
  clear Ch5
  rintro e w1 ⟨rfl, rfl⟩
  go_wp2_with fail
  refine (Ch6 _).mono ?_
  clear Ch6
  rintro e w1 ⟨rfl, rfl⟩
  go_wp2
  go_ret
  exact ⟨rfl, (Below.refl _ _).alloc (Nat.le_refl _) _⟩

set_option maxHeartbeats 2000000 in
theorem rck_a7 (g p r h b l s f : Int) (w : World) (h1 : 1 ≤ g) (h2 : g ≤ 1152921504606846976) (h3 : 8 ≤ p) (h4 : p ≤ 4096) (h5 : ldB p r = true) (h6 : ldB p s = true) (h7 : ldB p f = false) :
    Calls Try.prog 15 #[.agg #[.int .i64 g, .int .i64 p, .int .i64 r, .int .i64 h, .int .i64 b, .int .i64 l, .int .i64 s, .int .i64 f]] w fun e w' => e = .returned (.int .i64 1) ∧ Below w.heap.size w w' := by
  have Ch5 := root_v r p true h5
  have Ch6 := root_v s p true h6
  have Ch7 := root_v f p false h7
  clear h5 h6 h7
  go_enter Try.func15, Try.ntmps15
  go_wp2_with fail
  refine (Ch5 _).mono ?_
  clear Ch5
  rintro e w1 ⟨rfl, rfl⟩
  go_wp2_with fail
  refine (Ch6 _).mono ?_
  clear Ch6
  rintro e w1 ⟨rfl, rfl⟩
  go_wp2_with fail
  refine (Ch7 _).mono ?_
  clear Ch7
  rintro e w1 ⟨rfl, rfl⟩
  go_wp2
  go_ret
  exact ⟨rfl, (Below.refl _ _).alloc (Nat.le_refl _) _⟩

set_option maxHeartbeats 2000000 in
theorem rck_b1 (g p r h b l s f : Int) (w : World) (h1 : 1 ≤ g) (h2 : g ≤ 1152921504606846976) (h3 : 8 ≤ p) (h4 : p ≤ 4096) (h5 : ldB p r = true) (h6 : ldB p s = true) (h7 : ldB p f = true) (k1 : ¬ 0 ≤ h) :
    Calls Try.prog 15 #[.agg #[.int .i64 g, .int .i64 p, .int .i64 r, .int .i64 h, .int .i64 b, .int .i64 l, .int .i64 s, .int .i64 f]] w fun e w' => e = .returned (.int .i64 1) ∧ Below w.heap.size w w' := by
  have Ch5 := root_v r p true h5
  have Ch6 := root_v s p true h6
  have Ch7 := root_v f p true h7
  clear h5 h6 h7
  go_enter Try.func15, Try.ntmps15
  go_wp2_with fail
  refine (Ch5 _).mono ?_
  clear Ch5
  rintro e w1 ⟨rfl, rfl⟩
  go_wp2_with fail
  refine (Ch6 _).mono ?_
  clear Ch6
  rintro e w1 ⟨rfl, rfl⟩
  go_wp2_with fail
  refine (Ch7 _).mono ?_
  clear Ch7
  rintro e w1 ⟨rfl, rfl⟩
  go_wp2
  go_ret
  exact ⟨rfl, (Below.refl _ _).alloc (Nat.le_refl _) _⟩

set_option maxHeartbeats 2000000 in
theorem rck_b2 (g p r h b l s f : Int) (w : World) (h1 : 1 ≤ g) (h2 : g ≤ 1152921504606846976) (h3 : 8 ≤ p) (h4 : p ≤ 4096) (h5 : ldB p r = true) (h6 : ldB p s = true) (h7 : ldB p f = true) (k1 : 0 ≤ h) (k2 : ¬ h ≤ 32) :
    Calls Try.prog 15 #[.agg #[.int .i64 g, .int .i64 p, .int .i64 r, .int .i64 h, .int .i64 b, .int .i64 l, .int .i64 s, .int .i64 f]] w fun e w' => e = .returned (.int .i64 1) ∧ Below w.heap.size w w' := by
  have Ch5 := root_v r p true h5
  have Ch6 := root_v s p true h6
  have Ch7 := root_v f p true h7
  clear h5 h6 h7
  go_enter Try.func15, Try.ntmps15
  go_wp2_with fail
  refine (Ch5 _).mono ?_
  clear Ch5
  rintro e w1 ⟨rfl, rfl⟩
  go_wp2_with fail
  refine (Ch6 _).mono ?_
  clear Ch6
  rintro e w1 ⟨rfl, rfl⟩
  go_wp2_with fail
  refine (Ch7 _).mono ?_
  clear Ch7
  rintro e w1 ⟨rfl, rfl⟩
  go_wp2
  go_ret
  exact ⟨rfl, (Below.refl _ _).alloc (Nat.le_refl _) _⟩

set_option maxHeartbeats 2000000 in
theorem rck_b3 (g p r h b l s f : Int) (w : World) (h1 : 1 ≤ g) (h2 : g ≤ 1152921504606846976) (h3 : 8 ≤ p) (h4 : p ≤ 4096) (h5 : ldB p r = true) (h6 : ldB p s = true) (h7 : ldB p f = true) (k1 : 0 ≤ h) (k2 : h ≤ 32) (k3 : (h == 0) = true) (k4 : (r == 0) = false) :
    Calls Try.prog 15 #[.agg #[.int .i64 g, .int .i64 p, .int .i64 r, .int .i64 h, .int .i64 b, .int .i64 l, .int .i64 s, .int .i64 f]] w fun e w' => e = .returned (.int .i64 1) ∧ Below w.heap.size w w' := by
  have Ch5 := root_v r p true h5
  have Ch6 := root_v s p true h6
  have Ch7 := root_v f p true h7
  clear h5 h6 h7
  go_enter Try.func15, Try.ntmps15
  go_wp2_with fail
  refine (Ch5 _).mono ?_
  clear Ch5
  rintro e w1 ⟨rfl, rfl⟩
  go_wp2_with fail
  refine (Ch6 _).mono ?_
  clear Ch6
  rintro e w1 ⟨rfl, rfl⟩
  go_wp2_with fail
  refine (Ch7 _).mono ?_
  clear Ch7
  rintro e w1 ⟨rfl, rfl⟩
  go_wp2
  go_ret
  exact ⟨rfl, (Below.refl _ _).alloc (Nat.le_refl _) _⟩

set_option maxHeartbeats 2000000 in
theorem rck_b4 (g p r h b l s f : Int) (w : World) (h1 : 1 ≤ g) (h2 : g ≤ 1152921504606846976) (h3 : 8 ≤ p) (h4 : p ≤ 4096) (h5 : ldB p r = true) (h6 : ldB p s = true) (h7 : ldB p f = true) (k1 : 0 ≤ h) (k2 : h ≤ 32) (k3 : (h == 0) = false) (k4 : (r == 0) = true) :
    Calls Try.prog 15 #[.agg #[.int .i64 g, .int .i64 p, .int .i64 r, .int .i64 h, .int .i64 b, .int .i64 l, .int .i64 s, .int .i64 f]] w fun e w' => e = .returned (.int .i64 1) ∧ Below w.heap.size w w' := by
  have Ch5 := root_v r p true h5
  have Ch6 := root_v s p true h6
  have Ch7 := root_v f p true h7
  clear h5 h6 h7
  go_enter Try.func15, Try.ntmps15
  go_wp2_with fail
  refine (Ch5 _).mono ?_
  clear Ch5
  rintro e w1 ⟨rfl, rfl⟩
  go_wp2_with fail
  refine (Ch6 _).mono ?_
  clear Ch6
  rintro e w1 ⟨rfl, rfl⟩
  go_wp2_with fail
  refine (Ch7 _).mono ?_
  clear Ch7
  rintro e w1 ⟨rfl, rfl⟩
  go_wp2
  go_ret
  exact ⟨rfl, (Below.refl _ _).alloc (Nat.le_refl _) _⟩

set_option maxHeartbeats 2000000 in
theorem rck_t1 (g p r h b l s f : Int) (w : World) (h1 : 1 ≤ g) (h2 : g ≤ 1152921504606846976) (h3 : 8 ≤ p) (h4 : p ≤ 4096) (h5 : ldB p r = true) (h6 : ldB p s = true) (h7 : ldB p f = true) (k1 : 0 ≤ h) (k2 : h ≤ 32) (k3 : (h == 0) = true) (k4 : (r == 0) = true) (m1 : ¬ 0 ≤ b) :
    Calls Try.prog 15 #[.agg #[.int .i64 g, .int .i64 p, .int .i64 r, .int .i64 h, .int .i64 b, .int .i64 l, .int .i64 s, .int .i64 f]] w fun e w' => e = .returned (.int .i64 1) ∧ Below w.heap.size w w' := by
  have Ch5 := root_v r p true h5
  have Ch6 := root_v s p true h6
  have Ch7 := root_v f p true h7
  clear h5 h6 h7
  go_enter Try.func15, Try.ntmps15
  go_wp2_with fail
  refine (Ch5 _).mono ?_
  clear Ch5
  rintro e w1 ⟨rfl, rfl⟩
  go_wp2_with fail
  refine (Ch6 _).mono ?_
  clear Ch6
  rintro e w1 ⟨rfl, rfl⟩
  go_wp2_with fail
  refine (Ch7 _).mono ?_
  clear Ch7
  rintro e w1 ⟨rfl, rfl⟩
  go_wp2
  go_ret
  exact ⟨rfl, (Below.refl _ _).alloc (Nat.le_refl _) _⟩

set_option maxHeartbeats 2000000 in
theorem rck_t2 (g p r h b l s f : Int) (w : World) (h1 : 1 ≤ g) (h2 : g ≤ 1152921504606846976) (h3 : 8 ≤ p) (h4 : p ≤ 4096) (h5 : ldB p r = true) (h6 : ldB p s = true) (h7 : ldB p f = true) (k1 : 0 ≤ h) (k2 : h ≤ 32) (k3 : (h == 0) = true) (k4 : (r == 0) = true) (m1 : 0 ≤ b) (m2 : ¬ b ≤ 1048576) :
    Calls Try.prog 15 #[.agg #[.int .i64 g, .int .i64 p, .int .i64 r, .int .i64 h, .int .i64 b, .int .i64 l, .int .i64 s, .int .i64 f]] w fun e w' => e = .returned (.int .i64 1) ∧ Below w.heap.size w w' := by
  have Ch5 := root_v r p true h5
  have Ch6 := root_v s p true h6
  have Ch7 := root_v f p true h7
  clear h5 h6 h7
  go_enter Try.func15, Try.ntmps15
  go_wp2_with fail
  refine (Ch5 _).mono ?_
  clear Ch5
  rintro e w1 ⟨rfl, rfl⟩
  go_wp2_with fail
  refine (Ch6 _).mono ?_
  clear Ch6
  rintro e w1 ⟨rfl, rfl⟩
  go_wp2_with fail
  refine (Ch7 _).mono ?_
  clear Ch7
  rintro e w1 ⟨rfl, rfl⟩
  go_wp2
  go_ret
  exact ⟨rfl, (Below.refl _ _).alloc (Nat.le_refl _) _⟩

set_option maxHeartbeats 2000000 in
theorem rck_t3 (g p r h b l s f : Int) (w : World) (h1 : 1 ≤ g) (h2 : g ≤ 1152921504606846976) (h3 : 8 ≤ p) (h4 : p ≤ 4096) (h5 : ldB p r = true) (h6 : ldB p s = true) (h7 : ldB p f = true) (k1 : 0 ≤ h) (k2 : h ≤ 32) (k3 : (h == 0) = true) (k4 : (r == 0) = true) (m1 : 0 ≤ b) (m2 : b ≤ 1048576) (m3 : ¬ 0 ≤ l) :
    Calls Try.prog 15 #[.agg #[.int .i64 g, .int .i64 p, .int .i64 r, .int .i64 h, .int .i64 b, .int .i64 l, .int .i64 s, .int .i64 f]] w fun e w' => e = .returned (.int .i64 1) ∧ Below w.heap.size w w' := by
  have Ch5 := root_v r p true h5
  have Ch6 := root_v s p true h6
  have Ch7 := root_v f p true h7
  clear h5 h6 h7
  go_enter Try.func15, Try.ntmps15
  go_wp2_with fail
  refine (Ch5 _).mono ?_
  clear Ch5
  rintro e w1 ⟨rfl, rfl⟩
  go_wp2_with fail
  refine (Ch6 _).mono ?_
  clear Ch6
  rintro e w1 ⟨rfl, rfl⟩
  go_wp2_with fail
  refine (Ch7 _).mono ?_
  clear Ch7
  rintro e w1 ⟨rfl, rfl⟩
  go_wp2
  go_ret
  exact ⟨rfl, (Below.refl _ _).alloc (Nat.le_refl _) _⟩

set_option maxHeartbeats 2000000 in
theorem rck_t4 (g p r h b l s f : Int) (w : World) (h1 : 1 ≤ g) (h2 : g ≤ 1152921504606846976) (h3 : 8 ≤ p) (h4 : p ≤ 4096) (h5 : ldB p r = true) (h6 : ldB p s = true) (h7 : ldB p f = true) (k1 : 0 ≤ h) (k2 : h ≤ 32) (k3 : (h == 0) = true) (k4 : (r == 0) = true) (m1 : 0 ≤ b) (m2 : b ≤ 1048576) (m3 : 0 ≤ l) (m4 : ¬ l ≤ b) :
    Calls Try.prog 15 #[.agg #[.int .i64 g, .int .i64 p, .int .i64 r, .int .i64 h, .int .i64 b, .int .i64 l, .int .i64 s, .int .i64 f]] w fun e w' => e = .returned (.int .i64 1) ∧ Below w.heap.size w w' := by
  have Ch5 := root_v r p true h5
  have Ch6 := root_v s p true h6
  have Ch7 := root_v f p true h7
  clear h5 h6 h7
  go_enter Try.func15, Try.ntmps15
  go_wp2_with fail
  refine (Ch5 _).mono ?_
  clear Ch5
  rintro e w1 ⟨rfl, rfl⟩
  go_wp2_with fail
  refine (Ch6 _).mono ?_
  clear Ch6
  rintro e w1 ⟨rfl, rfl⟩
  go_wp2_with fail
  refine (Ch7 _).mono ?_
  clear Ch7
  rintro e w1 ⟨rfl, rfl⟩
  go_wp2
  go_ret
  exact ⟨rfl, (Below.refl _ _).alloc (Nat.le_refl _) _⟩

set_option maxHeartbeats 2000000 in
theorem rck_t5 (g p r h b l s f : Int) (w : World) (h1 : 1 ≤ g) (h2 : g ≤ 1152921504606846976) (h3 : 8 ≤ p) (h4 : p ≤ 4096) (h5 : ldB p r = true) (h6 : ldB p s = true) (h7 : ldB p f = true) (k1 : 0 ≤ h) (k2 : h ≤ 32) (k3 : (h == 0) = true) (k4 : (r == 0) = true) (m1 : 0 ≤ b) (m2 : b ≤ 1048576) (m3 : 0 ≤ l) (m4 : l ≤ b) (m5 : (b == 0) = false) :
    Calls Try.prog 15 #[.agg #[.int .i64 g, .int .i64 p, .int .i64 r, .int .i64 h, .int .i64 b, .int .i64 l, .int .i64 s, .int .i64 f]] w fun e w' => e = .returned (.int .i64 1) ∧ Below w.heap.size w w' := by
  have Ch5 := root_v r p true h5
  have Ch6 := root_v s p true h6
  have Ch7 := root_v f p true h7
  clear h5 h6 h7
  go_enter Try.func15, Try.ntmps15
  go_wp2_with fail
  refine (Ch5 _).mono ?_
  clear Ch5
  rintro e w1 ⟨rfl, rfl⟩
  go_wp2_with fail
  refine (Ch6 _).mono ?_
  clear Ch6
  rintro e w1 ⟨rfl, rfl⟩
  go_wp2_with fail
  refine (Ch7 _).mono ?_
  clear Ch7
  rintro e w1 ⟨rfl, rfl⟩
  go_wp2
  go_ret
  exact ⟨rfl, (Below.refl _ _).alloc (Nat.le_refl _) _⟩

set_option maxHeartbeats 2000000 in
theorem rck_t6 (g p r h b l s f : Int) (w : World) (h1 : 1 ≤ g) (h2 : g ≤ 1152921504606846976) (h3 : 8 ≤ p) (h4 : p ≤ 4096) (h5 : ldB p r = true) (h6 : ldB p s = true) (h7 : ldB p f = true) (k1 : 0 ≤ h) (k2 : h ≤ 32) (k3 : (h == 0) = true) (k4 : (r == 0) = true) (m1 : 0 ≤ b) (m2 : b ≤ 1048576) (m3 : 0 ≤ l) (m4 : l ≤ b) (m5 : (b == 0) = true) :
    Calls Try.prog 15 #[.agg #[.int .i64 g, .int .i64 p, .int .i64 r, .int .i64 h, .int .i64 b, .int .i64 l, .int .i64 s, .int .i64 f]] w fun e w' => e = .returned (.int .i64 0) ∧ Below w.heap.size w w' := by
  have Ch5 := root_v r p true h5
  have Ch6 := root_v s p true h6
  have Ch7 := root_v f p true h7
  clear h5 h6 h7
  go_enter Try.func15, Try.ntmps15
  go_wp2_with fail
  refine (Ch5 _).mono ?_
  clear Ch5
  rintro e w1 ⟨rfl, rfl⟩
  go_wp2_with fail
  refine (Ch6 _).mono ?_
  clear Ch6
  rintro e w1 ⟨rfl, rfl⟩
  go_wp2_with fail
  refine (Ch7 _).mono ?_
  clear Ch7
  rintro e w1 ⟨rfl, rfl⟩
  go_wp2
  go_ret
  exact ⟨rfl, (Below.refl _ _).alloc (Nat.le_refl _) _⟩

set_option maxHeartbeats 2000000 in
theorem rck_f1 (g p r h b l s f : Int) (w : World) (h1 : 1 ≤ g) (h2 : g ≤ 1152921504606846976) (h3 : 8 ≤ p) (h4 : p ≤ 4096) (h5 : ldB p r = true) (h6 : ldB p s = true) (h7 : ldB p f = true) (k1 : 0 ≤ h) (k2 : h ≤ 32) (k3 : (h == 0) = false) (k4 : (r == 0) = false) (m1 : ¬ 0 ≤ b) :
    Calls Try.prog 15 #[.agg #[.int .i64 g, .int .i64 p, .int .i64 r, .int .i64 h, .int .i64 b, .int .i64 l, .int .i64 s, .int .i64 f]] w fun e w' => e = .returned (.int .i64 1) ∧ Below w.heap.size w w' := by
  have Ch5 := root_v r p true h5
  have Ch6 := root_v s p true h6
  have Ch7 := root_v f p true h7
  clear h5 h6 h7
  go_enter Try.func15, Try.ntmps15
  go_wp2_with fail
  refine (Ch5 _).mono ?_
  clear Ch5
  rintro e w1 ⟨rfl, rfl⟩
  go_wp2_with fail
  refine (Ch6 _).mono ?_
  clear Ch6
  rintro e w1 ⟨rfl, rfl⟩
  go_wp2_with fail
  refine (Ch7 _).mono ?_
  clear Ch7
  rintro e w1 ⟨rfl, rfl⟩
  go_wp2
  go_ret
  exact ⟨rfl, (Below.refl _ _).alloc (Nat.le_refl _) _⟩

set_option maxHeartbeats 2000000 in
theorem rck_f2 (g p r h b l s f : Int) (w : World) (h1 : 1 ≤ g) (h2 : g ≤ 1152921504606846976) (h3 : 8 ≤ p) (h4 : p ≤ 4096) (h5 : ldB p r = true) (h6 : ldB p s = true) (h7 : ldB p f = true) (k1 : 0 ≤ h) (k2 : h ≤ 32) (k3 : (h == 0) = false) (k4 : (r == 0) = false) (m1 : 0 ≤ b) (m2 : ¬ b ≤ 1048576) :
    Calls Try.prog 15 #[.agg #[.int .i64 g, .int .i64 p, .int .i64 r, .int .i64 h, .int .i64 b, .int .i64 l, .int .i64 s, .int .i64 f]] w fun e w' => e = .returned (.int .i64 1) ∧ Below w.heap.size w w' := by
  have Ch5 := root_v r p true h5
  have Ch6 := root_v s p true h6
  have Ch7 := root_v f p true h7
  clear h5 h6 h7
  go_enter Try.func15, Try.ntmps15
  go_wp2_with fail
  refine (Ch5 _).mono ?_
  clear Ch5
  rintro e w1 ⟨rfl, rfl⟩
  go_wp2_with fail
  refine (Ch6 _).mono ?_
  clear Ch6
  rintro e w1 ⟨rfl, rfl⟩
  go_wp2_with fail
  refine (Ch7 _).mono ?_
  clear Ch7
  rintro e w1 ⟨rfl, rfl⟩
  go_wp2
  go_ret
  exact ⟨rfl, (Below.refl _ _).alloc (Nat.le_refl _) _⟩

set_option maxHeartbeats 2000000 in
theorem rck_f3 (g p r h b l s f : Int) (w : World) (h1 : 1 ≤ g) (h2 : g ≤ 1152921504606846976) (h3 : 8 ≤ p) (h4 : p ≤ 4096) (h5 : ldB p r = true) (h6 : ldB p s = true) (h7 : ldB p f = true) (k1 : 0 ≤ h) (k2 : h ≤ 32) (k3 : (h == 0) = false) (k4 : (r == 0) = false) (m1 : 0 ≤ b) (m2 : b ≤ 1048576) (m3 : ¬ 0 ≤ l) :
    Calls Try.prog 15 #[.agg #[.int .i64 g, .int .i64 p, .int .i64 r, .int .i64 h, .int .i64 b, .int .i64 l, .int .i64 s, .int .i64 f]] w fun e w' => e = .returned (.int .i64 1) ∧ Below w.heap.size w w' := by
  have Ch5 := root_v r p true h5
  have Ch6 := root_v s p true h6
  have Ch7 := root_v f p true h7
  clear h5 h6 h7
  go_enter Try.func15, Try.ntmps15
  go_wp2_with fail
  refine (Ch5 _).mono ?_
  clear Ch5
  rintro e w1 ⟨rfl, rfl⟩
  go_wp2_with fail
  refine (Ch6 _).mono ?_
  clear Ch6
  rintro e w1 ⟨rfl, rfl⟩
  go_wp2_with fail
  refine (Ch7 _).mono ?_
  clear Ch7
  rintro e w1 ⟨rfl, rfl⟩
  go_wp2
  go_ret
  exact ⟨rfl, (Below.refl _ _).alloc (Nat.le_refl _) _⟩

set_option maxHeartbeats 2000000 in
theorem rck_f4 (g p r h b l s f : Int) (w : World) (h1 : 1 ≤ g) (h2 : g ≤ 1152921504606846976) (h3 : 8 ≤ p) (h4 : p ≤ 4096) (h5 : ldB p r = true) (h6 : ldB p s = true) (h7 : ldB p f = true) (k1 : 0 ≤ h) (k2 : h ≤ 32) (k3 : (h == 0) = false) (k4 : (r == 0) = false) (m1 : 0 ≤ b) (m2 : b ≤ 1048576) (m3 : 0 ≤ l) (m4 : ¬ l ≤ b) :
    Calls Try.prog 15 #[.agg #[.int .i64 g, .int .i64 p, .int .i64 r, .int .i64 h, .int .i64 b, .int .i64 l, .int .i64 s, .int .i64 f]] w fun e w' => e = .returned (.int .i64 1) ∧ Below w.heap.size w w' := by
  have Ch5 := root_v r p true h5
  have Ch6 := root_v s p true h6
  have Ch7 := root_v f p true h7
  clear h5 h6 h7
  go_enter Try.func15, Try.ntmps15
  go_wp2_with fail
  refine (Ch5 _).mono ?_
  clear Ch5
  rintro e w1 ⟨rfl, rfl⟩
  go_wp2_with fail
  refine (Ch6 _).mono ?_
  clear Ch6
  rintro e w1 ⟨rfl, rfl⟩
  go_wp2_with fail
  refine (Ch7 _).mono ?_
  clear Ch7
  rintro e w1 ⟨rfl, rfl⟩
  go_wp2
  go_ret
  exact ⟨rfl, (Below.refl _ _).alloc (Nat.le_refl _) _⟩

set_option maxHeartbeats 2000000 in
theorem rck_f5 (g p r h b l s f : Int) (w : World) (h1 : 1 ≤ g) (h2 : g ≤ 1152921504606846976) (h3 : 8 ≤ p) (h4 : p ≤ 4096) (h5 : ldB p r = true) (h6 : ldB p s = true) (h7 : ldB p f = true) (k1 : 0 ≤ h) (k2 : h ≤ 32) (k3 : (h == 0) = false) (k4 : (r == 0) = false) (m1 : 0 ≤ b) (m2 : b ≤ 1048576) (m3 : 0 ≤ l) (m4 : l ≤ b) (m5 : (b == 0) = true) :
    Calls Try.prog 15 #[.agg #[.int .i64 g, .int .i64 p, .int .i64 r, .int .i64 h, .int .i64 b, .int .i64 l, .int .i64 s, .int .i64 f]] w fun e w' => e = .returned (.int .i64 1) ∧ Below w.heap.size w w' := by
  have Ch5 := root_v r p true h5
  have Ch6 := root_v s p true h6
  have Ch7 := root_v f p true h7
  clear h5 h6 h7
  go_enter Try.func15, Try.ntmps15
  go_wp2_with fail
  refine (Ch5 _).mono ?_
  clear Ch5
  rintro e w1 ⟨rfl, rfl⟩
  go_wp2_with fail
  refine (Ch6 _).mono ?_
  clear Ch6
  rintro e w1 ⟨rfl, rfl⟩
  go_wp2_with fail
  refine (Ch7 _).mono ?_
  clear Ch7
  rintro e w1 ⟨rfl, rfl⟩
  go_wp2
  go_ret
  exact ⟨rfl, (Below.refl _ _).alloc (Nat.le_refl _) _⟩

set_option maxHeartbeats 2000000 in
theorem rck_f6 (g p r h b l s f : Int) (w : World) (h1 : 1 ≤ g) (h2 : g ≤ 1152921504606846976) (h3 : 8 ≤ p) (h4 : p ≤ 4096) (h5 : ldB p r = true) (h6 : ldB p s = true) (h7 : ldB p f = true) (k1 : 0 ≤ h) (k2 : h ≤ 32) (k3 : (h == 0) = false) (k4 : (r == 0) = false) (m1 : 0 ≤ b) (m2 : b ≤ 1048576) (m3 : 0 ≤ l) (m4 : l ≤ b) (m5 : (b == 0) = false) :
    Calls Try.prog 15 #[.agg #[.int .i64 g, .int .i64 p, .int .i64 r, .int .i64 h, .int .i64 b, .int .i64 l, .int .i64 s, .int .i64 f]] w fun e w' => e = .returned (.int .i64 0) ∧ Below w.heap.size w w' := by
  have Ch5 := root_v r p true h5
  have Ch6 := root_v s p true h6
  have Ch7 := root_v f p true h7
  clear h5 h6 h7
  go_enter Try.func15, Try.ntmps15
  go_wp2_with fail
  refine (Ch5 _).mono ?_
  clear Ch5
  rintro e w1 ⟨rfl, rfl⟩
  go_wp2_with fail
  refine (Ch6 _).mono ?_
  clear Ch6
  rintro e w1 ⟨rfl, rfl⟩
  go_wp2_with fail
  refine (Ch7 _).mono ?_
  clear Ch7
  rintro e w1 ⟨rfl, rfl⟩
  go_wp2
  go_ret
  exact ⟨rfl, (Below.refl _ _).alloc (Nat.le_refl _) _⟩

theorem rcheck_any (S : Sp) (w : World) : Calls Try.prog 15 #[spV S] w fun e w' => e = .returned (.int .i64 (enE S)) ∧ Below w.heap.size w w' := by
  obtain ⟨g, p, r, h, b, l, s, f⟩ := S
  have no : ∀ k, k < 8 → fitS ⟨g, p, r, h, b, l, s, f⟩ k = false → enE ⟨g, p, r, h, b, l, s, f⟩ = 1 := fun k hk hf => by unfold enE; rw [okS_no hk hf]; rfl
  by_cases h1 : 1 ≤ g
  rotate_left
  · rw [no 0 (by omega) (decide_eq_false (fun x => h1 (by have := x; dsimp only at this; omega)))]
    exact rck_a1 g p r h b l s f w  h1
  by_cases h2 : g ≤ 1152921504606846976
  rotate_left
  · rw [no 0 (by omega) (decide_eq_false (fun x => h2 (by have := x; dsimp only at this; omega)))]
    exact rck_a2 g p r h b l s f w h1 h2
  by_cases h3 : 8 ≤ p
  rotate_left
  · rw [no 1 (by omega) (decide_eq_false (fun x => h3 (by have := x; dsimp only at this; omega)))]
    exact rck_a3 g p r h b l s f w h1 h2 h3
  by_cases h4 : p ≤ 4096
  rotate_left
  · rw [no 1 (by omega) (decide_eq_false (fun x => h4 (by have := x; dsimp only at this; omega)))]
    exact rck_a4 g p r h b l s f w h1 h2 h3 h4
  cases h5 : ldB p r
  · rw [no 2 (by omega) h5]
    exact rck_a5 g p r h b l s f w h1 h2 h3 h4 h5
  cases h6 : ldB p s
  · rw [no 6 (by omega) h6]
    exact rck_a6 g p r h b l s f w h1 h2 h3 h4 h5 h6
  cases h7 : ldB p f
  · rw [no 7 (by omega) h7]
    exact rck_a7 g p r h b l s f w h1 h2 h3 h4 h5 h6 h7
  by_cases k1 : 0 ≤ h
  rotate_left
  · rw [no 3 (by omega) (decide_eq_false (fun x => k1 (by have := x; dsimp only at this; omega)))]
    exact rck_b1 g p r h b l s f w h1 h2 h3 h4 h5 h6 h7 k1
  by_cases k2 : h ≤ 32
  rotate_left
  · rw [no 3 (by omega) (decide_eq_false (fun x => k2 (by have := x; dsimp only at this; omega)))]
    exact rck_b2 g p r h b l s f w h1 h2 h3 h4 h5 h6 h7 k1 k2
  by_cases k3 : h = 0
  · by_cases k4 : r = 0
    · skip
      by_cases m1 : 0 ≤ b
      rotate_left
      · rw [no 4 (by omega) (decide_eq_false (fun x => m1 (by have := x; dsimp only at this; omega)))]
        exact rck_t1 g p r h b l s f w h1 h2 h3 h4 h5 h6 h7 k1 k2 (by simp [k3]) (by simp [k4])  m1
      by_cases m2 : b ≤ 1048576
      rotate_left
      · rw [no 4 (by omega) (decide_eq_false (fun x => m2 (by have := x; dsimp only at this; omega)))]
        exact rck_t2 g p r h b l s f w h1 h2 h3 h4 h5 h6 h7 k1 k2 (by simp [k3]) (by simp [k4]) m1 m2
      by_cases m3 : 0 ≤ l
      rotate_left
      · rw [no 5 (by omega) (decide_eq_false (fun x => m3 (by have := x; dsimp only at this; omega)))]
        exact rck_t3 g p r h b l s f w h1 h2 h3 h4 h5 h6 h7 k1 k2 (by simp [k3]) (by simp [k4]) m1 m2 m3
      by_cases m4 : l ≤ b
      rotate_left
      · rw [no 5 (by omega) (decide_eq_false (fun x => m4 (by have := x; dsimp only at this; omega)))]
        exact rck_t4 g p r h b l s f w h1 h2 h3 h4 h5 h6 h7 k1 k2 (by simp [k3]) (by simp [k4]) m1 m2 m3 m4
      by_cases m5 : b = 0
      · have ok : okS ⟨g, p, r, h, b, l, s, f⟩ = true := okS_all.2 fun k hk => by
          rcases eight hk with rfl | rfl | rfl | rfl | rfl | rfl | rfl | rfl
          · exact decide_eq_true (by dsimp only; omega)
          · exact decide_eq_true (by dsimp only; omega)
          · exact h5
          · exact decide_eq_true (by dsimp only; omega)
          · exact decide_eq_true (by dsimp only; omega)
          · exact decide_eq_true (by dsimp only; omega)
          · exact h6
          · exact h7
        have e0 : enE ⟨g, p, r, h, b, l, s, f⟩ = 0 := by unfold enE; rw [ok]; rfl
        rw [e0]
        exact rck_t6 g p r h b l s f w h1 h2 h3 h4 h5 h6 h7 k1 k2 (by simp [k3]) (by simp [k4]) m1 m2 m3 m4 (by simp [m5])
      · rw [no 4 (by omega) (decide_eq_false (fun x => m5 (by have := x; dsimp only at this; omega)))]
        exact rck_t5 g p r h b l s f w h1 h2 h3 h4 h5 h6 h7 k1 k2 (by simp [k3]) (by simp [k4]) m1 m2 m3 m4 (by simp [m5])
    · rw [no 3 (by omega) (decide_eq_false (fun x => k4 (by have := x; dsimp only at this; omega)))]
      exact rck_b3 g p r h b l s f w h1 h2 h3 h4 h5 h6 h7 k1 k2 (by simp [k3]) (by simp [k4])
  · by_cases k4 : r = 0
    · rw [no 3 (by omega) (decide_eq_false (fun x => k3 (by have := x; dsimp only at this; omega)))]
      exact rck_b4 g p r h b l s f w h1 h2 h3 h4 h5 h6 h7 k1 k2 (by simp [k3]) (by simp [k4])
    · skip
      by_cases m1 : 0 ≤ b
      rotate_left
      · rw [no 4 (by omega) (decide_eq_false (fun x => m1 (by have := x; dsimp only at this; omega)))]
        exact rck_f1 g p r h b l s f w h1 h2 h3 h4 h5 h6 h7 k1 k2 (by simp [k3]) (by simp [k4])  m1
      by_cases m2 : b ≤ 1048576
      rotate_left
      · rw [no 4 (by omega) (decide_eq_false (fun x => m2 (by have := x; dsimp only at this; omega)))]
        exact rck_f2 g p r h b l s f w h1 h2 h3 h4 h5 h6 h7 k1 k2 (by simp [k3]) (by simp [k4]) m1 m2
      by_cases m3 : 0 ≤ l
      rotate_left
      · rw [no 5 (by omega) (decide_eq_false (fun x => m3 (by have := x; dsimp only at this; omega)))]
        exact rck_f3 g p r h b l s f w h1 h2 h3 h4 h5 h6 h7 k1 k2 (by simp [k3]) (by simp [k4]) m1 m2 m3
      by_cases m4 : l ≤ b
      rotate_left
      · rw [no 5 (by omega) (decide_eq_false (fun x => m4 (by have := x; dsimp only at this; omega)))]
        exact rck_f4 g p r h b l s f w h1 h2 h3 h4 h5 h6 h7 k1 k2 (by simp [k3]) (by simp [k4]) m1 m2 m3 m4
      by_cases m5 : b = 0
      · rw [no 4 (by omega) (decide_eq_false (fun x => k4 (by have := x; dsimp only at this; omega)))]
        exact rck_f5 g p r h b l s f w h1 h2 h3 h4 h5 h6 h7 k1 k2 (by simp [k3]) (by simp [k4]) m1 m2 m3 m4 (by simp [m5])
      · have ok : okS ⟨g, p, r, h, b, l, s, f⟩ = true := okS_all.2 fun k hk => by
          rcases eight hk with rfl | rfl | rfl | rfl | rfl | rfl | rfl | rfl
          · exact decide_eq_true (by dsimp only; omega)
          · exact decide_eq_true (by dsimp only; omega)
          · exact h5
          · exact decide_eq_true (by dsimp only; omega)
          · exact decide_eq_true (by dsimp only; omega)
          · exact decide_eq_true (by dsimp only; omega)
          · exact h6
          · exact h7
        have e0 : enE ⟨g, p, r, h, b, l, s, f⟩ = 0 := by unfold enE; rw [ok]; rfl
        rw [e0]
        exact rck_f6 g p r h b l s f w h1 h2 h3 h4 h5 h6 h7 k1 k2 (by simp [k3]) (by simp [k4]) m1 m2 m3 m4 (by simp [m5])
end Go.Proofs.Ytoadkdjmbhflnaa.Oct
