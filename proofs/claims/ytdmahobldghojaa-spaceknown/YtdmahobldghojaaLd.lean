/-
  The landed space: what a page is.
-/
import Derived.Test.YtdmahobldghojaaLc
import Derived.LoopN
import Derived.Laws.EntriesVeiled
namespace Go.Proofs.Ytdmahobldghojaa.Oct.Sps
open Go.RowKit

theorem bitR_las {S : List Int} {k : Nat} (hk : k < S.length) : bitR (lasL S) k = laB (S.getD k 0) := bitR_bitsP (by omega)
theorem bitR_bit {S : List Int} {k : Nat} (hk : k < S.length) : bitR (bitL S) k = usB (S.getD k 0) := bitR_bitsP (by omega)

section
variable {w w' : World} {s a ca b cb : Nat} {F : Nat → Prop} {S : List Int}

/-- The two bits of a page. -/
theorem SpX.hasA (h : SpX w s a ca b cb F S) (k : Nat) (hk : k < S.length) : Calls Try.prog 51 #[.slice (some ⟨a, 0, none⟩) ((S.length + 7) / 8) ca, .int .i64 k] w fun e w' => e = .returned (.bool (laB (S.getD k 0))) ∧ w = w' := by
  have hA := setHas_any _ ca (lasL S) k w h.rowA (by rw [lasL_len]; have := h.ok.hi; omega) (by rw [lasL_len]; omega)
  rw [lasL_len, bitR_las hk] at hA
  exact hA
theorem SpX.hasB (h : SpX w s a ca b cb F S) (k : Nat) (hk : k < S.length) : Calls Try.prog 51 #[.slice (some ⟨b, 0, none⟩) ((S.length + 7) / 8) cb, .int .i64 k] w fun e w' => e = .returned (.bool (usB (S.getD k 0))) ∧ w = w' := by
  have hB := setHas_any _ cb (bitL S) k w h.rowB (by rw [bitL_len]; have := h.ok.hi; omega) (by rw [bitL_len]; omega)
  rw [bitL_len, bitR_bit hk] at hB
  exact hB

theorem isFree_any (h : SpX w s a ca b cb F S) (k : Nat) (hk : k < S.length) : Calls Try.prog 47 #[.pointer (some ⟨s, 0, none⟩), .int .i64 k] w fun e w' => e = .returned (.bool (S.getD k 0 == 0)) ∧ w = w' := by
  obtain ⟨-, c1, c2⟩ := h.at
  have hA := h.hasA k hk
  have hB := h.hasB k hk
  have hv3 := h.ok.at k
  obtain ⟨v, hv⟩ : ∃ v, S.getD k 0 = v := ⟨_, rfl⟩
  rw [hv] at hA hB hv3 ⊢
  obtain ⟨n, hn⟩ : ∃ n, (S.length + 7) / 8 = n := ⟨_, rfl⟩
  rw [hn] at c1 c2 hA hB
  have hc : v = 0 ∨ v = 1 ∨ v = 2 ∨ v = 3 := by omega
  clear h hv hk hv3 hn
  rcases hc with rfl | rfl | rfl | rfl
  · rw [show laB 0 = false from rfl] at hA
    rw [show usB 0 = false from rfl] at hB
    go_enter Try.func47, Try.ntmps47
    go_wp2_with (go_at_call 51; first | (refine hA.mono ?_; clear hA; rintro e w' ⟨rfl, rfl⟩) | (refine hB.mono ?_; rintro e w' ⟨rfl, rfl⟩))
    go_ret
    exact ⟨rfl, rfl⟩
  · rw [show laB 1 = true from rfl] at hA
    rw [show usB 1 = true from rfl] at hB
    go_enter Try.func47, Try.ntmps47
    go_wp2_with (go_at_call 51; first | (refine hA.mono ?_; clear hA; rintro e w' ⟨rfl, rfl⟩) | (refine hB.mono ?_; rintro e w' ⟨rfl, rfl⟩))
    go_ret
    exact ⟨rfl, rfl⟩
  · rw [show laB 2 = false from rfl] at hA
    rw [show usB 2 = true from rfl] at hB
    go_enter Try.func47, Try.ntmps47
    go_wp2_with (go_at_call 51; first | (refine hA.mono ?_; clear hA; rintro e w' ⟨rfl, rfl⟩) | (refine hB.mono ?_; rintro e w' ⟨rfl, rfl⟩))
    go_ret
    exact ⟨rfl, rfl⟩
  · rw [show laB 3 = true from rfl] at hA
    rw [show usB 3 = false from rfl] at hB
    go_enter Try.func47, Try.ntmps47
    go_wp2_with (go_at_call 51; first | (refine hA.mono ?_; clear hA; rintro e w' ⟨rfl, rfl⟩) | (refine hB.mono ?_; rintro e w' ⟨rfl, rfl⟩))
    go_ret
    exact ⟨rfl, rfl⟩
theorem isUsed_any (h : SpX w s a ca b cb F S) (k : Nat) (hk : k < S.length) : Calls Try.prog 48 #[.pointer (some ⟨s, 0, none⟩), .int .i64 k] w fun e w' => e = .returned (.bool (S.getD k 0 == 1)) ∧ w = w' := by
  obtain ⟨-, c1, c2⟩ := h.at
  have hA := h.hasA k hk
  have hB := h.hasB k hk
  have hv3 := h.ok.at k
  obtain ⟨v, hv⟩ : ∃ v, S.getD k 0 = v := ⟨_, rfl⟩
  rw [hv] at hA hB hv3 ⊢
  obtain ⟨n, hn⟩ : ∃ n, (S.length + 7) / 8 = n := ⟨_, rfl⟩
  rw [hn] at c1 c2 hA hB
  have hc : v = 0 ∨ v = 1 ∨ v = 2 ∨ v = 3 := by omega
  clear h hv hk hv3 hn
  rcases hc with rfl | rfl | rfl | rfl
  · rw [show laB 0 = false from rfl] at hA
    rw [show usB 0 = false from rfl] at hB
    go_enter Try.func48, Try.ntmps48
    go_wp2_with (go_at_call 51; first | (refine hA.mono ?_; clear hA; rintro e w' ⟨rfl, rfl⟩) | (refine hB.mono ?_; rintro e w' ⟨rfl, rfl⟩))
    go_ret
    exact ⟨rfl, rfl⟩
  · rw [show laB 1 = true from rfl] at hA
    rw [show usB 1 = true from rfl] at hB
    go_enter Try.func48, Try.ntmps48
    go_wp2_with (go_at_call 51; first | (refine hA.mono ?_; clear hA; rintro e w' ⟨rfl, rfl⟩) | (refine hB.mono ?_; rintro e w' ⟨rfl, rfl⟩))
    go_ret
    exact ⟨rfl, rfl⟩
  · rw [show laB 2 = false from rfl] at hA
    rw [show usB 2 = true from rfl] at hB
    go_enter Try.func48, Try.ntmps48
    go_wp2_with (go_at_call 51; first | (refine hA.mono ?_; clear hA; rintro e w' ⟨rfl, rfl⟩) | (refine hB.mono ?_; rintro e w' ⟨rfl, rfl⟩))
    go_ret
    exact ⟨rfl, rfl⟩
  · rw [show laB 3 = true from rfl] at hA
    rw [show usB 3 = false from rfl] at hB
    go_enter Try.func48, Try.ntmps48
    go_wp2_with (go_at_call 51; first | (refine hA.mono ?_; clear hA; rintro e w' ⟨rfl, rfl⟩) | (refine hB.mono ?_; rintro e w' ⟨rfl, rfl⟩))
    go_ret
    exact ⟨rfl, rfl⟩
theorem isOwn_any (h : SpX w s a ca b cb F S) (k : Nat) (hk : k < S.length) : Calls Try.prog 49 #[.pointer (some ⟨s, 0, none⟩), .int .i64 k] w fun e w' => e = .returned (.bool (S.getD k 0 == 2)) ∧ w = w' := by
  obtain ⟨-, c1, c2⟩ := h.at
  have hA := h.hasA k hk
  have hB := h.hasB k hk
  have hv3 := h.ok.at k
  obtain ⟨v, hv⟩ : ∃ v, S.getD k 0 = v := ⟨_, rfl⟩
  rw [hv] at hA hB hv3 ⊢
  obtain ⟨n, hn⟩ : ∃ n, (S.length + 7) / 8 = n := ⟨_, rfl⟩
  rw [hn] at c1 c2 hA hB
  have hc : v = 0 ∨ v = 1 ∨ v = 2 ∨ v = 3 := by omega
  clear h hv hk hv3 hn
  rcases hc with rfl | rfl | rfl | rfl
  · rw [show laB 0 = false from rfl] at hA
    rw [show usB 0 = false from rfl] at hB
    go_enter Try.func49, Try.ntmps49
    go_wp2_with (go_at_call 51; first | (refine hA.mono ?_; clear hA; rintro e w' ⟨rfl, rfl⟩) | (refine hB.mono ?_; rintro e w' ⟨rfl, rfl⟩))
    go_ret
    exact ⟨rfl, rfl⟩
  · rw [show laB 1 = true from rfl] at hA
    rw [show usB 1 = true from rfl] at hB
    go_enter Try.func49, Try.ntmps49
    go_wp2_with (go_at_call 51; first | (refine hA.mono ?_; clear hA; rintro e w' ⟨rfl, rfl⟩) | (refine hB.mono ?_; rintro e w' ⟨rfl, rfl⟩))
    go_ret
    exact ⟨rfl, rfl⟩
  · rw [show laB 2 = false from rfl] at hA
    rw [show usB 2 = true from rfl] at hB
    go_enter Try.func49, Try.ntmps49
    go_wp2_with (go_at_call 51; first | (refine hA.mono ?_; clear hA; rintro e w' ⟨rfl, rfl⟩) | (refine hB.mono ?_; rintro e w' ⟨rfl, rfl⟩))
    go_ret
    exact ⟨rfl, rfl⟩
  · rw [show laB 3 = true from rfl] at hA
    rw [show usB 3 = false from rfl] at hB
    go_enter Try.func49, Try.ntmps49
    go_wp2_with (go_at_call 51; first | (refine hA.mono ?_; clear hA; rintro e w' ⟨rfl, rfl⟩) | (refine hB.mono ?_; rintro e w' ⟨rfl, rfl⟩))
    go_ret
    exact ⟨rfl, rfl⟩
theorem isPending_any (h : SpX w s a ca b cb F S) (k : Nat) (hk : k < S.length) : Calls Try.prog 50 #[.pointer (some ⟨s, 0, none⟩), .int .i64 k] w fun e w' => e = .returned (.bool (S.getD k 0 == 3)) ∧ w = w' := by
  obtain ⟨-, c1, c2⟩ := h.at
  have hA := h.hasA k hk
  have hB := h.hasB k hk
  have hv3 := h.ok.at k
  obtain ⟨v, hv⟩ : ∃ v, S.getD k 0 = v := ⟨_, rfl⟩
  rw [hv] at hA hB hv3 ⊢
  obtain ⟨n, hn⟩ : ∃ n, (S.length + 7) / 8 = n := ⟨_, rfl⟩
  rw [hn] at c1 c2 hA hB
  have hc : v = 0 ∨ v = 1 ∨ v = 2 ∨ v = 3 := by omega
  clear h hv hk hv3 hn
  rcases hc with rfl | rfl | rfl | rfl
  · rw [show laB 0 = false from rfl] at hA
    rw [show usB 0 = false from rfl] at hB
    go_enter Try.func50, Try.ntmps50
    go_wp2_with (go_at_call 51; first | (refine hA.mono ?_; clear hA; rintro e w' ⟨rfl, rfl⟩) | (refine hB.mono ?_; rintro e w' ⟨rfl, rfl⟩))
    go_ret
    exact ⟨rfl, rfl⟩
  · rw [show laB 1 = true from rfl] at hA
    rw [show usB 1 = true from rfl] at hB
    go_enter Try.func50, Try.ntmps50
    go_wp2_with (go_at_call 51; first | (refine hA.mono ?_; clear hA; rintro e w' ⟨rfl, rfl⟩) | (refine hB.mono ?_; rintro e w' ⟨rfl, rfl⟩))
    go_ret
    exact ⟨rfl, rfl⟩
  · rw [show laB 2 = false from rfl] at hA
    rw [show usB 2 = true from rfl] at hB
    go_enter Try.func50, Try.ntmps50
    go_wp2_with (go_at_call 51; first | (refine hA.mono ?_; clear hA; rintro e w' ⟨rfl, rfl⟩) | (refine hB.mono ?_; rintro e w' ⟨rfl, rfl⟩))
    go_ret
    exact ⟨rfl, rfl⟩
  · rw [show laB 3 = true from rfl] at hA
    rw [show usB 3 = false from rfl] at hB
    go_enter Try.func50, Try.ntmps50
    go_wp2_with (go_at_call 51; first | (refine hA.mono ?_; clear hA; rintro e w' ⟨rfl, rfl⟩) | (refine hB.mono ?_; rintro e w' ⟨rfl, rfl⟩))
    go_ret
    exact ⟨rfl, rfl⟩

/-- The tellers, one by one. -/
def teV (s : Nat) : Value := .agg #[.func (.func 47) #[.pointer (some ⟨s, 0, none⟩)] #[], .func (.func 48) #[.pointer (some ⟨s, 0, none⟩)] #[], .func (.func 49) #[.pointer (some ⟨s, 0, none⟩)] #[], .func (.func 50) #[.pointer (some ⟨s, 0, none⟩)] #[]]
theorem te0 (s : Nat) (w : World) : (Instr.index 69 (teV s) (.int .i64 0)).run Try.prog w = .ok (.func (.func 47) #[.pointer (some ⟨s, 0, none⟩)] #[]) w := by kernel_rfl
theorem te1 (s : Nat) (w : World) : (Instr.index 69 (teV s) (.int .i64 1)).run Try.prog w = .ok (.func (.func 48) #[.pointer (some ⟨s, 0, none⟩)] #[]) w := by kernel_rfl
theorem te2 (s : Nat) (w : World) : (Instr.index 69 (teV s) (.int .i64 2)).run Try.prog w = .ok (.func (.func 49) #[.pointer (some ⟨s, 0, none⟩)] #[]) w := by kernel_rfl
theorem te3 (s : Nat) (w : World) : (Instr.index 69 (teV s) (.int .i64 3)).run Try.prog w = .ok (.func (.func 50) #[.pointer (some ⟨s, 0, none⟩)] #[]) w := by kernel_rfl

/-- What a page is, as a number; 4 where it is none. -/
def stN (S : List Int) (p : Int) : Int := if inB S p then S.getD p.toNat 0 else 4
theorem stN_in {S : List Int} {k : Nat} (hk : k < S.length) : stN S k = S.getD k 0 := by
  unfold stN inB
  rw [decide_eq_true (show (0 : Int) ≤ k by omega), decide_eq_true (show (k : Int) < S.length by omega)]
  rfl

theorem state_no (h : SpX w s a ca b cb F S) (p : Int) (hp : inB S p = false) : Calls Try.prog 39 #[.pointer (some ⟨s, 0, none⟩), .int .i64 p] w fun e w' => e = .returned (.int .i64 4) ∧ Below w.heap.size w w' := by
  have hm := made_any h
  have hh := has_any h p
  rw [hp] at hh
  clear h hp
  go_enter Try.func39, Try.ntmps39
  go_wp2_with (first | (go_at_call 36; refine hm.mono ?_; rintro e w' ⟨rfl, rfl⟩) | (go_at_call 38; refine hh.mono ?_; rintro e w' ⟨rfl, rfl⟩))
  go_ret
  exact ⟨rfl, Below.refl _ _⟩

set_option maxHeartbeats 1000000 in
theorem state_0 (h : SpX w s a ca b cb F S) (k : Nat) (hk : k < S.length) (hv : S.getD k 0 = 0) : Calls Try.prog 39 #[.pointer (some ⟨s, 0, none⟩), .int .i64 k] w fun e w' => e = .returned (.int .i64 0) ∧ Below w.heap.size w w' := by
  have hm := made_any h
  have hh := has_any h k
  rw [show inB S k = true by unfold inB; rw [decide_eq_true (show (0 : Int) ≤ k by omega), decide_eq_true (show (k : Int) < S.length by omega)]; rfl] at hh
  have HS : Hid (∀ w', Below w.heap.size w w' → SpX w' s a ca b cb F S) := fun w' hb => h.below hb
  have H0 : Hid (∀ w', Below w.heap.size w w' → Calls Try.prog 47 #[.pointer (some ⟨s, 0, none⟩), .int .i64 k] w' fun e w'' => e = .returned (.bool true) ∧ w' = w'') := fun w' hb => by
    have := isFree_any (HS.out w' hb) k hk
    rw [hv] at this
    exact this
  clear h hk hv HS
  go_enter Try.func39, Try.ntmps39
  go_wp2_with (first | (go_at_call 36; refine hm.mono ?_; rintro e w' ⟨rfl, rfl⟩) | (go_at_call 38; refine hh.mono ?_; rintro e w' ⟨rfl, rfl⟩))
  have e0 := te0 s
  simp only [teV] at e0
  refine wp_loop_rounds 1 ?_
  rw [rounds_succ]; go_wp2_with (first | (go_at_call 47; refine (H0.out _ ((Below.refl _ _).alloc (Nat.le_refl _) _)).mono ?_; rintro e w' ⟨rfl, rfl⟩))
  go_ret
  exact ⟨rfl, ((Below.refl _ _).alloc (Nat.le_refl _) _)⟩

set_option maxHeartbeats 1000000 in
theorem state_1 (h : SpX w s a ca b cb F S) (k : Nat) (hk : k < S.length) (hv : S.getD k 0 = 1) : Calls Try.prog 39 #[.pointer (some ⟨s, 0, none⟩), .int .i64 k] w fun e w' => e = .returned (.int .i64 1) ∧ Below w.heap.size w w' := by
  have hm := made_any h
  have hh := has_any h k
  rw [show inB S k = true by unfold inB; rw [decide_eq_true (show (0 : Int) ≤ k by omega), decide_eq_true (show (k : Int) < S.length by omega)]; rfl] at hh
  have HS : Hid (∀ w', Below w.heap.size w w' → SpX w' s a ca b cb F S) := fun w' hb => h.below hb
  have H0 : Hid (∀ w', Below w.heap.size w w' → Calls Try.prog 47 #[.pointer (some ⟨s, 0, none⟩), .int .i64 k] w' fun e w'' => e = .returned (.bool false) ∧ w' = w'') := fun w' hb => by
    have := isFree_any (HS.out w' hb) k hk
    rw [hv] at this
    exact this
  have H1 : Hid (∀ w', Below w.heap.size w w' → Calls Try.prog 48 #[.pointer (some ⟨s, 0, none⟩), .int .i64 k] w' fun e w'' => e = .returned (.bool true) ∧ w' = w'') := fun w' hb => by
    have := isUsed_any (HS.out w' hb) k hk
    rw [hv] at this
    exact this
  clear h hk hv HS
  go_enter Try.func39, Try.ntmps39
  go_wp2_with (first | (go_at_call 36; refine hm.mono ?_; rintro e w' ⟨rfl, rfl⟩) | (go_at_call 38; refine hh.mono ?_; rintro e w' ⟨rfl, rfl⟩))
  have e0 := te0 s
  have e1 := te1 s
  simp only [teV] at e0 e1
  refine wp_loop_rounds 2 ?_
  rw [rounds_succ]; go_wp2_with (first | (go_at_call 47; refine (H0.out _ ((Below.refl _ _).alloc (Nat.le_refl _) _)).mono ?_; rintro e w' ⟨rfl, rfl⟩) | (go_at_call 48; refine (H1.out _ ((Below.refl _ _).alloc (Nat.le_refl _) _)).mono ?_; rintro e w' ⟨rfl, rfl⟩))
  rw [rounds_succ]; go_wp2_with (first | (go_at_call 47; refine (H0.out _ ((Below.refl _ _).alloc (Nat.le_refl _) _)).mono ?_; rintro e w' ⟨rfl, rfl⟩) | (go_at_call 48; refine (H1.out _ ((Below.refl _ _).alloc (Nat.le_refl _) _)).mono ?_; rintro e w' ⟨rfl, rfl⟩))
  go_ret
  exact ⟨rfl, ((Below.refl _ _).alloc (Nat.le_refl _) _)⟩

set_option maxHeartbeats 1000000 in
theorem state_2 (h : SpX w s a ca b cb F S) (k : Nat) (hk : k < S.length) (hv : S.getD k 0 = 2) : Calls Try.prog 39 #[.pointer (some ⟨s, 0, none⟩), .int .i64 k] w fun e w' => e = .returned (.int .i64 2) ∧ Below w.heap.size w w' := by
  have hm := made_any h
  have hh := has_any h k
  rw [show inB S k = true by unfold inB; rw [decide_eq_true (show (0 : Int) ≤ k by omega), decide_eq_true (show (k : Int) < S.length by omega)]; rfl] at hh
  have HS : Hid (∀ w', Below w.heap.size w w' → SpX w' s a ca b cb F S) := fun w' hb => h.below hb
  have H0 : Hid (∀ w', Below w.heap.size w w' → Calls Try.prog 47 #[.pointer (some ⟨s, 0, none⟩), .int .i64 k] w' fun e w'' => e = .returned (.bool false) ∧ w' = w'') := fun w' hb => by
    have := isFree_any (HS.out w' hb) k hk
    rw [hv] at this
    exact this
  have H1 : Hid (∀ w', Below w.heap.size w w' → Calls Try.prog 48 #[.pointer (some ⟨s, 0, none⟩), .int .i64 k] w' fun e w'' => e = .returned (.bool false) ∧ w' = w'') := fun w' hb => by
    have := isUsed_any (HS.out w' hb) k hk
    rw [hv] at this
    exact this
  have H2 : Hid (∀ w', Below w.heap.size w w' → Calls Try.prog 49 #[.pointer (some ⟨s, 0, none⟩), .int .i64 k] w' fun e w'' => e = .returned (.bool true) ∧ w' = w'') := fun w' hb => by
    have := isOwn_any (HS.out w' hb) k hk
    rw [hv] at this
    exact this
  clear h hk hv HS
  go_enter Try.func39, Try.ntmps39
  go_wp2_with (first | (go_at_call 36; refine hm.mono ?_; rintro e w' ⟨rfl, rfl⟩) | (go_at_call 38; refine hh.mono ?_; rintro e w' ⟨rfl, rfl⟩))
  have e0 := te0 s
  have e1 := te1 s
  have e2 := te2 s
  simp only [teV] at e0 e1 e2
  refine wp_loop_rounds 3 ?_
  rw [rounds_succ]; go_wp2_with (first | (go_at_call 47; refine (H0.out _ ((Below.refl _ _).alloc (Nat.le_refl _) _)).mono ?_; rintro e w' ⟨rfl, rfl⟩) | (go_at_call 48; refine (H1.out _ ((Below.refl _ _).alloc (Nat.le_refl _) _)).mono ?_; rintro e w' ⟨rfl, rfl⟩) | (go_at_call 49; refine (H2.out _ ((Below.refl _ _).alloc (Nat.le_refl _) _)).mono ?_; rintro e w' ⟨rfl, rfl⟩))
  rw [rounds_succ]; go_wp2_with (first | (go_at_call 47; refine (H0.out _ ((Below.refl _ _).alloc (Nat.le_refl _) _)).mono ?_; rintro e w' ⟨rfl, rfl⟩) | (go_at_call 48; refine (H1.out _ ((Below.refl _ _).alloc (Nat.le_refl _) _)).mono ?_; rintro e w' ⟨rfl, rfl⟩) | (go_at_call 49; refine (H2.out _ ((Below.refl _ _).alloc (Nat.le_refl _) _)).mono ?_; rintro e w' ⟨rfl, rfl⟩))
  rw [rounds_succ]; go_wp2_with (first | (go_at_call 47; refine (H0.out _ ((Below.refl _ _).alloc (Nat.le_refl _) _)).mono ?_; rintro e w' ⟨rfl, rfl⟩) | (go_at_call 48; refine (H1.out _ ((Below.refl _ _).alloc (Nat.le_refl _) _)).mono ?_; rintro e w' ⟨rfl, rfl⟩) | (go_at_call 49; refine (H2.out _ ((Below.refl _ _).alloc (Nat.le_refl _) _)).mono ?_; rintro e w' ⟨rfl, rfl⟩))
  go_ret
  exact ⟨rfl, ((Below.refl _ _).alloc (Nat.le_refl _) _)⟩

set_option maxHeartbeats 1000000 in
theorem state_3 (h : SpX w s a ca b cb F S) (k : Nat) (hk : k < S.length) (hv : S.getD k 0 = 3) : Calls Try.prog 39 #[.pointer (some ⟨s, 0, none⟩), .int .i64 k] w fun e w' => e = .returned (.int .i64 3) ∧ Below w.heap.size w w' := by
  have hm := made_any h
  have hh := has_any h k
  rw [show inB S k = true by unfold inB; rw [decide_eq_true (show (0 : Int) ≤ k by omega), decide_eq_true (show (k : Int) < S.length by omega)]; rfl] at hh
  have HS : Hid (∀ w', Below w.heap.size w w' → SpX w' s a ca b cb F S) := fun w' hb => h.below hb
  have H0 : Hid (∀ w', Below w.heap.size w w' → Calls Try.prog 47 #[.pointer (some ⟨s, 0, none⟩), .int .i64 k] w' fun e w'' => e = .returned (.bool false) ∧ w' = w'') := fun w' hb => by
    have := isFree_any (HS.out w' hb) k hk
    rw [hv] at this
    exact this
  have H1 : Hid (∀ w', Below w.heap.size w w' → Calls Try.prog 48 #[.pointer (some ⟨s, 0, none⟩), .int .i64 k] w' fun e w'' => e = .returned (.bool false) ∧ w' = w'') := fun w' hb => by
    have := isUsed_any (HS.out w' hb) k hk
    rw [hv] at this
    exact this
  have H2 : Hid (∀ w', Below w.heap.size w w' → Calls Try.prog 49 #[.pointer (some ⟨s, 0, none⟩), .int .i64 k] w' fun e w'' => e = .returned (.bool false) ∧ w' = w'') := fun w' hb => by
    have := isOwn_any (HS.out w' hb) k hk
    rw [hv] at this
    exact this
  have H3 : Hid (∀ w', Below w.heap.size w w' → Calls Try.prog 50 #[.pointer (some ⟨s, 0, none⟩), .int .i64 k] w' fun e w'' => e = .returned (.bool true) ∧ w' = w'') := fun w' hb => by
    have := isPending_any (HS.out w' hb) k hk
    rw [hv] at this
    exact this
  clear h hk hv HS
  go_enter Try.func39, Try.ntmps39
  go_wp2_with (first | (go_at_call 36; refine hm.mono ?_; rintro e w' ⟨rfl, rfl⟩) | (go_at_call 38; refine hh.mono ?_; rintro e w' ⟨rfl, rfl⟩))
  have e0 := te0 s
  have e1 := te1 s
  have e2 := te2 s
  have e3 := te3 s
  simp only [teV] at e0 e1 e2 e3
  refine wp_loop_rounds 4 ?_
  rw [rounds_succ]; go_wp2_with (first | (go_at_call 47; refine (H0.out _ ((Below.refl _ _).alloc (Nat.le_refl _) _)).mono ?_; rintro e w' ⟨rfl, rfl⟩) | (go_at_call 48; refine (H1.out _ ((Below.refl _ _).alloc (Nat.le_refl _) _)).mono ?_; rintro e w' ⟨rfl, rfl⟩) | (go_at_call 49; refine (H2.out _ ((Below.refl _ _).alloc (Nat.le_refl _) _)).mono ?_; rintro e w' ⟨rfl, rfl⟩) | (go_at_call 50; refine (H3.out _ ((Below.refl _ _).alloc (Nat.le_refl _) _)).mono ?_; rintro e w' ⟨rfl, rfl⟩))
  rw [rounds_succ]; go_wp2_with (first | (go_at_call 47; refine (H0.out _ ((Below.refl _ _).alloc (Nat.le_refl _) _)).mono ?_; rintro e w' ⟨rfl, rfl⟩) | (go_at_call 48; refine (H1.out _ ((Below.refl _ _).alloc (Nat.le_refl _) _)).mono ?_; rintro e w' ⟨rfl, rfl⟩) | (go_at_call 49; refine (H2.out _ ((Below.refl _ _).alloc (Nat.le_refl _) _)).mono ?_; rintro e w' ⟨rfl, rfl⟩) | (go_at_call 50; refine (H3.out _ ((Below.refl _ _).alloc (Nat.le_refl _) _)).mono ?_; rintro e w' ⟨rfl, rfl⟩))
  rw [rounds_succ]; go_wp2_with (first | (go_at_call 47; refine (H0.out _ ((Below.refl _ _).alloc (Nat.le_refl _) _)).mono ?_; rintro e w' ⟨rfl, rfl⟩) | (go_at_call 48; refine (H1.out _ ((Below.refl _ _).alloc (Nat.le_refl _) _)).mono ?_; rintro e w' ⟨rfl, rfl⟩) | (go_at_call 49; refine (H2.out _ ((Below.refl _ _).alloc (Nat.le_refl _) _)).mono ?_; rintro e w' ⟨rfl, rfl⟩) | (go_at_call 50; refine (H3.out _ ((Below.refl _ _).alloc (Nat.le_refl _) _)).mono ?_; rintro e w' ⟨rfl, rfl⟩))
  rw [rounds_succ]; go_wp2_with (first | (go_at_call 47; refine (H0.out _ ((Below.refl _ _).alloc (Nat.le_refl _) _)).mono ?_; rintro e w' ⟨rfl, rfl⟩) | (go_at_call 48; refine (H1.out _ ((Below.refl _ _).alloc (Nat.le_refl _) _)).mono ?_; rintro e w' ⟨rfl, rfl⟩) | (go_at_call 49; refine (H2.out _ ((Below.refl _ _).alloc (Nat.le_refl _) _)).mono ?_; rintro e w' ⟨rfl, rfl⟩) | (go_at_call 50; refine (H3.out _ ((Below.refl _ _).alloc (Nat.le_refl _) _)).mono ?_; rintro e w' ⟨rfl, rfl⟩))
  go_ret
  exact ⟨rfl, ((Below.refl _ _).alloc (Nat.le_refl _) _)⟩

end
end Go.Proofs.Ytdmahobldghojaa.Oct.Sps
