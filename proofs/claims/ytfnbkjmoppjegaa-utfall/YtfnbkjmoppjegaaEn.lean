/-
  Encode, Class and Flip: of utf, and of the document.
-/
import Derived.Test.YtfnbkjmoppjegaaW
import Derived.LoopN
namespace Go.Proofs.Ytfnbkjmoppjegaa.Oct
open Go.RowKit

/-- The bytes of a letter. -/
def enc (r : Int) : List Int :=
  if ltB r = true then
    if r < 128 then [r]
    else if r < 2048 then [192 + r / 64, 128 + r % 64]
    else if r < 65536 then [224 + r / 4096, 128 + r / 64 % 64, 128 + r % 64]
    else [240 + r / 262144, 128 + r / 4096 % 64, 128 + r / 64 % 64, 128 + r % 64]
  else []

theorem make2 (w : World) : (Instr.makeSlice 25 (.int .i64 2) (.int .i64 2)).run Try.prog w = .ok (.slice (some ⟨w.heap.size, 0, none⟩) 2 2) (w.alloc (.cells #[.int .u8 0, .int .u8 0] 5)) := by kernel_rfl
theorem make3 (w : World) : (Instr.makeSlice 25 (.int .i64 3) (.int .i64 3)).run Try.prog w = .ok (.slice (some ⟨w.heap.size, 0, none⟩) 3 3) (w.alloc (.cells #[.int .u8 0, .int .u8 0, .int .u8 0] 5)) := by kernel_rfl
theorem make4 (w : World) : (Instr.makeSlice 25 (.int .i64 4) (.int .i64 4)).run Try.prog w = .ok (.slice (some ⟨w.heap.size, 0, none⟩) 4 4) (w.alloc (.cells #[.int .u8 0, .int .u8 0, .int .u8 0, .int .u8 0] 5)) := by kernel_rfl

theorem own_lit (w : World) (zs : List Int) (hm : zs.length ≤ maxLen) : Own w.heap.size (w.alloc (.cells (zs.map (Value.int .u8)).toArray 5)) (.slice (some ⟨w.heap.size, 0, none⟩) zs.length zs.length) zs := by
  have := World.ownsRow_lit (base := w.heap.size) (e := 5) (size := 1) w (zs.map (Value.int .u8)).toArray zs.length (Nat.le_refl _) hm (by simp)
  unfold Own
  exact this

theorem e0 {r : Int} (h : ltB r = false) : enc r = [] := by unfold enc; rw [h]; rfl
theorem e1 {r : Int} (h : ltB r = true) (h1 : r < 128) : enc r = [r] := by unfold enc; rw [if_pos h, if_pos h1]
theorem e2 {r : Int} (h : ltB r = true) (h1 : ¬ r < 128) (h2 : r < 2048) : enc r = [192 + r / 64, 128 + r % 64] := by unfold enc; rw [if_pos h, if_neg h1, if_pos h2]
theorem e3 {r : Int} (h : ltB r = true) (h1 : ¬ r < 128) (h2 : ¬ r < 2048) (h3 : r < 65536) : enc r = [224 + r / 4096, 128 + r / 64 % 64, 128 + r % 64] := by unfold enc; rw [if_pos h, if_neg h1, if_neg h2, if_pos h3]
theorem e4 {r : Int} (h : ltB r = true) (h1 : ¬ r < 128) (h2 : ¬ r < 2048) (h3 : ¬ r < 65536) : enc r = [240 + r / 262144, 128 + r / 4096 % 64, 128 + r / 64 % 64, 128 + r % 64] := by unfold enc; rw [if_pos h, if_neg h1, if_neg h2, if_neg h3]

theorem ltB_bd {r : Int} (h : ltB r = true) : 0 ≤ r ∧ r ≤ 1114111 ∧ (r < 55296 ∨ 57343 < r) := by simpa [ltB] using h

theorem or2_fin : ∀ n : Fin 256, (n.val : Int) < 32 → bits .or .u8 192 (n.val : Int) = 192 + n.val := by decide +kernel
theorem or3_fin : ∀ n : Fin 256, (n.val : Int) < 16 → bits .or .u8 224 (n.val : Int) = 224 + n.val := by decide +kernel
theorem or4_fin : ∀ n : Fin 256, (n.val : Int) < 8 → bits .or .u8 240 (n.val : Int) = 240 + n.val := by decide +kernel

set_option maxHeartbeats 1000000 in
theorem enc_any (r : Int) (w : World) :
    Calls Try.prog 18 #[.int .i64 r] w fun e w' => ∃ v, e = .returned v ∧ Own w.heap.size w' v (enc r) ∧ Below w.heap.size w w' := by
  have hsg : IntKind.u8.signed = false := rfl
  have hmx : IntKind.u8.max = 255 := rfl
  by_cases hl : ltB r = true
  · obtain ⟨hb0, hb1, hb2⟩ := ltB_bd hl
    by_cases h1 : r < 128
    · rw [e1 hl h1]
      have hg : lgI r = 1 := by unfold lgI; rw [if_pos h1]
      clear hb2
      go_enter Try.func18, Try.ntmps18
      go_wp2_with (first | (go_at_call 29; refine (letter_any _ _).mono ?_; rintro e w' ⟨rfl, rfl⟩) | (go_at_call 30; refine (length_any _ _).mono ?_; rintro e w' ⟨rfl, rfl⟩))
      go_ret
      exact ⟨_, rfl, own_lit w [r] (by simp [maxLen]), (Below.refl _ _).alloc (Nat.le_refl _) _⟩
    · by_cases h2 : r < 2048
      · rw [e2 hl h1 h2]
        have hg : lgI r = 2 := by unfold lgI; rw [if_neg h1, if_pos h2]
        have hmk := make2
        have hx : bits .xor .u8 255 63 = 192 := by decide
        have ho : bits .or .u8 192 (r / 64) = 192 + r / 64 := fin_of (p := fun c => c < 32 → bits .or .u8 192 c = 192 + c) or2_fin (c := r / 64) (by omega) (by omega) (by omega)
        clear hb2
        go_enter Try.func18, Try.ntmps18
        go_wp2_with (first | (go_at_call 29; refine (letter_any _ _).mono ?_; rintro e w' ⟨rfl, rfl⟩) | (go_at_call 30; refine (length_any _ _).mono ?_; rintro e w' ⟨rfl, rfl⟩))
        refine wp_loop_rounds 2 ?_
        rw [rounds_succ]; go_wp2
        rw [rounds_succ]; go_wp2
        go_ret
        exact ⟨_, rfl, own_lit w [192 + r / 64, 128 + r % 64] (by simp [maxLen]), (Below.refl _ _).alloc (Nat.le_refl _) _⟩
      · by_cases h3 : r < 65536
        · rw [e3 hl h1 h2 h3]
          have hg : lgI r = 3 := by unfold lgI; rw [if_neg h1, if_neg h2, if_pos h3]
          have hmk := make3
          have hx : bits .xor .u8 255 31 = 224 := by decide
          have hdd : r / 64 / 64 = r / 4096 := by omega
          have ho : bits .or .u8 224 (r / 4096) = 224 + r / 4096 := fin_of (p := fun c => c < 16 → bits .or .u8 224 c = 224 + c) or3_fin (c := r / 4096) (by omega) (by omega) (by omega)
          clear hb2
          go_enter Try.func18, Try.ntmps18
          go_wp2_with (first | (go_at_call 29; refine (letter_any _ _).mono ?_; rintro e w' ⟨rfl, rfl⟩) | (go_at_call 30; refine (length_any _ _).mono ?_; rintro e w' ⟨rfl, rfl⟩))
          refine wp_loop_rounds 3 ?_
          rw [rounds_succ]; go_wp2
          rw [rounds_succ]; go_wp2
          rw [rounds_succ]; go_wp2
          go_ret
          exact ⟨_, rfl, own_lit w [224 + r / 4096, 128 + r / 64 % 64, 128 + r % 64] (by simp [maxLen]), (Below.refl _ _).alloc (Nat.le_refl _) _⟩
        · rw [e4 hl h1 h2 h3]
          have hg : lgI r = 4 := by unfold lgI; rw [if_neg h1, if_neg h2, if_neg h3]
          have hmk := make4
          have hx : bits .xor .u8 255 15 = 240 := by decide
          have hdd : r / 64 / 64 = r / 4096 := by omega
          have hdd' : r / 4096 / 64 = r / 262144 := by omega
          have ho : bits .or .u8 240 (r / 262144) = 240 + r / 262144 := fin_of (p := fun c => c < 8 → bits .or .u8 240 c = 240 + c) or4_fin (c := r / 262144) (by omega) (by omega) (by omega)
          clear hb2
          go_enter Try.func18, Try.ntmps18
          go_wp2_with (first | (go_at_call 29; refine (letter_any _ _).mono ?_; rintro e w' ⟨rfl, rfl⟩) | (go_at_call 30; refine (length_any _ _).mono ?_; rintro e w' ⟨rfl, rfl⟩))
          refine wp_loop_rounds 4 ?_
          rw [rounds_succ]; go_wp2
          rw [rounds_succ]; go_wp2
          rw [rounds_succ]; go_wp2
          rw [rounds_succ]; go_wp2
          go_ret
          exact ⟨_, rfl, own_lit w [240 + r / 262144, 128 + r / 4096 % 64, 128 + r / 64 % 64, 128 + r % 64] (by simp [maxLen]), (Below.refl _ _).alloc (Nat.le_refl _) _⟩
  · have hf : ltB r = false := by simpa using hl
    rw [e0 hf]
    go_enter Try.func18, Try.ntmps18
    go_wp2_with (go_at_call 29; refine (letter_any _ _).mono ?_; rintro e w' ⟨rfl, rfl⟩)
    go_ret
    exact ⟨_, rfl, World.ownsRow_nil _ _ _ _, Below.refl _ _⟩

theorem and63 (x : Int) (h0 : 0 ≤ x) (h1 : x ≤ 1114111) : bits .and .i64 x 63 = x % 64 := by
  obtain ⟨X, rfl⟩ := Int.eq_ofNat_of_zero_le h0
  have := i64_and_nat X 63 (by omega) (by omega)
  rw [show (63 : Nat) = 2 ^ 6 - 1 from rfl, Nat.and_two_pow_sub_one_eq_mod] at this
  have e : (((2 ^ 6 - 1 : Nat) : Nat) : Int) = 63 := by decide
  rw [e] at this
  rw [this]
  omega

theorem or_head (k H : Nat) (x : Int) (h0 : 0 ≤ x) (h1 : x < 2 ^ k) (hk : k ≤ 7) (hH : H < 256) (hm : H % 2 ^ k = 0) : bits .or .i64 (H : Int) x = H + x := by
  obtain ⟨X, rfl⟩ := Int.eq_ofNat_of_zero_le h0
  have hX : X < 2 ^ k := by exact_mod_cast h1
  have h2 : 2 ^ k ≤ 2 ^ 7 := Nat.pow_le_pow_right (by omega) hk
  have := i64_or_nat H X (by omega) (by omega)
  rw [nat_join k _ _ hm hX] at this
  rw [this]
  omega

set_option maxHeartbeats 2000000 in
theorem refenc_any (r : Int) (w : World) :
    Calls Try.prog 20 #[.int .i64 r] w fun e w' => ∃ v, e = .returned v ∧ Own w.heap.size w' v (enc r) ∧ Below w.heap.size w w' := by
  by_cases hl : ltB r = true
  · obtain ⟨hb0, hb1, hb2⟩ := ltB_bd hl
    have a0 : bits .and .i64 r 63 = r % 64 := and63 r hb0 hb1
    have o0 : bits .or .i64 128 (r % 64) = 128 + r % 64 := or_head 6 128 _ (by omega) (by omega) (by omega) (by omega) (by decide)
    by_cases h1 : r < 128
    · rw [e1 hl h1]
      clear hb2
      go_enter Try.func20, Try.ntmps20
      go_wp2
      go_ret
      exact ⟨_, rfl, own_lit w [r] (by simp [maxLen]), (Below.refl _ _).alloc (Nat.le_refl _) _⟩
    · by_cases h2 : r < 2048
      · rw [e2 hl h1 h2]
        clear hb2
        have q0 : bits .or .i64 192 (r / 64) = 192 + r / 64 := or_head 5 192 _ (by omega) (by omega) (by omega) (by omega) (by decide)
        go_enter Try.func20, Try.ntmps20
        go_wp2
        go_ret
        exact ⟨_, rfl, own_lit w [192 + r / 64, 128 + r % 64] (by simp [maxLen]), (Below.refl _ _).alloc (Nat.le_refl _) _⟩
      · have a1 : bits .and .i64 (r / 64) 63 = r / 64 % 64 := and63 _ (by omega) (by omega)
        have o1 : bits .or .i64 128 (r / 64 % 64) = 128 + r / 64 % 64 := or_head 6 128 _ (by omega) (by omega) (by omega) (by omega) (by decide)
        by_cases h3 : r < 65536
        · rw [e3 hl h1 h2 h3]
          have q0 : bits .or .i64 224 (r / 4096) = 224 + r / 4096 := or_head 4 224 _ (by omega) (by omega) (by omega) (by omega) (by decide)
          rcases hb2 with hb2 | hb2
          all_goals
            go_enter Try.func20, Try.ntmps20
            go_wp2
            go_ret
            exact ⟨_, rfl, own_lit w [224 + r / 4096, 128 + r / 64 % 64, 128 + r % 64] (by simp [maxLen]), (Below.refl _ _).alloc (Nat.le_refl _) _⟩
        · rw [e4 hl h1 h2 h3]
          have a2 : bits .and .i64 (r / 4096) 63 = r / 4096 % 64 := and63 _ (by omega) (by omega)
          have o2 : bits .or .i64 128 (r / 4096 % 64) = 128 + r / 4096 % 64 := or_head 6 128 _ (by omega) (by omega) (by omega) (by omega) (by decide)
          have q0 : bits .or .i64 240 (r / 262144) = 240 + r / 262144 := or_head 3 240 _ (by omega) (by omega) (by omega) (by omega) (by decide)
          have hb3 : 57343 < r := by omega
          clear hb2
          go_enter Try.func20, Try.ntmps20
          go_wp2
          go_ret
          exact ⟨_, rfl, own_lit w [240 + r / 262144, 128 + r / 4096 % 64, 128 + r / 64 % 64, 128 + r % 64] (by simp [maxLen]), (Below.refl _ _).alloc (Nat.le_refl _) _⟩
  · have hf : ltB r = false := by simpa using hl
    have hn : r < 0 ∨ 1114111 < r ∨ (55296 ≤ r ∧ r ≤ 57343) := by
      have : ¬ (0 ≤ r ∧ r ≤ 1114111 ∧ (r < 55296 ∨ 57343 < r)) := by simpa [ltB] using hf
      omega
    rw [e0 hf]
    clear hl hf
    rcases hn with hn | hn | ⟨hn, hn'⟩
    all_goals
      go_enter Try.func20, Try.ntmps20
      go_wp2
      go_ret
      exact ⟨_, rfl, World.ownsRow_nil _ _ _ _, Below.refl _ _⟩

def smB (r : Int) : Bool := decide (97 ≤ r ∧ r ≤ 122)
def cpB (r : Int) : Bool := decide (65 ≤ r ∧ r ≤ 90)

theorem small_any (r : Int) (w : World) :
    Calls Try.prog 31 #[.int .i64 r] w fun e w' => e = .returned (.bool (smB r)) ∧ w = w' := by
  by_cases h1 : 97 ≤ r
  · by_cases h2 : r ≤ 122
    · have e : smB r = true := by simp [smB]; omega
      rw [e]
      go_enter Try.func31, Try.ntmps31
      go_wp2
      go_ret
      exact ⟨rfl, rfl⟩
    · have e : smB r = false := by simp [smB]; omega
      rw [e]
      go_enter Try.func31, Try.ntmps31
      go_wp2
      go_ret
      exact ⟨rfl, rfl⟩
  · have e : smB r = false := by simp [smB]; omega
    rw [e]
    go_enter Try.func31, Try.ntmps31
    go_wp2
    go_ret
    exact ⟨rfl, rfl⟩

theorem capital_any (r : Int) (w : World) :
    Calls Try.prog 32 #[.int .i64 r] w fun e w' => e = .returned (.bool (cpB r)) ∧ w = w' := by
  by_cases h1 : 65 ≤ r
  · by_cases h2 : r ≤ 90
    · have e : cpB r = true := by simp [cpB]; omega
      rw [e]
      go_enter Try.func32, Try.ntmps32
      go_wp2
      go_ret
      exact ⟨rfl, rfl⟩
    · have e : cpB r = false := by simp [cpB]; omega
      rw [e]
      go_enter Try.func32, Try.ntmps32
      go_wp2
      go_ret
      exact ⟨rfl, rfl⟩
  · have e : cpB r = false := by simp [cpB]; omega
    rw [e]
    go_enter Try.func32, Try.ntmps32
    go_wp2
    go_ret
    exact ⟨rfl, rfl⟩

def fl (r : Int) : Int := if 97 ≤ r ∧ r ≤ 122 then r - 32 else if 65 ≤ r ∧ r ≤ 90 then r + 32 else r

theorem fl_fl (r : Int) : fl (fl r) = r := by
  unfold fl
  split
  · rw [if_neg (by omega), if_pos (by omega)]; omega
  · split
    · rw [if_pos (by omega)]; omega
    · rfl

theorem fl_bd {r : Int} (h0 : -9223372036854775808 ≤ r) (h1 : r ≤ 9223372036854775807) : -9223372036854775808 ≤ fl r ∧ fl r ≤ 9223372036854775807 := by
  unfold fl
  split
  · omega
  · split <;> omega

theorem flip_any (r : Int) (w : World) :
    Calls Try.prog 23 #[.int .i64 r] w fun e w' => e = .returned (.int .i64 (fl r)) ∧ w = w' := by
  by_cases h1 : 97 ≤ r ∧ r ≤ 122
  · have e : fl r = r - 97 + 65 := by unfold fl; rw [if_pos h1]; omega
    have hs : smB r = true := by simpa [smB] using h1
    rw [e]
    obtain ⟨h1, h2⟩ := h1
    go_enter Try.func23, Try.ntmps23
    go_wp2_with (first | (go_at_call 31; refine (small_any _ _).mono ?_; rintro e w' ⟨rfl, rfl⟩) | (go_at_call 32; refine (capital_any _ _).mono ?_; rintro e w' ⟨rfl, rfl⟩))
    go_ret
    exact ⟨rfl, rfl⟩
  · have hs : smB r = false := by simpa [smB] using h1
    by_cases h2 : 65 ≤ r ∧ r ≤ 90
    · have e : fl r = r - 65 + 97 := by unfold fl; rw [if_neg h1, if_pos h2]; omega
      have hc : cpB r = true := by simpa [cpB] using h2
      rw [e]
      obtain ⟨h2, h3⟩ := h2
      clear h1
      go_enter Try.func23, Try.ntmps23
      go_wp2_with (first | (go_at_call 31; refine (small_any _ _).mono ?_; rintro e w' ⟨rfl, rfl⟩) | (go_at_call 32; refine (capital_any _ _).mono ?_; rintro e w' ⟨rfl, rfl⟩))
      go_ret
      exact ⟨rfl, rfl⟩
    · have e : fl r = r := by unfold fl; rw [if_neg h1, if_neg h2]
      have hc : cpB r = false := by simpa [cpB] using h2
      rw [e]
      clear h1 h2
      go_enter Try.func23, Try.ntmps23
      go_wp2_with (first | (go_at_call 31; refine (small_any _ _).mono ?_; rintro e w' ⟨rfl, rfl⟩) | (go_at_call 32; refine (capital_any _ _).mono ?_; rintro e w' ⟨rfl, rfl⟩))
      go_ret
      exact ⟨rfl, rfl⟩

theorem refflip_any (r : Int) (w : World) :
    Calls Try.prog 24 #[.int .i64 r] w fun e w' => e = .returned (.int .i64 (fl r)) ∧ w = w' := by
  by_cases h1 : 97 ≤ r
  · by_cases h2 : r ≤ 122
    · have e : fl r = r - 32 := by unfold fl; rw [if_pos ⟨h1, h2⟩]
      rw [e]; clear e
      go_enter Try.func24, Try.ntmps24
      go_wp2
      go_ret
      exact ⟨rfl, rfl⟩
    · have e : fl r = r := by unfold fl; rw [if_neg (by omega), if_neg (by omega)]
      have h3 : ¬ r ≤ 90 := by omega
      rw [e]; clear e
      go_enter Try.func24, Try.ntmps24
      go_wp2
      go_ret
      exact ⟨rfl, rfl⟩
  · by_cases h3 : 65 ≤ r
    · by_cases h4 : r ≤ 90
      · have e : fl r = r + 32 := by unfold fl; rw [if_neg (by omega), if_pos ⟨h3, h4⟩]
        rw [e]; clear e
        go_enter Try.func24, Try.ntmps24
        go_wp2
        go_ret
        exact ⟨rfl, rfl⟩
      · have e : fl r = r := by unfold fl; rw [if_neg (by omega), if_neg (by omega)]
        rw [e]; clear e
        go_enter Try.func24, Try.ntmps24
        go_wp2
        go_ret
        exact ⟨rfl, rfl⟩
    · have e : fl r = r := by unfold fl; rw [if_neg (by omega), if_neg (by omega)]
      rw [e]; clear e
      go_enter Try.func24, Try.ntmps24
      go_wp2
      go_ret
      exact ⟨rfl, rfl⟩
end Go.Proofs.Ytfnbkjmoppjegaa.Oct
