/-
  The small functions of utf and of the document's letters.
-/
import Derived.Test.YtfnbkjmoppjegaaR
import Derived.Lib.BitFns
namespace Go.Proofs.Ytfnbkjmoppjegaa.Oct
open Go.RowKit

def tlB (c : Int) : Bool := decide (128 ≤ c ∧ c < 192)
def ltB (r : Int) : Bool := decide (0 ≤ r ∧ r ≤ 1114111 ∧ (r < 55296 ∨ 57343 < r))
def lgI (r : Int) : Int := if r < 128 then 1 else if r < 2048 then 2 else if r < 65536 then 3 else 4

theorem tl_fin : ∀ n : Fin 256, ((n.val : Int) / 64 == 2) = tlB n.val := by decide +kernel
theorem fo_fin : ∀ n : Fin 256, (bits .and .u8 (n.val : Int) 192 == 128) = tlB n.val := by decide +kernel

theorem fin_of {p : Int → Prop} (h : ∀ n : Fin 256, p n.val) {c : Int} (h0 : 0 ≤ c) (h1 : c ≤ 255) : p c := by
  have := h ⟨c.toNat, by omega⟩
  simpa [Int.toNat_of_nonneg h0] using this

theorem tail_any (c : Int) (w : World) (h0 : 0 ≤ c) (h1 : c ≤ 255) :
    Calls Try.prog 35 #[.int .u8 c] w fun e w' => e = .returned (.bool (tlB c)) ∧ w = w' := by
  go_enter Try.func35, Try.ntmps35
  go_wp2
  go_ret
  exact ⟨by rw [← fin_of (p := fun c => (c / 64 == 2) = tlB c) tl_fin h0 h1]; rfl, rfl⟩

theorem follows_any (c : Int) (w : World) (h0 : 0 ≤ c) (h1 : c ≤ 255) :
    Calls Try.prog 36 #[.int .u8 c] w fun e w' => e = .returned (.bool (tlB c)) ∧ w = w' := by
  go_enter Try.func36, Try.ntmps36
  go_wp2
  go_ret
  exact ⟨by rw [← fin_of (p := fun c => (bits .and .u8 c 192 == 128) = tlB c) fo_fin h0 h1]; rfl, rfl⟩

theorem letter_any (r : Int) (w : World) :
    Calls Try.prog 29 #[.int .i64 r] w fun e w' => e = .returned (.bool (ltB r)) ∧ w = w' := by
  by_cases h1 : 0 ≤ r
  · by_cases h2 : r ≤ 1114111
    · by_cases h3 : r < 55296
      · have hv : ltB r = true := by simp [ltB]; omega
        rw [hv]; clear hv
        go_enter Try.func29, Try.ntmps29
        go_wp2
        go_ret
        exact ⟨rfl, rfl⟩
      · by_cases h4 : 57343 < r
        · have hv : ltB r = true := by simp [ltB]; omega
          rw [hv]; clear hv
          go_enter Try.func29, Try.ntmps29
          go_wp2
          go_ret
          exact ⟨rfl, rfl⟩
        · have hv : ltB r = false := by simp [ltB]; omega
          rw [hv]; clear hv
          go_enter Try.func29, Try.ntmps29
          go_wp2
          go_ret
          exact ⟨rfl, rfl⟩
    · have hv : ltB r = false := by simp [ltB]; omega
      rw [hv]; clear hv
      go_enter Try.func29, Try.ntmps29
      go_wp2
      go_ret
      exact ⟨rfl, rfl⟩
  · have hv : ltB r = false := by simp [ltB]; omega
    rw [hv]; clear hv
    go_enter Try.func29, Try.ntmps29
    go_wp2
    go_ret
    exact ⟨rfl, rfl⟩

theorem length_any (r : Int) (w : World) :
    Calls Try.prog 30 #[.int .i64 r] w fun e w' => e = .returned (.int .i64 (lgI r)) ∧ w = w' := by
  by_cases h1 : r < 128
  · have hv : lgI r = 1 := by simp [lgI, h1]
    rw [hv]; clear hv
    go_enter Try.func30, Try.ntmps30
    go_wp2
    go_ret
    exact ⟨rfl, rfl⟩
  · by_cases h2 : r < 2048
    · have hv : lgI r = 2 := by simp [lgI, h1, h2]
      rw [hv]; clear hv
      go_enter Try.func30, Try.ntmps30
      go_wp2
      go_ret
      exact ⟨rfl, rfl⟩
    · by_cases h3 : r < 65536
      · have hv : lgI r = 3 := by simp [lgI, h1, h2, h3]
        rw [hv]; clear hv
        go_enter Try.func30, Try.ntmps30
        go_wp2
        go_ret
        exact ⟨rfl, rfl⟩
      · have hv : lgI r = 4 := by simp [lgI, h1, h2, h3]
        rw [hv]; clear hv
        go_enter Try.func30, Try.ntmps30
        go_wp2
        go_ret
        exact ⟨rfl, rfl⟩

theorem len8_any (c : Int) (w : World) (h0 : 0 ≤ c) (h1 : c ≤ 255) :
    Calls Try.prog 39 #[.int .u8 c] w fun e w' => e = .returned (.int .i64 (Lib.bitLen c.toNat)) ∧ w = w' := by
  go_enter Try.func39, Try.ntmps39
  go_wp2
  go_ret
  refine ⟨?_, rfl⟩
  have e : wrap64 (Lib.len8 c) = (Lib.bitLen c.toNat : Int) := by unfold wrap64; exact Lib.len8_int c h0 h1
  rw [← e]
  simp

theorem lz8_any (c : Int) (w : World) (h0 : 0 ≤ c) (h1 : c ≤ 255) :
    Calls Try.prog 38 #[.int .u8 c] w fun e w' => e = .returned (.int .i64 (8 - (Lib.bitLen c.toNat : Int))) ∧ w = w' := by
  have hb := Lib.bitLen_le8 ⟨c.toNat, by omega⟩
  simp only at hb
  obtain ⟨n, hn⟩ : ∃ n, Lib.bitLen c.toNat = n := ⟨_, rfl⟩
  have hc := len8_any c w h0 h1
  rw [hn] at hc hb ⊢
  clear hn
  go_enter Try.func38, Try.ntmps38
  go_wp2_with (go_at_call 39; refine hc.mono ?_; rintro e w' ⟨rfl, rfl⟩)
  go_ret
  exact ⟨rfl, rfl⟩

/-- How many ones a byte opens with. -/
def onI (c : Int) : Int := 8 - (Lib.bitLen (255 - c).toNat : Int)
/-- How many bytes a letter has that opens with this byte; 0: none does. -/
def anI (c : Int) : Int := if 192 ≤ c then if c < 224 then 2 else if c < 240 then 3 else if c < 248 then 4 else 0 else 0

theorem an_fin : ∀ n : Fin 256, (0 ≤ onI n.val ∧ onI n.val ≤ 8) ∧ ((2 ≤ onI n.val ∧ onI n.val ≤ 4) → anI n.val = onI n.val) ∧ ((onI n.val < 2 ∨ 4 < onI n.val) → anI n.val = 0) := by decide +kernel

theorem ux_fin : ∀ n : Fin 256, bits .xor .u8 255 (n.val : Int) = 255 - (n.val : Int) := by decide +kernel

theorem ann_no (c : Int) (w : World) (h0 : 0 ≤ c) (h1 : c ≤ 255) (hz : anI c = 0) :
    Calls Try.prog 37 #[.int .u8 c] w fun e w' => (∃ s, e = .panicked [{ v := .iface 9 (.string s), recovered := false }]) ∧ w = w' := by
  obtain ⟨⟨h8, h9⟩, h2, -⟩ := fin_of (p := fun c => (0 ≤ onI c ∧ onI c ≤ 8) ∧ ((2 ≤ onI c ∧ onI c ≤ 4) → anI c = onI c) ∧ ((onI c < 2 ∨ 4 < onI c) → anI c = 0)) an_fin h0 h1
  have hl := lz8_any (255 - c) w (by omega) (by omega)
  have e : (8 - (Lib.bitLen (255 - c).toNat : Int)) = onI c := rfl
  rw [e] at hl
  clear e
  obtain ⟨n, hn⟩ : ∃ n, onI c = n := ⟨_, rfl⟩
  rw [hn] at hl h8 h9 h2
  clear hn
  have hx : bits .xor .u8 255 c = 255 - c := fin_of (p := fun c => bits .xor .u8 255 c = 255 - c) ux_fin h0 h1
  have hsg : IntKind.u8.signed = false := rfl
  have hmx : IntKind.u8.max = 255 := rfl
  by_cases ha : n < 2
  · clear h2
    go_enter Try.func37, Try.ntmps37
    go_wp2_with (go_at_call 38; refine hl.mono ?_; rintro e w' ⟨rfl, rfl⟩)
    exact ⟨rfl, ⟨_, rfl⟩, rfl⟩
  · have hb : 4 < n := by
      by_cases hb : 4 < n
      · exact hb
      · have := h2 ⟨by omega, by omega⟩; omega
    clear h2
    go_enter Try.func37, Try.ntmps37
    go_wp2_with (go_at_call 38; refine hl.mono ?_; rintro e w' ⟨rfl, rfl⟩)
    exact ⟨rfl, ⟨_, rfl⟩, rfl⟩

theorem ann_yes (c : Int) (w : World) (h0 : 0 ≤ c) (h1 : c ≤ 255) (hz : anI c ≠ 0) :
    Calls Try.prog 37 #[.int .u8 c] w fun e w' => e = .returned (.int .i64 (anI c)) ∧ w = w' := by
  obtain ⟨⟨h8, h9⟩, h2, h3⟩ := fin_of (p := fun c => (0 ≤ onI c ∧ onI c ≤ 8) ∧ ((2 ≤ onI c ∧ onI c ≤ 4) → anI c = onI c) ∧ ((onI c < 2 ∨ 4 < onI c) → anI c = 0)) an_fin h0 h1
  have hl := lz8_any (255 - c) w (by omega) (by omega)
  have e : (8 - (Lib.bitLen (255 - c).toNat : Int)) = onI c := rfl
  rw [e] at hl
  clear e
  obtain ⟨n, hn⟩ : ∃ n, onI c = n := ⟨_, rfl⟩
  rw [hn] at hl h8 h9 h2 h3
  clear hn
  have hx : bits .xor .u8 255 c = 255 - c := fin_of (p := fun c => bits .xor .u8 255 c = 255 - c) ux_fin h0 h1
  have hsg : IntKind.u8.signed = false := rfl
  have hmx : IntKind.u8.max = 255 := rfl
  have ha : ¬ n < 2 := fun h => hz (h3 (.inl h))
  have hb : ¬ 4 < n := fun h => hz (h3 (.inr h))
  rw [h2 ⟨by omega, by omega⟩]
  clear h2 h3 hz
  go_enter Try.func37, Try.ntmps37
  go_wp2_with (go_at_call 38; refine hl.mono ?_; rintro e w' ⟨rfl, rfl⟩)
  go_ret
  exact ⟨rfl, rfl⟩
end Go.Proofs.Ytfnbkjmoppjegaa.Oct
