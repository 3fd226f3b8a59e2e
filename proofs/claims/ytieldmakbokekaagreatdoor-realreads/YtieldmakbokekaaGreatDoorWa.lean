/-
  internal/strconv's underscoreOK, at texts that begin with 0x or -0x: it returns.
-/
import Derived.Test.YtieldmakbokekaaGreatDoorXh
namespace Go.Proofs.YtieldmakbokekaaGreatDoor.Oct
open Go.RowKit
open Go.Proofs.YtieldmakbokekaaGreatDoor.Fl

/-- Byte k of a text. -/
def byt (s : ByteArray) (k : Nat) : Int := ((s.data.toList.getD k 0).toNat : Int)
theorem byt_bd (s : ByteArray) (k : Nat) : 0 ≤ byt s k ∧ byt s k ≤ 255 := by
  have := (s.data.toList.getD k 0).toNat_lt
  unfold byt
  omega
theorem idx_byt (s : ByteArray) (k : Nat) (hk : k < s.size) (W : World) : (Instr.index 9 (.string s) (.int .i64 (k : Int))).run Tryz.prog W = .ok (.int .u8 (byt s k)) W := idx_str s k hk W

/-- A bool is returned. -/
def RetB (e : Ending) : Prop := ∃ b, e = .returned (.bool b)

set_option maxHeartbeats 4000000 in
set_option maxRecDepth 100000 in
theorem us_pos (s : ByteArray) (w : World) (hs : (2 : Int) ≤ (s.size : Int)) (hm : (s.size : Int) ≤ 4611686018427387904) (_hse : ¬ s = ByteArray.empty)
    (i0 : ∀ W, (Instr.index 9 (.string s) (.int .i64 0)).run Tryz.prog W = .ok (.int .u8 48) W)
    (i1 : ∀ W, (Instr.index 9 (.string s) (.int .i64 1)).run Tryz.prog W = .ok (.int .u8 120) W) :
    Calls Tryz.prog 120 #[.string s] w fun e w' => RetB e ∧ w = w' := by
  have l1 : bits .or .u8 120 32 = 120 := by decide
  go_enter Tryz.func120, Tryz.ntmps120
  go_wp2_with (go_at_call 119; refine (lower_any _ _).mono ?_; rintro e w' ⟨rfl, rfl⟩)
  go_loop [3, 4] (fun sw i => ∃ (v : Int) (k : Nat), sw = .int .i32 v ∧ i = .int .i64 k ∧ k ≤ s.size) (fun _ i => s.size - (intOf i).toNat)
  case atStart => exact ⟨_, 2, rfl, rfl, by omega⟩
  case round =>
    obtain ⟨v, k, rfl, rfl, hk⟩ := hrel
    clear i0 i1 l1
    by_cases hlt : k < s.size
    · have ik := idx_byt s k hlt
      have hbd := byt_bd s k
      have hlt' : (k : Int) < (s.size : Int) := by omega
      obtain ⟨c, hc⟩ : ∃ c, byt s k = c := ⟨_, rfl⟩
      rw [hc] at ik hbd
      clear hc
      obtain ⟨l, hl⟩ : ∃ l, bits .or .u8 c 32 = l := ⟨_, rfl⟩
      have next : ∀ u : Int, (∃ (v' : Int) (k' : Nat), Value.int .i32 u = .int .i32 v' ∧ Value.int .i64 ((k : Int) + 1) = .int .i64 k' ∧ k' ≤ s.size) ∧ s.size - (intOf (.int .i64 ((k : Int) + 1))).toNat < s.size - (intOf (.int .i64 (k : Int))).toNat := fun u => ⟨⟨u, k + 1, rfl, rfl, by omega⟩, by simp [intOf]; omega⟩
      by_cases hd : 48 ≤ c ∧ c ≤ 57
      · obtain ⟨hd1, hd2⟩ := hd
        go_wp2_with (go_at_call 119; refine (lower_any _ _).mono ?_; rintro e w' ⟨rfl, rfl⟩)
        exact next _
      · have hd' : decide (48 ≤ c) = false ∨ (48 ≤ c ∧ decide (c ≤ 57) = false) := by
          by_cases h1 : 48 ≤ c
          · exact .inr ⟨h1, decide_eq_false (fun h => hd ⟨h1, h⟩)⟩
          · exact .inl (decide_eq_false h1)
        clear hd
        have hl' : (97 ≤ l ∧ l ≤ 102) ∨ decide (97 ≤ l) = false ∨ (97 ≤ l ∧ decide (l ≤ 102) = false) := by
          by_cases h1 : 97 ≤ l
          · by_cases h2 : l ≤ 102
            · exact .inl ⟨h1, h2⟩
            · exact .inr (.inr ⟨h1, decide_eq_false h2⟩)
          · exact .inr (.inl (decide_eq_false h1))
        cases h95 : (c == 95) <;> cases hv48 : (v != 48) <;> cases hv95 : (v == 95) <;> rcases hd' with hd1 | ⟨hd1, hd2⟩ <;> rcases hl' with ⟨hl1, hl2⟩ | hl1 | ⟨hl1, hl2⟩
        all_goals
          go_wp2_with (go_at_call 119; refine (lower_any _ _).mono ?_; rw [hl]; rintro e w' ⟨rfl, rfl⟩)
          first
            | exact next _
            | (go_ret; exact ⟨⟨_, rfl⟩, rfl⟩)
    · have hks : k = s.size := by omega
      subst hks
      cases hv95 : (v != 95)
      all_goals
        go_wp2
        go_ret
        exact ⟨⟨_, rfl⟩, rfl⟩
set_option maxHeartbeats 4000000 in
set_option maxRecDepth 100000 in
theorem us_neg (z s : ByteArray) (w : World) (hs : (2 : Int) ≤ (s.size : Int)) (hm : (s.size : Int) ≤ 4611686018427387904) (hzs : (z.size : Int) = (s.size : Int) + 1) (_hse : ¬ s = ByteArray.empty) (_hze : ¬ z = ByteArray.empty)
    (iz : ∀ W, (Instr.index 9 (.string z) (.int .i64 0)).run Tryz.prog W = .ok (.int .u8 45) W)
    (isl : ∀ W, (Instr.slice 9 (.string z) (some (.int .i64 1)) none none).run Tryz.prog W = .ok (.string s) W)
    (i0 : ∀ W, (Instr.index 9 (.string s) (.int .i64 0)).run Tryz.prog W = .ok (.int .u8 48) W)
    (i1 : ∀ W, (Instr.index 9 (.string s) (.int .i64 1)).run Tryz.prog W = .ok (.int .u8 120) W) :
    Calls Tryz.prog 120 #[.string z] w fun e w' => RetB e ∧ w = w' := by
  have l1 : bits .or .u8 120 32 = 120 := by decide
  go_enter Tryz.func120, Tryz.ntmps120
  go_wp2_with (go_at_call 119; refine (lower_any _ _).mono ?_; rintro e w' ⟨rfl, rfl⟩)
  go_loop [3, 4] (fun sw i => ∃ (v : Int) (k : Nat), sw = .int .i32 v ∧ i = .int .i64 k ∧ k ≤ s.size) (fun _ i => s.size - (intOf i).toNat)
  case atStart => exact ⟨_, 2, rfl, rfl, by omega⟩
  case round =>
    obtain ⟨v, k, rfl, rfl, hk⟩ := hrel
    clear i0 i1 l1 iz isl
    by_cases hlt : k < s.size
    · have ik := idx_byt s k hlt
      have hbd := byt_bd s k
      have hlt' : (k : Int) < (s.size : Int) := by omega
      obtain ⟨c, hc⟩ : ∃ c, byt s k = c := ⟨_, rfl⟩
      rw [hc] at ik hbd
      clear hc
      obtain ⟨l, hl⟩ : ∃ l, bits .or .u8 c 32 = l := ⟨_, rfl⟩
      have next : ∀ u : Int, (∃ (v' : Int) (k' : Nat), Value.int .i32 u = .int .i32 v' ∧ Value.int .i64 ((k : Int) + 1) = .int .i64 k' ∧ k' ≤ s.size) ∧ s.size - (intOf (.int .i64 ((k : Int) + 1))).toNat < s.size - (intOf (.int .i64 (k : Int))).toNat := fun u => ⟨⟨u, k + 1, rfl, rfl, by omega⟩, by simp [intOf]; omega⟩
      by_cases hd : 48 ≤ c ∧ c ≤ 57
      · obtain ⟨hd1, hd2⟩ := hd
        go_wp2_with (go_at_call 119; refine (lower_any _ _).mono ?_; rintro e w' ⟨rfl, rfl⟩)
        exact next _
      · have hd' : decide (48 ≤ c) = false ∨ (48 ≤ c ∧ decide (c ≤ 57) = false) := by
          by_cases h1 : 48 ≤ c
          · exact .inr ⟨h1, decide_eq_false (fun h => hd ⟨h1, h⟩)⟩
          · exact .inl (decide_eq_false h1)
        clear hd
        have hl' : (97 ≤ l ∧ l ≤ 102) ∨ decide (97 ≤ l) = false ∨ (97 ≤ l ∧ decide (l ≤ 102) = false) := by
          by_cases h1 : 97 ≤ l
          · by_cases h2 : l ≤ 102
            · exact .inl ⟨h1, h2⟩
            · exact .inr (.inr ⟨h1, decide_eq_false h2⟩)
          · exact .inr (.inl (decide_eq_false h1))
        cases h95 : (c == 95) <;> cases hv48 : (v != 48) <;> cases hv95 : (v == 95) <;> rcases hd' with hd1 | ⟨hd1, hd2⟩ <;> rcases hl' with ⟨hl1, hl2⟩ | hl1 | ⟨hl1, hl2⟩
        all_goals
          go_wp2_with (go_at_call 119; refine (lower_any _ _).mono ?_; rw [hl]; rintro e w' ⟨rfl, rfl⟩)
          first
            | exact next _
            | (go_ret; exact ⟨⟨_, rfl⟩, rfl⟩)
    · have hks : k = s.size := by omega
      subst hks
      cases hv95 : (v != 95)
      all_goals
        go_wp2
        go_ret
        exact ⟨⟨_, rfl⟩, rfl⟩
end Go.Proofs.YtieldmakbokekaaGreatDoor.Oct
