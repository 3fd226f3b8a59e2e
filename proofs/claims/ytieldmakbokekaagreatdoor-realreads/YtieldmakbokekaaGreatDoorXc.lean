/-
  internal/strconv's atof64 at the texts 0x and -0x alone.
-/
import Derived.Test.YtieldmakbokekaaGreatDoorXb
namespace Go.Proofs.YtieldmakbokekaaGreatDoor.Oct
open Go.RowKit
open Go.Proofs.YtieldmakbokekaaGreatDoor.Fl

/-- What the variable optimize holds. -/
def Opt (w : World) : Prop := w.cell? ⟨8, 0, none⟩ = some (.bool true)
theorem Opt.below {w w' : World} (h : Opt w) (k : Below w.heap.size w w') : Opt w' := (k.cell (p := ⟨8, 0, none⟩) (block_lt_of_cell h)).trans h

def t0x : ByteArray := ⟨#[48, 120]⟩
def tm0x : ByteArray := ⟨#[45, 48, 120]⟩

set_option maxHeartbeats 4000000 in
set_option maxRecDepth 100000 in
theorem rf_0x (w : World) : Calls Tryz.prog 104 #[.string t0x] w fun e w' => e = .returned (.tuple #[.int .u64 0, .int .i64 0, .bool false, .bool false, .bool false, .int .i64 1, .bool true]) ∧ w = w' := by
  have hse : ¬ t0x = ByteArray.empty := by decide
  have hs : (t0x.size : Int) = 2 := by decide
  have i0 : ∀ W, (Instr.index 9 (.string t0x) (.int .i64 0)).run Tryz.prog W = .ok (.int .u8 48) W := fun W => idx_str t0x 0 (by decide) W
  have i1 : ∀ W, (Instr.index 9 (.string t0x) (.int .i64 1)).run Tryz.prog W = .ok (.int .u8 120) W := fun W => idx_str t0x 1 (by decide) W
  have lw : bits .or .u8 120 32 = 120 := by decide
  have lw2 : bits .or .u8 48 32 = 48 := by decide
  generalize t0x = s at *
  go_enter Tryz.func104, Tryz.ntmps104
  go_wp2_with fail
  go_step3
  go_wp2_with (go_at_call 119; refine (lower_any _ _).mono ?_; rintro e w' ⟨rfl, rfl⟩)
  go_step3
  go_wp2_with fail
  go_loop [2, 5, 7, 9, 13, 14, 15, 16, 17] (fun x2 x5 x7 x9 x13 x14 x15 x16 x17 => (x2 = .int .u64 0 ∧ x5 = .bool false ∧ x9 = .bool false ∧ x13 = .bool false ∧ x15 = .int .i64 0 ∧ x16 = .int .i64 0) ∧ ((x7 = .int .i64 0 ∧ x14 = .bool false ∧ x17 = .int .i64 0) ∨ (x7 = .int .i64 1 ∧ x14 = .bool true ∧ x17 = .int .i64 (-1)))) (fun _ _ x7 _ _ _ _ _ _ => 2 - (intOf x7).toNat)
  case atStart => exact ⟨⟨rfl, rfl, rfl, rfl, rfl, rfl⟩, .inl ⟨rfl, rfl, rfl⟩⟩
  case round =>
    obtain ⟨⟨rfl, rfl, rfl, rfl, rfl, rfl⟩, ⟨rfl, rfl, rfl⟩ | ⟨rfl, rfl, rfl⟩⟩ := hrel
    · go_wp2_with (go_at_call 119; refine (lower_any _ _).mono ?_; rintro e w' ⟨rfl, rfl⟩)
      exact ⟨⟨⟨rfl, rfl, rfl, rfl, rfl, rfl⟩, .inr ⟨rfl, rfl, rfl⟩⟩, by decide⟩
    · go_wp2_with (go_at_call 119; refine (lower_any _ _).mono ?_; rintro e w' ⟨rfl, rfl⟩)
      try simp (config := {zetaDelta := true}) only [Exit.noGoto_ret]
      refine bodyPost_ret (results_tmp7 rfl _ _ _) rfl ⟨?_, rfl⟩
      rfl

set_option maxHeartbeats 4000000 in
set_option maxRecDepth 100000 in
theorem rf_m0x (w : World) : Calls Tryz.prog 104 #[.string tm0x] w fun e w' => e = .returned (.tuple #[.int .u64 0, .int .i64 0, .bool true, .bool false, .bool false, .int .i64 2, .bool true]) ∧ w = w' := by
  have hse : ¬ tm0x = ByteArray.empty := by decide
  have hs : (tm0x.size : Int) = 3 := by decide
  have iz : ∀ W, (Instr.index 9 (.string tm0x) (.int .i64 0)).run Tryz.prog W = .ok (.int .u8 45) W := fun W => idx_str tm0x 0 (by decide) W
  have i0 : ∀ W, (Instr.index 9 (.string tm0x) (.int .i64 1)).run Tryz.prog W = .ok (.int .u8 48) W := fun W => idx_str tm0x 1 (by decide) W
  have i1 : ∀ W, (Instr.index 9 (.string tm0x) (.int .i64 2)).run Tryz.prog W = .ok (.int .u8 120) W := fun W => idx_str tm0x 2 (by decide) W
  have lw : bits .or .u8 120 32 = 120 := by decide
  have lw2 : bits .or .u8 48 32 = 48 := by decide
  generalize tm0x = s at *
  go_enter Tryz.func104, Tryz.ntmps104
  go_wp2_with fail
  go_step3
  go_wp2_with (go_at_call 119; refine (lower_any _ _).mono ?_; rintro e w' ⟨rfl, rfl⟩)
  go_step3
  go_wp2_with fail
  go_loop [2, 5, 7, 9, 13, 14, 15, 16, 17] (fun x2 x5 x7 x9 x13 x14 x15 x16 x17 => (x2 = .int .u64 0 ∧ x5 = .bool false ∧ x9 = .bool false ∧ x13 = .bool false ∧ x15 = .int .i64 0 ∧ x16 = .int .i64 0) ∧ ((x7 = .int .i64 1 ∧ x14 = .bool false ∧ x17 = .int .i64 0) ∨ (x7 = .int .i64 2 ∧ x14 = .bool true ∧ x17 = .int .i64 (-1)))) (fun _ _ x7 _ _ _ _ _ _ => 3 - (intOf x7).toNat)
  case atStart => exact ⟨⟨rfl, rfl, rfl, rfl, rfl, rfl⟩, .inl ⟨rfl, rfl, rfl⟩⟩
  case round =>
    obtain ⟨⟨rfl, rfl, rfl, rfl, rfl, rfl⟩, ⟨rfl, rfl, rfl⟩ | ⟨rfl, rfl, rfl⟩⟩ := hrel
    · go_wp2_with (go_at_call 119; refine (lower_any _ _).mono ?_; rintro e w' ⟨rfl, rfl⟩)
      exact ⟨⟨⟨rfl, rfl, rfl, rfl, rfl, rfl⟩, .inr ⟨rfl, rfl, rfl⟩⟩, by decide⟩
    · go_wp2_with (go_at_call 119; refine (lower_any _ _).mono ?_; rintro e w' ⟨rfl, rfl⟩)
      try simp (config := {zetaDelta := true}) only [Exit.noGoto_ret]
      refine bodyPost_ret (results_tmp7 rfl _ _ _) rfl ⟨?_, rfl⟩
      rfl

theorem sl_one (s t : ByteArray) (ht : s.data.toList = 45 :: t.data.toList) (hm : (s.size : Int) ≤ 140737488355328) (W : World) : (Instr.slice 9 (.string s) (some (.int .i64 1)) none none).run Tryz.prog W = .ok (.string t) W := by
  have hst : s.size = t.size + 1 := by
    have := congrArg List.length ht
    simpa using this
  have hex : s.extract 1 s.size = t := by
    refine ba_eq ?_
    have hd : s.data = (45 :: t.data.toList).toArray := by rw [← ht]
    simp [ByteArray.data_extract, hd]
    exact List.take_of_length_le (by have : t.data.toList.length = t.size := Array.length_toList
                                     omega)
  rw [run_slice_string_l W 9 s Tryz.underlying9 .i64 1 (by omega) (by omega)]
  rw [show (1 : Int).toNat = 1 from rfl, hex]

set_option maxHeartbeats 4000000 in
set_option maxRecDepth 100000 in
theorem at_0x (w : World) (hO : Opt w) : Calls Tryz.prog 95 #[.string t0x] w fun e w' => RetA t0x e ∧ Below w.heap.size w w' := by
  have c1 := special_0 t0x w (by decide) (by decide) (fun W => idx_str t0x 0 (by decide) W)
  have c2 := rf_0x w
  have hf := fun n W => run_f64frm n W
  unfold Opt at hO
  have hs : (1 : Nat) ≤ t0x.size := by decide
  generalize t0x = s at *
  have HS : Hid (1 ≤ s.size) := hs
  clear hs
  go_enter Tryz.func95, Tryz.ntmps95
  go_wp2_with fail
  refine c1.mono ?_
  clear c1
  rintro e w1 ⟨rfl, rfl⟩
  go_wp2_with fail
  refine c2.mono ?_
  clear c2
  rintro e w1 ⟨rfl, rfl⟩
  go_wp2
  refine bodyPost_ret (results_tmp3 rfl _ _ _) rfl ⟨?_, Below.refl _ _⟩
  exact ⟨0, 1, _, rfl, by decide, HS.out, .inl rfl⟩

set_option maxHeartbeats 4000000 in
set_option maxRecDepth 100000 in
theorem at_m0x (w : World) (hO : Opt w) : Calls Tryz.prog 95 #[.string tm0x] w fun e w' => RetA tm0x e ∧ Below w.heap.size w w' := by
  have c1 := special_m tm0x t0x w (by decide) (by decide) (by decide) (fun W => idx_str tm0x 0 (by decide) W) (sl_one tm0x t0x rfl (by decide)) (by decide) (by decide) (fun W => idx_str t0x 0 (by decide) W)
  have c2 := rf_m0x w
  have hf := fun n W => run_f64frm n W
  unfold Opt at hO
  have hs : (2 : Nat) ≤ tm0x.size := by decide
  generalize tm0x = s at *
  have HS : Hid (2 ≤ s.size) := hs
  clear hs
  go_enter Tryz.func95, Tryz.ntmps95
  go_wp2_with fail
  refine c1.mono ?_
  clear c1
  rintro e w1 ⟨rfl, rfl⟩
  go_wp2_with fail
  refine c2.mono ?_
  clear c2
  rintro e w1 ⟨rfl, rfl⟩
  go_wp2
  refine bodyPost_ret (results_tmp3 rfl _ _ _) rfl ⟨?_, Below.refl _ _⟩
  exact ⟨9223372036854775808, 2, _, rfl, by decide, HS.out, .inl rfl⟩
end Go.Proofs.YtieldmakbokekaaGreatDoor.Oct
