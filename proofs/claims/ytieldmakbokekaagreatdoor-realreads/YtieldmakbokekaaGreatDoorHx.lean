/-
  FormatUint at base 16, of numbers of 53 bits.
-/
import Derived.Test.YtieldmakbokekaaGreatDoorSw
namespace Go.Proofs.YtieldmakbokekaaGreatDoor.Oct
open Go.RowKit
open Go.Proofs.YtieldmakbokekaaGreatDoor.Fl

/-- A digit of base 16. -/
def hxd (z : Nat) : Nat := if z < 10 then 48 + z else 87 + z

/-- The table's cell that TrailingZeros64 reads at 16. -/
def Tz (w : World) : Prop := w.cell? ⟨6, 15, none⟩ = some (.int .u8 4)

theorem Tz.below {w w' : World} (h : Tz w) (hb : Below w.heap.size w w') : Tz w' := (hb.cell (p := ⟨6, 15, none⟩) (block_lt_of_cell h)).trans h

theorem tz_any (w : World) (h : Tz w) : Calls Tryz.prog 73 #[.int .u64 16] w fun e w' => e = .returned (.int .i64 4) ∧ w = w' := by
  unfold Tz at h
  have h64 : Calls Tryz.prog 86 #[.int .u64 16] w fun e w' => e = .returned (.int .i64 4) ∧ w = w' := by
    go_enter Tryz.func86, Tryz.ntmps86
    have e1 : IntKind.u64.wrap (-16) = 18446744073709551600 := by decide
    have e2 : bits .and .u64 16 18446744073709551600 = 16 := by decide
    go_wp2
    go_ret
    exact ⟨rfl, rfl⟩
  go_enter Tryz.func73, Tryz.ntmps73
  go_wp2_with fail
  refine h64.mono ?_
  rintro e w' ⟨rfl, rfl⟩
  go_wp2
  go_ret
  exact ⟨rfl, rfl⟩

theorem pow2_any (w : World) : Calls Tryz.prog 72 #[.int .i64 16] w fun e w' => e = .returned (.bool true) ∧ w = w' := by
  go_enter Tryz.func72, Tryz.ntmps72
  go_wp2
  go_ret
  exact ⟨rfl, rfl⟩

theorem and15 (n : Nat) (h : n < 2 ^ 64) : bits .and .u64 (n : Int) 15 = ((n % 16 : Nat) : Int) := by
  have h1 : (BitVec.ofInt 64 (n : Int)).toNat = n := by
    rw [BitVec.ofInt_natCast, BitVec.toNat_ofNat]; exact Nat.mod_eq_of_lt (by omega)
  have h2 : (BitVec.ofInt 64 15).toNat = 2 ^ 4 - 1 := by decide
  show IntKind.u64.wrap ((BitVec.ofInt 64 (n : Int) &&& BitVec.ofInt 64 15).toNat : Int) = _
  rw [BitVec.toNat_and, h1, h2, Nat.and_two_pow_sub_one_eq_mod, IntKind.wrap_u64]
  omega

/-- The digits that strconv has. -/
def dgl : List UInt8 := [48, 49, 50, 51, 52, 53, 54, 55, 56, 57, 97, 98, 99, 100, 101, 102, 103, 104, 105, 106, 107, 108, 109, 110, 111, 112, 113, 114, 115, 116, 117, 118, 119, 120, 121, 122]

theorem index_u (l : List UInt8) (k : Nat) (c : UInt8) (m : List UInt8) (h : l.drop k = c :: m) (W : World) : (Instr.index 9 (.string ⟨l.toArray⟩) (.int .u64 k)).run Tryz.prog W = .ok (.int .u8 (c.toNat : Int)) W := by
  have hk : k < l.length := by
    refine Nat.lt_of_not_le fun hle => ?_
    rw [List.drop_of_length_le hle] at h; cases h
  have hc : l[k] = c := by
    have := List.drop_eq_getElem_cons hk
    rw [h] at this
    exact (List.cons.inj this).1.symm
  rw [run_index_string _ 9 _ .u64 k Tryz.underlying9]
  rw [dif_pos ⟨by omega, by rw [sz_mk]; omega⟩]
  refine congrArg (fun x : Int => Result.ok (Value.int .u8 x) W) ?_
  rw [← hc]
  rfl

theorem dgl_at : ∀ i : Fin 16, (dgl.drop i.val).head? = some (UInt8.ofNat (hxd i.val)) ∧ (UInt8.ofNat (hxd i.val)).toNat = hxd i.val := by decide +kernel

theorem dgts_at (z : Nat) (hz : z < 16) (W : World) : (Instr.index 9 (.string ⟨dgl.toArray⟩) (.int .u64 z)).run Tryz.prog W = .ok (.int .u8 (hxd z : Nat)) W := by
  obtain ⟨h1, h2⟩ := dgl_at ⟨z, hz⟩
  simp only at h1 h2
  cases hd : dgl.drop z with
  | nil => rw [hd] at h1; cases h1
  | cons c m =>
    rw [hd] at h1
    have := index_u dgl z c m hd W
    rw [Option.some.inj h1, h2] at this
    exact this

end Go.Proofs.YtieldmakbokekaaGreatDoor.Oct
