/-
  FormatUint at base 16, of numbers of 53 bits.
-/
import Derived.Test.YtieldmakbokekaaGreatDoorSw
import Derived.Laws.BytesString
import Derived.Test.YtieldmakbokekaaGreatDoorCm
namespace Go.Proofs.YtieldmakbokekaaGreatDoor.Oct
open Go.RowKit
open Go.Proofs.YtieldmakbokekaaGreatDoor.Fl

/-- A digit of base 16. -/
def hxd (z : Nat) : Nat := if z < 10 then 48 + z else 87 + z

/-- The table's cell that TrailingZeros64 reads at 16. -/
def Tz (w : World) : Prop := w.cell? ⟨6, 15, none⟩ = some (.int .u8 4)

theorem Tz.below {w w' : World} (h : Tz w) (hb : Below w.heap.size w w') : Tz w' := (hb.cell (p := ⟨6, 15, none⟩) (block_lt_of_cell h)).trans h

theorem tz_any (w : World) (h : Tz w) : Calls Tryz.prog 73 #[.int .u64 16] w fun e w' => e = .returned (.int .i64 4) ∧ w = w' := by
  unfold Tz at h
  have h64 : Calls Tryz.prog 86 #[.int .u64 16] w fun e w' => e = .returned (.int .i64 4) ∧ w = w' := by
    go_enter Tryz.func86, Tryz.ntmps86
    have e1 : IntKind.u64.wrap (-16) = 18446744073709551600 := by decide
    have e2 : bits .and .u64 16 18446744073709551600 = 16 := by decide
    go_wp2
    go_ret
    exact ⟨rfl, rfl⟩
  go_enter Tryz.func73, Tryz.ntmps73
  go_wp2_with fail
  refine h64.mono ?_
  rintro e w' ⟨rfl, rfl⟩
  go_wp2
  go_ret
  exact ⟨rfl, rfl⟩

theorem pow2_any (w : World) : Calls Tryz.prog 72 #[.int .i64 16] w fun e w' => e = .returned (.bool true) ∧ w = w' := by
  go_enter Tryz.func72, Tryz.ntmps72
  go_wp2
  go_ret
  exact ⟨rfl, rfl⟩

theorem and15 (n : Nat) (h : n < 2 ^ 64) : bits .and .u64 (n : Int) 15 = ((n % 16 : Nat) : Int) := by
  have h1 : (BitVec.ofInt 64 (n : Int)).toNat = n := by
    rw [BitVec.ofInt_natCast, BitVec.toNat_ofNat]; exact Nat.mod_eq_of_lt (by omega)
  have h2 : (BitVec.ofInt 64 15).toNat = 2 ^ 4 - 1 := by decide
  show IntKind.u64.wrap ((BitVec.ofInt 64 (n : Int) &&& BitVec.ofInt 64 15).toNat : Int) = _
  rw [BitVec.toNat_and, h1, h2, Nat.and_two_pow_sub_one_eq_mod, IntKind.wrap_u64]
  omega

/-- The digits that strconv has. -/
def dgl : List UInt8 := [48, 49, 50, 51, 52, 53, 54, 55, 56, 57, 97, 98, 99, 100, 101, 102, 103, 104, 105, 106, 107, 108, 109, 110, 111, 112, 113, 114, 115, 116, 117, 118, 119, 120, 121, 122]

theorem index_u (l : List UInt8) (k : Nat) (c : UInt8) (m : List UInt8) (h : l.drop k = c :: m) (W : World) : (Instr.index 9 (.string ⟨l.toArray⟩) (.int .u64 k)).run Tryz.prog W = .ok (.int .u8 (c.toNat : Int)) W := by
  have hk : k < l.length := by
    refine Nat.lt_of_not_le fun hle => ?_
    rw [List.drop_of_length_le hle] at h; cases h
  have hc : l[k] = c := by
    have := List.drop_eq_getElem_cons hk
    rw [h] at this
    exact (List.cons.inj this).1.symm
  rw [run_index_string _ 9 _ .u64 k Tryz.underlying9]
  rw [dif_pos ⟨by omega, by rw [sz_mk]; omega⟩]
  refine congrArg (fun x : Int => Result.ok (Value.int .u8 x) W) ?_
  rw [← hc]
  rfl

theorem dgl_at : ∀ i : Fin 16, (dgl.drop i.val).head? = some (UInt8.ofNat (hxd i.val)) ∧ (UInt8.ofNat (hxd i.val)).toNat = hxd i.val := by decide +kernel

theorem dgts_at (z : Nat) (hz : z < 16) (W : World) : (Instr.index 9 (.string ⟨dgl.toArray⟩) (.int .u64 z)).run Tryz.prog W = .ok (.int .u8 (hxd z : Nat)) W := by
  obtain ⟨h1, h2⟩ := dgl_at ⟨z, hz⟩
  simp only at h1 h2
  cases hd : dgl.drop z with
  | nil => rw [hd] at h1; cases h1
  | cons c m =>
    rw [hd] at h1
    have := index_u dgl z c m hd W
    rw [Option.some.inj h1, h2] at this
    exact this

end Go.Proofs.YtieldmakbokekaaGreatDoor.Oct

/-
  FormatUint at base 16, of numbers of 53 bits: the loop.
-/
namespace Go.Proofs.YtieldmakbokekaaGreatDoor.Oct
open Go.RowKit
open Go.Proofs.YtieldmakbokekaaGreatDoor.Fl

/-- The row of bytes in which the last k digits of u stand. -/
structure Arr (u : Nat) (w : World) (g k : Nat) : Prop where
  all : ∀ i, i < 65 → ∃ v : Int, w.cell? ⟨g, i, none⟩ = some (.int .u8 v)
  free : ∀ i, w.frozen? ⟨g, i, none⟩ = false
  last : ∀ t, t < k → w.cell? ⟨g, 64 - t, none⟩ = some (.int .u8 (hxd (u / 16 ^ t % 16) : Nat))

theorem Arr.put {u : Nat} {w : World} {g k : Nat} (h : Arr u w g k) (hk : k < 65) : Arr u (w.setCell ⟨g, 64 - k, none⟩ (.int .u8 (hxd (u / 16 ^ k % 16) : Nat))) g (k + 1) := by
  obtain ⟨v0, hv0⟩ := h.all (64 - k) (by omega)
  refine ⟨fun i hi => ?_, fun i => (World.frozen?_setCell _ _ _ _).trans (h.free i), fun t ht => ?_⟩
  · by_cases he : i = 64 - k
    · subst he; exact ⟨_, World.cell?_setCell_same _ _ _ hv0⟩
    · obtain ⟨v, hv⟩ := h.all i hi
      exact ⟨v, (World.cell?_setCell_other _ _ _ _ (fun h => he (by cases h; rfl))).trans hv⟩
  · by_cases he : t = k
    · subst he; exact World.cell?_setCell_same _ _ _ hv0
    · exact (World.cell?_setCell_other _ _ _ _ (fun h2 => by have h3 : 64 - k = 64 - t := congrArg Addr.off h2; omega)).trans (h.last t (by omega))

/-- The fourteen digits. -/
def hx14 (u : Nat) : List UInt8 := (List.range 14).map fun t => UInt8.ofNat (hxd (u / 16 ^ (13 - t) % 16))

theorem fold_push : ∀ (ns : List Int) (b : ByteArray), (ns.foldl (fun r n => r.push (UInt8.ofNat n.toNat)) b).data.toList = b.data.toList ++ ns.map fun n => UInt8.ofNat n.toNat
  | [], b => by simp
  | n :: ns, b => by
    rw [List.foldl_cons, fold_push ns]
    simp [ByteArray.push]

theorem arr_str {u : Nat} {w : World} {g : Nat} (h : Arr u w g 14) : (convert 44 9 (.slice (some ⟨g, 51, none⟩) 14 14)).run Tryz.prog w = .ok (.string ⟨(hx14 u).toArray⟩) w := by
  rw [run_convert_bytes_string _ 44 9 5 _ _ _ Tryz.underlying44 Tryz.underlying5 Tryz.underlying9]
  refine (run_bytesToString _ _ _ _ ((List.range 14).map fun t => ((hxd (u / 16 ^ (13 - t) % 16) : Nat) : Int)) ?_).trans ?_
  · refine run_loadCells_list (P := Tryz.prog) w ⟨g, 51, none⟩ (((List.range 14).map fun t => ((hxd (u / 16 ^ (13 - t) % 16) : Nat) : Int)).map (Value.int .u8)) (fun j v hj => ?_)
    rw [List.getElem?_map, List.getElem?_map] at hj
    by_cases hlt : j < 14
    · rw [List.getElem?_range hlt] at hj
      simp at hj
      have := h.last (13 - j) (by omega)
      rw [show (⟨g, 51, none⟩ : Addr).add j = ⟨g, 51 + j, none⟩ by simp [Addr.add], show 51 + j = 64 - (13 - j) by omega, this, ← hj]
    · rw [List.getElem?_eq_none (by simp; omega)] at hj
      simp at hj
  · rw [show (((List.range 14).map fun t => ((hxd (u / 16 ^ (13 - t) % 16) : Nat) : Int)).foldl (fun r n => r.push (UInt8.ofNat n.toNat)) ByteArray.empty) = ⟨(hx14 u).toArray⟩ from ba_eq (by rw [fold_push, List.map_map]; rfl)]

theorem zc65 : Tryz.zeroCells81 = Array.replicate 65 (.int .u8 0) := by kernel_rfl

theorem arr_new (u : Nat) (w : World) : Arr u (w.alloc (.cells Tryz.zeroCells81 81)) w.heap.size 0 := by
  refine ⟨fun i hi => ⟨0, ?_⟩, fun i => by simp [go_sem], fun t ht => absurd ht (Nat.not_lt_zero _)⟩
  rw [World.cell?_alloc_at _ _ _ _ rfl, zc65]
  simp [hi]

set_option maxHeartbeats 4000000 in
theorem fb16 (u : Nat) (w : World) (h0 : 4503599627370496 ≤ u) (h1 : u < 9007199254740992) (ht : Tz w) :
    Calls Tryz.prog 57 #[.slice none 0 0, .int .u64 u, .int .i64 16, .bool false, .bool false] w fun e w' => e = .returned (.tuple #[.slice none 0 0, .string ⟨(hx14 u).toArray⟩]) ∧ Below w.heap.size w w' := by
  have HT : Hid (Tz w) := ht
  clear ht
  go_enter Tryz.func57, Tryz.ntmps57
  go_wp2_with fail
  refine (pow2_any _).mono ?_
  rintro e w' ⟨rfl, rfl⟩
  go_wp2_with fail
  refine (tz_any _ ?_).mono ?_
  · exact HT.out.below ((Below.refl w.heap.size w).alloc (Nat.le_refl _) _)
  rintro e w' ⟨rfl, rfl⟩
  go_wp2
  have HA0 : Hid (Arr u (w.alloc (.cells Tryz.zeroCells81 81)) w.heap.size 0) := arr_new u w
  have HB0 : Hid (Below w.heap.size w (w.alloc (.cells Tryz.zeroCells81 81))) := (Below.refl w.heap.size w).alloc (Nat.le_refl _) _
  generalize w.alloc (.cells Tryz.zeroCells81 81) = wa at HA0 HB0 ⊢
  have HU : Hid (4503599627370496 ≤ u ∧ u < 9007199254740992) := ⟨h0, h1⟩
  obtain ⟨g, hg⟩ : ∃ g, w.heap.size = g := ⟨_, rfl⟩
  rw [hg] at HA0 ⊢
  have HG : Hid (w.heap.size = g) := hg
  clear hg h0 h1
  go_loopw [1, 13] (fun x i wr => ∃ (k v j : Nat), k ≤ 13 ∧ x = .int .u64 (v : Int) ∧ i = .int .i64 (j : Int) ∧ j + k = 65 ∧ Hid (v = u / 16 ^ k) ∧ v < 9007199254740992 ∧ Hid (Arr u wr g k) ∧ Hid (Below w.heap.size w wr)) (fun _ i _ => (intOf i).toNat)
  case atStart => exact ⟨0, u, 65, by omega, rfl, rfl, rfl, (by unfold Hid; simp), HU.out.2, HA0.out, HB0.out⟩
  case round =>
    obtain ⟨k, v, j, hk, rfl, rfl, hjk, HV, hvb, HA, HB⟩ := hrel
    obtain ⟨j, rfl⟩ : ∃ i, j = i + 1 := ⟨j - 1, by omega⟩
    have hw1 : IntKind.i64.wrap (((j + 1 : Nat) : Int) - 1) = (j : Int) := by rw [IntKind.wrap_i64]; omega
    have hw2 : wrap64 (((j + 1 : Nat) : Int) - 1) = (j : Int) := by unfold wrap64; omega
    have hw3 : ((j + 1 : Nat) : Int) - 1 = (j : Int) := by omega
    obtain ⟨v0, hv0⟩ := HA.out.all j (by omega)
    have hfr := HA.out.free j
    have hj65 : (j : Int) < 65 := by omega
    by_cases h16 : 16 ≤ v
    · have h16' : (16 : Int) ≤ (v : Int) := by omega
      have hand := and15 v (by omega)
      have hdg := dgts_at (v % 16) (Nat.mod_lt _ (by omega))
      unfold dgl at hdg
      have HZ : Hid (v % 16 = u / 16 ^ k % 16) := by unfold Hid; rw [HV.out]
      have HJ : Hid (j = 64 - k) := by unfold Hid; omega
      have HAn : Hid (Arr u (wr.setCell ⟨g, j, none⟩ (.int .u8 (hxd (v % 16) : Nat))) g (k + 1)) := by
        have := HA.out.put (by omega)
        rw [← HJ.out, ← HZ.out] at this
        exact this
      have hz16 : v % 16 < 16 := Nat.mod_lt _ (by omega)
      generalize hxd (v % 16) = hz at *
      generalize v % 16 = z at *
      go_wp2
      go_roundw
      case rel =>
        have hu := HU.out
        have hv := HV.out
        have hk13 : k ≠ 13 := by
          rintro rfl
          have : u / 16 ^ 13 < 2 := Nat.div_lt_of_lt_mul (by simpa using hu.2)
          omega
        refine ⟨k + 1, v / 16, j, by omega, congrArg (fun x : Int => Value.int .u64 x) (by omega), rfl, by omega, ?_, by omega, HAn.out, HB.out.setCell (p := ⟨g, j, none⟩) (by rw [HG.out]; exact Nat.le_refl _) _⟩
        unfold Hid
        rw [hv, Nat.div_div_eq_div_mul, Nat.pow_succ]
      case measure => simp [intOf]
    · have hk13 : k = 13 := by
        refine Nat.le_antisymm hk (Nat.le_of_not_lt fun hlt => h16 ?_)
        rw [HV.out]
        have hu := HU.out
        refine (Nat.le_div_iff_mul_le (Nat.pow_pos (by omega))).2 ?_
        have : 16 * 16 ^ k ≤ 16 ^ 13 := by
          rw [Nat.mul_comm, ← Nat.pow_succ]; exact Nat.pow_le_pow_right (by omega) (by omega)
        have e : (16 ^ 13 : Nat) = 4503599627370496 := by decide
        omega
      subst hk13
      obtain rfl : j = 51 := by omega
      have hdg := dgts_at v (by omega)
      unfold dgl at hdg
      have HZ : Hid (v = u / 16 ^ 13 % 16) := by
        unfold Hid; rw [← HV.out]; omega
      have HAn : Hid (Arr u (wr.setCell ⟨g, 51, none⟩ (.int .u8 (hxd v : Nat))) g 14) := by
        have := HA.out.put (by omega)
        rw [← HZ.out] at this
        exact this
      have hcv : (convert 44 9 (.slice (some ⟨g, 51, none⟩) 14 14)).run Tryz.prog (wr.setCell ⟨g, 51, none⟩ (.int .u8 (hxd v : Nat))) = .ok (.string ⟨(hx14 u).toArray⟩) (wr.setCell ⟨g, 51, none⟩ (.int .u8 (hxd v : Nat))) := arr_str HAn.out
      have hv16 : ¬ (16 : Int) ≤ (v : Int) := by omega
      generalize hxd v = hz at *
      go_wp2
      go_ret2
      exact ⟨rfl, HB.out.setCell (p := ⟨g, 51, none⟩) (by rw [HG.out]; exact Nat.le_refl _) _⟩

end Go.Proofs.YtieldmakbokekaaGreatDoor.Oct

/-
  FormatUint at base 16, whole; Frexp.
-/
namespace Go.Proofs.YtieldmakbokekaaGreatDoor.Oct
open Go.RowKit
open Go.Proofs.YtieldmakbokekaaGreatDoor.Fl

theorem ifu16 (u : Nat) (w : World) (h0 : 4503599627370496 ≤ u) (h1 : u < 9007199254740992) (ht : Tz w) :
    Calls Tryz.prog 60 #[.int .u64 u, .int .i64 16] w fun e w' => e = .returned (.string ⟨(hx14 u).toArray⟩) ∧ Below w.heap.size w w' := by
  have HT : Hid (Tz w) := ht
  have HU : Hid (4503599627370496 ≤ u ∧ u < 9007199254740992) := ⟨h0, h1⟩
  clear ht h0 h1
  go_enter Tryz.func60, Tryz.ntmps60
  go_wp2_with fail
  refine (fb16 u _ HU.out.1 HU.out.2 HT.out).mono ?_
  rintro e w' ⟨rfl, hb⟩
  have HB : Hid (Below w.heap.size w w') := hb
  clear hb
  go_wp2_with fail
  go_ret
  exact ⟨rfl, HB.out⟩

theorem fu16 (u : Nat) (w : World) (h0 : 4503599627370496 ≤ u) (h1 : u < 9007199254740992) (ht : Tz w) :
    Calls Tryz.prog 39 #[.int .u64 u, .int .i64 16] w fun e w' => e = .returned (.string ⟨(hx14 u).toArray⟩) ∧ Below w.heap.size w w' := by
  have HT : Hid (Tz w) := ht
  have HU : Hid (4503599627370496 ≤ u ∧ u < 9007199254740992) := ⟨h0, h1⟩
  clear ht h0 h1
  go_enter Tryz.func39, Tryz.ntmps39
  go_wp2_with fail
  refine (ifu16 u _ HU.out.1 HU.out.2 HT.out).mono ?_
  rintro e w' ⟨rfl, hb⟩
  have HB : Hid (Below w.heap.size w w') := hb
  clear hb
  go_wp2_with fail
  go_ret
  exact ⟨rfl, HB.out⟩

end Go.Proofs.YtieldmakbokekaaGreatDoor.Oct
