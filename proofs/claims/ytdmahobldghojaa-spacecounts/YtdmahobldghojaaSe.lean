/-
  Bits in bytes, plainly.
-/
import Derived.Test.YtdmahobldghojaaSa
namespace Go.Proofs.Ytdmahobldghojaa.Oct
open Go.RowKit

/-- Eight bits in a byte, the lowest first. -/
def by8 (a b c d e f g h : Bool) : Int := (if a then 1 else 0) + (if b then 2 else 0) + (if c then 4 else 0) + (if d then 8 else 0) + (if e then 16 else 0) + (if f then 32 else 0) + (if g then 64 else 0) + (if h then 128 else 0)
def byB (u : Nat → Bool) : Int := by8 (u 0) (u 1) (u 2) (u 3) (u 4) (u 5) (u 6) (u 7)
def bitAt (z : Int) (b : Nat) : Bool := z / 2 ^ b % 2 == 1
/-- Bit i of a row of bytes. -/
def bitR (zs : List Int) (i : Nat) : Bool := bitAt (zs.getD (i / 8) 0) (i % 8)
/-- n bits in bytes. -/
def bitsP (u : Nat → Bool) (n : Nat) : List Int := (List.range ((n + 7) / 8)).map fun j => byB (fun b => u (8 * j + b))

theorem by8_in : ∀ a b c d e f g h : Bool, 0 ≤ by8 a b c d e f g h ∧ by8 a b c d e f g h ≤ 255 := by decide +kernel
theorem or8_0 : ∀ a b c d e f g h : Bool, bits .or .u8 (by8 a b c d e f g h) 1 = by8 true b c d e f g h := by decide +kernel
theorem or8_1 : ∀ a b c d e f g h : Bool, bits .or .u8 (by8 a b c d e f g h) 2 = by8 a true c d e f g h := by decide +kernel
theorem or8_2 : ∀ a b c d e f g h : Bool, bits .or .u8 (by8 a b c d e f g h) 4 = by8 a b true d e f g h := by decide +kernel
theorem or8_3 : ∀ a b c d e f g h : Bool, bits .or .u8 (by8 a b c d e f g h) 8 = by8 a b c true e f g h := by decide +kernel
theorem or8_4 : ∀ a b c d e f g h : Bool, bits .or .u8 (by8 a b c d e f g h) 16 = by8 a b c d true f g h := by decide +kernel
theorem or8_5 : ∀ a b c d e f g h : Bool, bits .or .u8 (by8 a b c d e f g h) 32 = by8 a b c d e true g h := by decide +kernel
theorem or8_6 : ∀ a b c d e f g h : Bool, bits .or .u8 (by8 a b c d e f g h) 64 = by8 a b c d e f true h := by decide +kernel
theorem or8_7 : ∀ a b c d e f g h : Bool, bits .or .u8 (by8 a b c d e f g h) 128 = by8 a b c d e f g true := by decide +kernel
theorem at8 : ∀ a b c d e f g h : Bool, bitAt (by8 a b c d e f g h) 0 = a ∧ bitAt (by8 a b c d e f g h) 1 = b ∧ bitAt (by8 a b c d e f g h) 2 = c ∧ bitAt (by8 a b c d e f g h) 3 = d ∧ bitAt (by8 a b c d e f g h) 4 = e ∧ bitAt (by8 a b c d e f g h) 5 = f ∧ bitAt (by8 a b c d e f g h) 6 = g ∧ bitAt (by8 a b c d e f g h) 7 = h := by decide +kernel
theorem by_at : ∀ z : Fin 256, byB (bitAt (z.val : Int)) = z.val := by decide +kernel
theorem and1 : ∀ z : Fin 256, bits .and .u8 (z.val : Int) 1 = (z.val : Int) % 2 := by decide +kernel

theorem byB_in (u : Nat → Bool) : 0 ≤ byB u ∧ byB u ≤ 255 := by8_in _ _ _ _ _ _ _ _
theorem byB_or (u v : Nat → Bool) (b : Nat) (hb : b < 8) (hv : v b = true) (h : ∀ x, x ≠ b → v x = u x) : bits .or .u8 (byB u) (2 ^ b % 256) = byB v := by
  unfold byB
  match b, hb with
  | 0, _ => rw [h 1 (by omega), h 2 (by omega), h 3 (by omega), h 4 (by omega), h 5 (by omega), h 6 (by omega), h 7 (by omega), hv]; exact or8_0 _ _ _ _ _ _ _ _
  | 1, _ => rw [h 0 (by omega), h 2 (by omega), h 3 (by omega), h 4 (by omega), h 5 (by omega), h 6 (by omega), h 7 (by omega), hv]; exact or8_1 _ _ _ _ _ _ _ _
  | 2, _ => rw [h 0 (by omega), h 1 (by omega), h 3 (by omega), h 4 (by omega), h 5 (by omega), h 6 (by omega), h 7 (by omega), hv]; exact or8_2 _ _ _ _ _ _ _ _
  | 3, _ => rw [h 0 (by omega), h 1 (by omega), h 2 (by omega), h 4 (by omega), h 5 (by omega), h 6 (by omega), h 7 (by omega), hv]; exact or8_3 _ _ _ _ _ _ _ _
  | 4, _ => rw [h 0 (by omega), h 1 (by omega), h 2 (by omega), h 3 (by omega), h 5 (by omega), h 6 (by omega), h 7 (by omega), hv]; exact or8_4 _ _ _ _ _ _ _ _
  | 5, _ => rw [h 0 (by omega), h 1 (by omega), h 2 (by omega), h 3 (by omega), h 4 (by omega), h 6 (by omega), h 7 (by omega), hv]; exact or8_5 _ _ _ _ _ _ _ _
  | 6, _ => rw [h 0 (by omega), h 1 (by omega), h 2 (by omega), h 3 (by omega), h 4 (by omega), h 5 (by omega), h 7 (by omega), hv]; exact or8_6 _ _ _ _ _ _ _ _
  | 7, _ => rw [h 0 (by omega), h 1 (by omega), h 2 (by omega), h 3 (by omega), h 4 (by omega), h 5 (by omega), h 6 (by omega), hv]; exact or8_7 _ _ _ _ _ _ _ _
theorem bitAt_byB (u : Nat → Bool) (b : Nat) (hb : b < 8) : bitAt (byB u) b = u b := by
  have h := at8 (u 0) (u 1) (u 2) (u 3) (u 4) (u 5) (u 6) (u 7)
  unfold byB
  match b, hb with
  | 0, _ => exact h.1
  | 1, _ => exact h.2.1
  | 2, _ => exact h.2.2.1
  | 3, _ => exact h.2.2.2.1
  | 4, _ => exact h.2.2.2.2.1
  | 5, _ => exact h.2.2.2.2.2.1
  | 6, _ => exact h.2.2.2.2.2.2.1
  | 7, _ => exact h.2.2.2.2.2.2.2
theorem byB_bitAt {z : Int} (h0 : 0 ≤ z) (h1 : z ≤ 255) : byB (bitAt z) = z := by
  obtain ⟨n, rfl⟩ := Int.eq_ofNat_of_zero_le h0
  exact by_at ⟨n, by omega⟩
theorem byB_ext {u v : Nat → Bool} (h : ∀ b, b < 8 → u b = v b) : byB u = byB v := by
  unfold byB
  rw [h 0 (by omega), h 1 (by omega), h 2 (by omega), h 3 (by omega), h 4 (by omega), h 5 (by omega), h 6 (by omega), h 7 (by omega)]
theorem bit_and {z : Int} (h0 : 0 ≤ z) (h1 : z ≤ 255) (b : Nat) : bits .and .u8 (z / 2 ^ b) 1 = z / 2 ^ b % 2 := by
  obtain ⟨n, rfl⟩ := Int.eq_ofNat_of_zero_le h0
  have e : ((n : Int) / 2 ^ b) = ((n / 2 ^ b : Nat) : Int) := by simp
  have hl : n / 2 ^ b < 256 := Nat.lt_of_le_of_lt (Nat.div_le_self _ _) (by omega)
  rw [e]
  exact and1 ⟨n / 2 ^ b, hl⟩

theorem bitsP_len (u : Nat → Bool) (n : Nat) : (bitsP u n).length = (n + 7) / 8 := by simp [bitsP]
theorem bitsP_at {u : Nat → Bool} {n j : Nat} (h : j < (n + 7) / 8) : (bitsP u n).getD j 0 = byB (fun b => u (8 * j + b)) := by
  unfold bitsP
  rw [List.getD_eq_getElem?_getD, List.getElem?_eq_getElem (by simpa using h)]
  simp
theorem bitsP_bys (u : Nat → Bool) (n : Nat) : Bys (bitsP u n) := fun z hz => by
  obtain ⟨j, _, rfl⟩ := List.mem_map.1 hz
  exact byB_in _
theorem bitsP_none (n : Nat) : bitsP (fun _ => false) n = List.replicate ((n + 7) / 8) 0 := by
  unfold bitsP
  rw [show (fun j : Nat => byB (fun _ => false)) = fun _ : Nat => (0 : Int) from rfl]
  simp [List.map_const']
theorem bitsP_ext {u v : Nat → Bool} {n : Nat} (h : ∀ i, i < (n + 7) / 8 * 8 → u i = v i) : bitsP u n = bitsP v n := by
  unfold bitsP
  refine List.map_congr_left fun j hj => byB_ext fun b hb => h _ ?_
  have := List.mem_range.1 hj
  omega
/-- One bit more. -/
theorem bitsP_or {u v : Nat → Bool} {n k : Nat} (hk : k < n) (hv : v k = true) (h : ∀ i, i ≠ k → v i = u i) : (bitsP u n).set (k / 8) (bits .or .u8 ((bitsP u n).getD (k / 8) 0) (2 ^ (k % 8) % 256)) = bitsP v n := by
  have hj : k / 8 < (n + 7) / 8 := by omega
  rw [bitsP_at hj, byB_or _ (fun b => v (8 * (k / 8) + b)) (k % 8) (by omega) (by show v _ = true; rw [show 8 * (k / 8) + k % 8 = k by omega]; exact hv) (fun x hx => h _ (by omega))]
  refine eq_of_getD (by rw [List.length_set, bitsP_len, bitsP_len]) fun i hi => ?_
  rw [List.length_set, bitsP_len] at hi
  rw [bitsP_at hi]
  by_cases e : i = k / 8
  · subst e
    rw [List.getD_eq_getElem?_getD, List.getElem?_set_self (by rw [bitsP_len]; exact hi), Option.getD_some]
  · rw [List.getD_eq_getElem?_getD, List.getElem?_set_ne (by omega), ← List.getD_eq_getElem?_getD, bitsP_at hi]
    exact byB_ext fun b hb => (h _ (by omega)).symm
/-- Bits that were packed. -/
theorem bitR_bitsP {u : Nat → Bool} {n i : Nat} (h : i < (n + 7) / 8 * 8) : bitR (bitsP u n) i = u i := by
  unfold bitR
  rw [bitsP_at (by omega), bitAt_byB _ _ (by omega), show 8 * (i / 8) + i % 8 = i by omega]
/-- Bytes are their bits. -/
theorem bitsP_bitR {zs : List Int} {n : Nat} (hb : Bys zs) (hl : zs.length = (n + 7) / 8) : bitsP (bitR zs) n = zs := by
  refine eq_of_getD (by rw [bitsP_len, hl]) fun j hj => ?_
  rw [bitsP_len] at hj
  rw [bitsP_at hj]
  refine Eq.trans (byB_ext fun b hb => ?_) (byB_bitAt (hb.at j).1 (hb.at j).2)
  unfold bitR
  rw [show (8 * j + b) / 8 = j by omega, show (8 * j + b) % 8 = b by omega]

/-- The bits of what is used or own. -/
def bitL (S : List Int) : List Int := bitsP (fun i => usB (S.getD i 0)) S.length
def bitK (S : List Int) (k : Nat) : List Int := bitsP (fun i => decide (i < k) && usB (S.getD i 0)) S.length
theorem bitK_all (S : List Int) : bitK S S.length = bitL S := bitsP_ext fun i _ => by
  by_cases h : i < S.length
  · simp [h]
  · rw [List.getD_eq_getElem?_getD, List.getElem?_eq_none (by omega)]
    simp [h, usB]
theorem bitK_yes {S : List Int} {k : Nat} (h : k < S.length) (hu : usB (S.getD k 0) = true) : bitK S (k + 1) = (bitK S k).set (k / 8) (bits .or .u8 ((bitK S k).getD (k / 8) 0) (2 ^ (k % 8) % 256)) :=
  (bitsP_or h (by show (decide (k < k + 1) && _) = true; rw [hu]; simp) fun i hi => by
    show (decide (i < k + 1) && _) = (decide (i < k) && _)
    congr 1
    exact decide_eq_decide.2 (by omega)).symm
theorem bitK_no {S : List Int} {k : Nat} (hu : usB (S.getD k 0) = false) : bitK S (k + 1) = bitK S k := bitsP_ext fun i _ => by
  by_cases e : i = k
  · subst e; rw [hu]; simp
  · congr 1
    exact decide_eq_decide.2 (by omega)
theorem bitK_zero (S : List Int) : bitK S 0 = List.replicate ((S.length + 7) / 8) 0 := by
  unfold bitK
  rw [← bitsP_none]
  exact bitsP_ext fun i _ => by simp
end Go.Proofs.Ytdmahobldghojaa.Oct
