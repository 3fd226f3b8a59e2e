/-
  real.Read at the texts that Show says.
-/
import Derived.Test.YtieldmakbokekaaGreatDoorTa
import Derived.Test.YtieldmakbokekaaGreatDoorTb
import Derived.Test.YtieldmakbokekaaGreatDoorDc
namespace Go.Proofs.YtieldmakbokekaaGreatDoor.Oct
open Go.RowKit
open Go.Proofs.YtieldmakbokekaaGreatDoor.Fl

/-- A hex number's parts: fraction, exponent, and how it is put together again. -/
theorem hex_parts {a : Nat} (h0 : 0 < a) (h1 : a < 0x7ff0000000000000) : ∃ (F d q X : Nat) (Z : Int), F = fb a % 4503599627370496 ∧ Z = fk a + (fb a / 4503599627370496 : Nat) - 1023 ∧ -1074 ≤ Z ∧ Z ≤ 1023 ∧
    ((d = 0 ∧ -1022 ≤ Z) ∨ (0 < d ∧ Z + (d : Int) = -1022)) ∧ 4503599627370496 + F = 2 ^ d * q ∧ 0 < q ∧ ((4503599627370496 ≤ q ∧ (X : Int) = Z + (d : Int) + 1023) ∨ (q < 4503599627370496 ∧ X = 0)) ∧ X * 4503599627370496 + q % 4503599627370496 = a := by
  by_cases hs : a < 4503599627370496
  · obtain ⟨j, j1, j2, j3, j4⟩ := ex_shift h0 hs
    obtain ⟨f1, f2⟩ := fb_shift hs j2 j3 j4
    refine ⟨fb a % 4503599627370496, j, a, 0, fk a + (fb a / 4503599627370496 : Nat) - 1023, rfl, rfl, by omega, by omega, .inr ⟨by omega, by omega⟩, by rw [f1, Nat.mul_comm], h0, .inr ⟨hs, rfl⟩, ?_⟩
    rw [Nat.mod_eq_of_lt hs, Nat.zero_mul, Nat.zero_add]
  · obtain ⟨f1, f2⟩ := fb_norm (a := a) (by omega)
    refine ⟨fb a % 4503599627370496, 0, 4503599627370496 + a % 4503599627370496, a / 4503599627370496, fk a + (fb a / 4503599627370496 : Nat) - 1023, rfl, rfl, ?_, ?_, .inl ⟨rfl, ?_⟩, ?_, by omega, .inl ⟨by omega, ?_⟩, ?_⟩
    · rw [f1, f2]; omega
    · rw [f1, f2]; omega
    · rw [f1, f2]; omega
    · rw [f1]; omega
    · rw [f1, f2]; omega
    · omega

/-- Show's own text of a hex number, byte by byte. -/
theorem hxs_text (a : Nat) (Z : Int) (hZ : Z = fk a + (fb a / 4503599627370496 : Nat) - 1023) : hxs a = ⟨(hxL (hxt a) (Lib.decDigits Z.natAbs) (decide (Z < 0))).toArray⟩ := by
  unfold hxs hxe
  rw [← hZ]
  refine ba_eq ?_
  unfold hxL ptL
  by_cases hn : Z < 0
  · have e : Lib.itoa Z = 45 :: Lib.decDigits Z.natAbs := by unfold Lib.itoa; rw [if_pos hn]
    rw [if_pos hn, e, decide_eq_true hn]
    by_cases ht : hxt a = []
    · rw [if_pos ht, if_pos ht]; simp [ByteArray.data_append]
    · rw [if_neg ht, if_neg ht]; simp [ByteArray.data_append]
  · have e : Lib.itoa Z = Lib.decDigits Z.natAbs := by unfold Lib.itoa; rw [if_neg hn]; congr 1; omega
    rw [if_neg hn, e, decide_eq_false hn]
    by_cases ht : hxt a = []
    · rw [if_pos ht, if_pos ht]; simp [ByteArray.data_append]
    · rw [if_neg ht, if_neg ht]; simp [ByteArray.data_append]

structure HexOf (a : Nat) (T Xs : List UInt8) (Z : Int) : Prop where
  hT : ∀ c ∈ T, isx c
  hX : ∀ c ∈ Xs, 48 ≤ c.toNat ∧ c.toNat ≤ 57
  ht : T.length ≤ 13
  h1 : 1 ≤ Xs.length
  h4 : Xs.length ≤ 4
  tx : hxs a = ⟨(hxL T Xs (decide (Z < 0))).toArray⟩
  ex : (if decide (Z < 0) then (-1 : Int) else 1) * (dv (fun j => (Xs.getD j 0).toNat - 48) Xs.length : Int) = Z
  atof : ∀ (s : ByteArray) (neg : Bool) (w : World), Fi w → Calls Tryz.prog 105 #[.string s, .pointer (some ⟨9, 0, none⟩), .int .u64 (hv (fun j => dgv (T.getD j 0)) T.length : Nat), .int .i64 (Z - 4 * (T.length : Int)), .bool neg, .bool false] w fun e w' => e = .returned (.tuple #[.float .f64 (a + if neg then 9223372036854775808 else 0), .nilIface]) ∧ Below w.heap.size w w'

theorem hexOf {a : Nat} (h0 : 0 < a) (h1 : a < 0x7ff0000000000000) : ∃ T Xs Z, HexOf a T Xs Z := by
  obtain ⟨F, d, q, X, Z, hF, hZ, hz0, hz1, hd, hq, hq0, hX, hre⟩ := hex_parts h0 h1
  obtain ⟨k, k13, krs, kx⟩ := ex_trim F 13 (Nat.le_refl _) (rs_end F)
  have hFb : F < 4503599627370496 := by rw [hF]; exact Nat.mod_lt _ (by decide)
  have hT : hxt a = (xl F).take k := by
    have := hxt_at (a := a) k13 (by rw [← hF]; exact krs) (by rw [← hF]; exact kx)
    rw [← hF] at this
    exact this
  have hTl : (hxt a).length = k := by rw [hT, List.length_take, xl_len]; omega
  have hTat : ∀ j, j < k → (hxt a).getD j 0 = UInt8.ofNat (hxd (xd F j)) := fun j hj => by
    rw [hT, List.getD_eq_getElem?_getD, List.getElem?_take_of_lt hj, xl_get F j (by omega)]
    rfl
  have hxd16 : ∀ j, xd F j < 16 := fun j => Nat.mod_lt _ (by decide)
  have hD : ∀ j, j < k → dgv ((hxt a).getD j 0) = xd F j := fun j hj => by
    rw [hTat j hj]
    exact (hxd_ok ⟨xd F j, hxd16 j⟩).2
  have hlen4 : (Lib.decDigits Z.natAbs).length ≤ 4 := dd_len 3 _ (by omega)
  have hM := hv_whole hFb hD k13 krs
  refine ⟨hxt a, Lib.decDigits Z.natAbs, Z, ?_, ?_, by omega, ?_, hlen4, hxs_text a Z hZ, ?_, ?_⟩
  · intro c hc
    obtain ⟨j, hj, rfl⟩ := List.getElem_of_mem hc
    have e : (hxt a)[j] = (hxt a).getD j 0 := by rw [List.getD_eq_getElem?_getD, List.getElem?_eq_getElem hj]; rfl
    rw [e, hTat j (by omega)]
    exact (hxd_ok ⟨xd F j, hxd16 j⟩).1
  · intro c hc
    have := List.all_eq_true.1 (dd_all Z.natAbs) c hc
    unfold dgU dgB at this
    simpa using this
  · have hn := dd_num Z.natAbs
    by_cases hl : (Lib.decDigits Z.natAbs).length = 0
    · exfalso
      have e := Lib.decDigits_length Z.natAbs
      rw [hl] at e
      unfold Lib.nDigits at e
      split at e <;> omega
    · omega
  · rw [dv_num, dd_num]
    by_cases hn : Z < 0
    · rw [decide_eq_true hn]; simp; omega
    · rw [decide_eq_false hn]; simp; omega
  · intro s neg w hFi
    rw [hTl]
    obtain ⟨M, hMe⟩ : ∃ M, hv (fun j => dgv ((hxt a).getD j 0)) k = M := ⟨_, rfl⟩
    rw [hMe] at hM ⊢
    have hp : M * 2 ^ (4 * (13 - k) + 2) = 4 * (4503599627370496 + F) := by
      rw [Nat.pow_add, Nat.pow_mul, show (2 : Nat) ^ 4 = 16 from rfl, ← Nat.mul_assoc, hM, Nat.mul_comm]
    have hM0 : 0 < M := by
      rcases Nat.eq_zero_or_pos M with h | h
      · rw [h, Nat.zero_mul] at hM; omega
      · exact h
    have := hexf s M (4 * (13 - k) + 2) d q X (Z - 4 * (k : Int)) (Z - 2) neg w hFi hM0 (by rw [hp]; omega) (by rw [hp]; omega) (by omega) (by omega) (by omega) (by omega)
      (by rcases hd with ⟨h, h'⟩ | ⟨h, h'⟩
          · exact .inl ⟨h, by omega⟩
          · exact .inr ⟨h, by omega⟩)
      (by rw [hp, hq, Nat.mul_assoc]) hq0
      (by rcases hd with ⟨h, h'⟩ | ⟨h, h'⟩
          · omega
          · omega)
      (by rcases hX with ⟨h, h'⟩ | ⟨h, h'⟩
          · exact .inl ⟨h, by omega⟩
          · exact .inr ⟨h, h'⟩)
    rw [hre] at this
    exact this

theorem hxL_x (T Xs : List UInt8) (es : Bool) : Lib.hasPrefix (hxL T Xs es) [48, 120] = true := rfl
theorem hxL_m (T Xs : List UInt8) (es : Bool) : Lib.hasPrefix (hxL T Xs es) [45] = false := rfl

/-- A hex number without a sign is read. -/
theorem read_hxp {a : Nat} (h0 : 0 < a) (h1 : a < 0x7ff0000000000000) (w : World) (hF : Fi w) (hsh : ∀ w1, Below w.heap.size w w1 → Calls Tryz.prog 6 #[.float .f64 a] w1 fun e w' => e = .returned (.string (hxs a)) ∧ Below w1.heap.size w1 w') :
    Calls Tryz.prog 7 #[.string (hxs a)] w fun e w' => e = .returned (.tuple #[.float .f64 a, .bool true]) ∧ Below w.heap.size w w' := by
  obtain ⟨T, Xs, Z, h⟩ := hexOf h0 h1
  rw [h.tx] at hsh ⊢
  have ht := hexT_mk T Xs (decide (Z < 0)) h.hT h.hX h.ht h.h1 h.h4
  have hat := atof64_any _ _ _ _ _ _ _ ht w hF a (fun w' hF' => by
    have := h.atof ⟨(hxL T Xs (decide (Z < 0))).toArray⟩ false w' hF'
    rw [h.ex]
    exact this)
  refine read_hex _ w a true (hxL_m T Xs _) (hxL_x T Xs _) ?_ ?_ ?_ (shown_yes _ w a hat hsh)
  · rw [tl_mk]; rfl
  · rw [tl_mk]; rfl
  · rw [tl_mk]; rfl

/-- A hex number with a sign is read. -/
theorem read_hxn {a : Nat} (h0 : 0 < a) (h1 : a < 0x7ff0000000000000) (w : World) (hF : Fi w) (hsh : ∀ w1, Below w.heap.size w w1 → Calls Tryz.prog 6 #[.float .f64 (a + 9223372036854775808)] w1 fun e w' => e = .returned (.string ((⟨#[45]⟩ : ByteArray) ++ hxs a)) ∧ Below w1.heap.size w1 w') :
    Calls Tryz.prog 7 #[.string ((⟨#[45]⟩ : ByteArray) ++ hxs a)] w fun e w' => e = .returned (.tuple #[.float .f64 (a + 9223372036854775808), .bool true]) ∧ Below w.heap.size w w' := by
  obtain ⟨T, Xs, Z, h⟩ := hexOf h0 h1
  have e : (⟨#[45]⟩ : ByteArray) ++ hxs a = ⟨(45 :: hxL T Xs (decide (Z < 0))).toArray⟩ := by
    rw [h.tx]
    exact app_mk [45] (hxL T Xs (decide (Z < 0)))
  rw [e] at hsh ⊢
  have ht := hexM_mk T Xs (decide (Z < 0)) h.hT h.hX h.ht h.h1 h.h4
  have hat := atof64m_any _ ⟨(hxL T Xs (decide (Z < 0))).toArray⟩ _ _ _ _ _ _ ht rfl w hF (a + 9223372036854775808) (fun w' hF' => by
    have := h.atof ⟨(45 :: hxL T Xs (decide (Z < 0))).toArray⟩ true w' hF'
    rw [h.ex]
    exact this)
  refine read_hexm _ ⟨(hxL T Xs (decide (Z < 0))).toArray⟩ w _ true rfl (hxL_x T Xs _) ?_ ?_ ?_ (shown_yes _ w _ hat hsh)
  · rw [tl_mk]; rfl
  · rw [tl_mk]; rfl
  · rw [tl_mk]; rfl
end Go.Proofs.YtieldmakbokekaaGreatDoor.Oct
