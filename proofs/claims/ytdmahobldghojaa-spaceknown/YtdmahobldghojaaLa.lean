/-
  Two sets of bits that say four states, plainly.
-/
import Derived.Test.YtdmahobldghojaaSg
import Derived.Lib.BitFns
namespace Go.Proofs.Ytdmahobldghojaa.Oct.Sps
open Go.RowKit

/-- Used or pending. -/
def laB (z : Int) : Bool := z == 1 || z == 3
def lasL (S : List Int) : List Int := bitsP (fun i => laB (S.getD i 0)) S.length
/-- Any other than free. -/
def nzB (z : Int) : Bool := !(z == 0)
def tkY (S : List Int) (j : Nat) : Int := byB (fun b => nzB (S.getD (8 * j + b) 0))

theorem or8 : ∀ a b c d e f g h a' b' c' d' e' f' g' h' : Bool, bits .or .u8 (by8 a b c d e f g h) (by8 a' b' c' d' e' f' g' h') = by8 (a || a') (b || b') (c || c') (d || d') (e || e') (f || f') (g || g') (h || h') := by decide +kernel
theorem byB_orB (u v : Nat → Bool) : bits .or .u8 (byB u) (byB v) = byB (fun b => u b || v b) := or8 _ _ _ _ _ _ _ _ _ _ _ _ _ _ _ _

theorem an8_0 : ∀ a b c d e f g h : Bool, bits .andNot .u8 (by8 a b c d e f g h) 1 = by8 false b c d e f g h := by decide +kernel
theorem an8_1 : ∀ a b c d e f g h : Bool, bits .andNot .u8 (by8 a b c d e f g h) 2 = by8 a false c d e f g h := by decide +kernel
theorem an8_2 : ∀ a b c d e f g h : Bool, bits .andNot .u8 (by8 a b c d e f g h) 4 = by8 a b false d e f g h := by decide +kernel
theorem an8_3 : ∀ a b c d e f g h : Bool, bits .andNot .u8 (by8 a b c d e f g h) 8 = by8 a b c false e f g h := by decide +kernel
theorem an8_4 : ∀ a b c d e f g h : Bool, bits .andNot .u8 (by8 a b c d e f g h) 16 = by8 a b c d false f g h := by decide +kernel
theorem an8_5 : ∀ a b c d e f g h : Bool, bits .andNot .u8 (by8 a b c d e f g h) 32 = by8 a b c d e false g h := by decide +kernel
theorem an8_6 : ∀ a b c d e f g h : Bool, bits .andNot .u8 (by8 a b c d e f g h) 64 = by8 a b c d e f false h := by decide +kernel
theorem an8_7 : ∀ a b c d e f g h : Bool, bits .andNot .u8 (by8 a b c d e f g h) 128 = by8 a b c d e f g false := by decide +kernel
theorem byB_an (u v : Nat → Bool) (b : Nat) (hb : b < 8) (hv : v b = false) (h : ∀ x, x ≠ b → v x = u x) : bits .andNot .u8 (byB u) (2 ^ b % 256) = byB v := by
  unfold byB
  match b, hb with
  | 0, _ => rw [h 1 (by omega), h 2 (by omega), h 3 (by omega), h 4 (by omega), h 5 (by omega), h 6 (by omega), h 7 (by omega), hv]; exact an8_0 _ _ _ _ _ _ _ _
  | 1, _ => rw [h 0 (by omega), h 2 (by omega), h 3 (by omega), h 4 (by omega), h 5 (by omega), h 6 (by omega), h 7 (by omega), hv]; exact an8_1 _ _ _ _ _ _ _ _
  | 2, _ => rw [h 0 (by omega), h 1 (by omega), h 3 (by omega), h 4 (by omega), h 5 (by omega), h 6 (by omega), h 7 (by omega), hv]; exact an8_2 _ _ _ _ _ _ _ _
  | 3, _ => rw [h 0 (by omega), h 1 (by omega), h 2 (by omega), h 4 (by omega), h 5 (by omega), h 6 (by omega), h 7 (by omega), hv]; exact an8_3 _ _ _ _ _ _ _ _
  | 4, _ => rw [h 0 (by omega), h 1 (by omega), h 2 (by omega), h 3 (by omega), h 5 (by omega), h 6 (by omega), h 7 (by omega), hv]; exact an8_4 _ _ _ _ _ _ _ _
  | 5, _ => rw [h 0 (by omega), h 1 (by omega), h 2 (by omega), h 3 (by omega), h 4 (by omega), h 6 (by omega), h 7 (by omega), hv]; exact an8_5 _ _ _ _ _ _ _ _
  | 6, _ => rw [h 0 (by omega), h 1 (by omega), h 2 (by omega), h 3 (by omega), h 4 (by omega), h 5 (by omega), h 7 (by omega), hv]; exact an8_6 _ _ _ _ _ _ _ _
  | 7, _ => rw [h 0 (by omega), h 1 (by omega), h 2 (by omega), h 3 (by omega), h 4 (by omega), h 5 (by omega), h 6 (by omega), hv]; exact an8_7 _ _ _ _ _ _ _ _
/-- One bit less. -/
theorem bitsP_an {u v : Nat → Bool} {n k : Nat} (hk : k < n) (hv : v k = false) (h : ∀ i, i ≠ k → v i = u i) : (bitsP u n).set (k / 8) (bits .andNot .u8 ((bitsP u n).getD (k / 8) 0) (2 ^ (k % 8) % 256)) = bitsP v n := by
  have hj : k / 8 < (n + 7) / 8 := by omega
  rw [bitsP_at hj, byB_an _ (fun b => v (8 * (k / 8) + b)) (k % 8) (by omega) (by show v _ = false; rw [show 8 * (k / 8) + k % 8 = k by omega]; exact hv) (fun x hx => h _ (by omega))]
  refine eq_of_getD (by rw [List.length_set, bitsP_len, bitsP_len]) fun i hi => ?_
  rw [List.length_set, bitsP_len] at hi
  rw [bitsP_at hi]
  by_cases e : i = k / 8
  · subst e
    rw [List.getD_eq_getElem?_getD, List.getElem?_set_self (by rw [bitsP_len]; exact hi), Option.getD_some]
  · rw [List.getD_eq_getElem?_getD, List.getElem?_set_ne (by omega), ← List.getD_eq_getElem?_getD, bitsP_at hi]
    exact byB_ext fun b hb => (h _ (by omega)).symm

theorem or_st {z : Int} (h : 0 ≤ z ∧ z ≤ 3) : (laB z || usB z) = nzB z := by
  have : z = 0 ∨ z = 1 ∨ z = 2 ∨ z = 3 := by omega
  rcases this with rfl | rfl | rfl | rfl <;> rfl
/-- The bits of a byte of all that is not free. -/
theorem tk_or {S : List Int} (h : SpOk S) {j : Nat} (hj : j < (S.length + 7) / 8) : bits .or .u8 ((lasL S).getD j 0) ((bitL S).getD j 0) = tkY S j := by
  unfold lasL bitL
  rw [bitsP_at hj, bitsP_at hj, byB_orB]
  exact byB_ext fun b _ => or_st (h.at _)

theorem lasL_len (S : List Int) : (lasL S).length = (S.length + 7) / 8 := bitsP_len _ _
theorem bitL_len (S : List Int) : (bitL S).length = (S.length + 7) / 8 := bitsP_len _ _
theorem lasL_bys (S : List Int) : Bys (lasL S) := bitsP_bys _ _
theorem bitL_bys (S : List Int) : Bys (bitL S) := bitsP_bys _ _

theorem getD_set' (S : List Int) (k i : Nat) (z : Int) (hk : k < S.length) : (S.set k z).getD i 0 = if i = k then z else S.getD i 0 := by
  rw [List.getD_eq_getElem?_getD, List.getD_eq_getElem?_getD]
  by_cases e : i = k
  · subst e; rw [List.getElem?_set_self hk, if_pos rfl]; rfl
  · rw [List.getElem?_set_ne (fun h => e h.symm), if_neg e]
theorem getD_map0 {f : Int → Int} (hf : f 0 = 0) (S : List Int) (i : Nat) : (S.map f).getD i 0 = f (S.getD i 0) := by
  rw [List.getD_eq_getElem?_getD, List.getD_eq_getElem?_getD, List.getElem?_map]
  cases S[i]? with
  | none => exact hf.symm
  | some z => rfl
theorem trZ0 (o p : Int) : trZ o p 0 = 0 := by unfold trZ; rw [if_neg (by omega), if_neg (by omega)]
theorem trS_at (o p : Int) (S : List Int) (i : Nat) : (trS o p S).getD i 0 = trZ o p (S.getD i 0) := getD_map0 (trZ0 o p) S i

/-- A page that was free is taken. -/
theorem bitL_take {S : List Int} {k : Nat} (hk : k < S.length) : bitL (S.set k 2) = (bitL S).set (k / 8) (bits .or .u8 ((bitL S).getD (k / 8) 0) (2 ^ (k % 8) % 256)) := by
  unfold bitL
  rw [List.length_set]
  refine (bitsP_or hk ?_ fun i hi => ?_).symm
  · show usB _ = true
    rw [getD_set' _ _ _ _ hk, if_pos rfl]; rfl
  · show usB _ = usB _
    rw [getD_set' _ _ _ _ hk, if_neg hi]
theorem lasL_set {S : List Int} {k : Nat} (hk : k < S.length) {z : Int} (h : laB z = laB (S.getD k 0)) : lasL (S.set k z) = lasL S := by
  unfold lasL
  rw [List.length_set]
  refine bitsP_ext fun i _ => ?_
  rw [getD_set' _ _ _ _ hk]
  split
  · rename_i e; rw [e]; exact h
  · rfl
/-- One that is used or own is given up. -/
theorem bitL_drop {S : List Int} {k : Nat} (hk : k < S.length) {z : Int} (hz : usB z = false) : bitL (S.set k z) = (bitL S).set (k / 8) (bits .andNot .u8 ((bitL S).getD (k / 8) 0) (2 ^ (k % 8) % 256)) := by
  unfold bitL
  rw [List.length_set]
  refine (bitsP_an hk ?_ fun i hi => ?_).symm
  · show usB _ = false
    rw [getD_set' _ _ _ _ hk, if_pos rfl]; exact hz
  · show usB _ = usB _
    rw [getD_set' _ _ _ _ hk, if_neg hi]

theorem map_tr {S : List Int} (h : SpOk S) {o p : Int} {f g : Int → Bool} (hz : ∀ z, z = 0 ∨ z = 1 ∨ z = 2 ∨ z = 3 → f (trZ o p z) = g z) : bitsP (fun i => f ((trS o p S).getD i 0)) (trS o p S).length = bitsP (fun i => g (S.getD i 0)) S.length := by
  rw [trS_len]
  refine bitsP_ext fun i _ => ?_
  rw [trS_at]
  have := h.at i
  exact hz _ (by omega)
theorem commit_las {S : List Int} (h : SpOk S) : lasL (trS 1 0 S) = bitL S := map_tr h (by rintro z (rfl | rfl | rfl | rfl) <;> rfl)
theorem commit_bit {S : List Int} (h : SpOk S) : bitL (trS 1 0 S) = bitL S := map_tr h (by rintro z (rfl | rfl | rfl | rfl) <;> rfl)
theorem abort_las {S : List Int} (h : SpOk S) : lasL (trS 0 1 S) = lasL S := map_tr h (by rintro z (rfl | rfl | rfl | rfl) <;> rfl)
theorem abort_bit {S : List Int} (h : SpOk S) : bitL (trS 0 1 S) = lasL S := map_tr h (by rintro z (rfl | rfl | rfl | rfl) <;> rfl)
theorem doubt_bit {S : List Int} (h : SpOk S) : bitL (trS 1 3 S) = bitL S := map_tr h (by rintro z (rfl | rfl | rfl | rfl) <;> rfl)
theorem doubt_las {S : List Int} (h : SpOk S) : lasL (trS 1 3 S) = bitsP (fun i => nzB (S.getD i 0)) S.length := map_tr h (by rintro z (rfl | rfl | rfl | rfl) <;> rfl)
/-- So far as k bytes are joined. -/
def orK (S : List Int) (k : Nat) : List Int := (lasL (trS 1 3 S)).take k ++ (lasL S).drop k
theorem orK_len (S : List Int) (k : Nat) : (orK S k).length = (S.length + 7) / 8 := by
  unfold orK
  rw [List.length_append, List.length_take, List.length_drop, lasL_len, lasL_len, trS_len]
  omega
theorem orK_at {S : List Int} {k : Nat} (h : k < (S.length + 7) / 8) : (orK S k).getD k 0 = (lasL S).getD k 0 := by
  unfold orK
  have hl : ((lasL (trS 1 3 S)).take k).length = k := by rw [List.length_take, lasL_len, trS_len]; omega
  rw [app_at, if_neg (by omega), hl, Nat.sub_self, List.getD_eq_getElem?_getD, List.getElem?_drop, Nat.add_zero, ← List.getD_eq_getElem?_getD]
theorem orK_succ {S : List Int} (hS : SpOk S) {k : Nat} (h : k < (S.length + 7) / 8) : orK S (k + 1) = (orK S k).set k (bits .or .u8 ((lasL S).getD k 0) ((bitL S).getD k 0)) := by
  rw [tk_or hS h]
  unfold orK
  have hl : ((lasL (trS 1 3 S)).take k).length = k := by rw [List.length_take, lasL_len, trS_len]; omega
  have hk : k < (lasL S).length := by rw [lasL_len]; exact h
  have hk' : k < (lasL (trS 1 3 S)).length := by rw [lasL_len, trS_len]; exact h
  have e : (lasL (trS 1 3 S)).getD k 0 = tkY S k := by rw [doubt_las hS, bitsP_at h]; rfl
  rw [List.set_append_right _ _ (by omega), hl, Nat.sub_self, List.drop_eq_getElem_cons hk, List.set_cons_zero, take_snoc _ k hk', e]
  simp
theorem orK_zero (S : List Int) : orK S 0 = lasL S := by simp [orK]
theorem orK_all (S : List Int) : orK S ((S.length + 7) / 8) = lasL (trS 1 3 S) := by
  unfold orK
  rw [List.take_of_length_le (by rw [lasL_len, trS_len]; omega), List.drop_eq_nil_of_le (by rw [lasL_len]; omega), List.append_nil]

/-! How many. -/
theorem ones8 : ∀ a b c d e f g h : Bool, (Lib.onesCount (by8 a b c d e f g h).toNat : Int) = (if a then 1 else 0) + (if b then 1 else 0) + (if c then 1 else 0) + (if d then 1 else 0) + (if e then 1 else 0) + (if f then 1 else 0) + (if g then 1 else 0) + (if h then 1 else 0) := by decide +kernel
/-- How many of the first k are not free. -/
def nzC (S : List Int) : Nat → Int
  | 0 => 0
  | k + 1 => nzC S k + (if nzB (S.getD k 0) then 1 else 0)
theorem nzC_ge (S : List Int) : ∀ k, S.length ≤ k → nzC S k = nzC S S.length := by
  intro k hk
  obtain ⟨d, rfl⟩ := Nat.le.dest hk
  clear hk
  induction d with
  | zero => rfl
  | succ d ih => rw [← Nat.add_assoc, nzC, ih, List.getD_eq_getElem?_getD, List.getElem?_eq_none (by omega)]; simp [nzB]
theorem nzC_in (S : List Int) : ∀ k, 0 ≤ nzC S k ∧ nzC S k ≤ k := by
  intro k
  induction k with
  | zero => simp [nzC]
  | succ k ih => unfold nzC; split <;> omega
theorem nzC_8 (S : List Int) (j : Nat) : nzC S (8 * (j + 1)) = nzC S (8 * j) + (Lib.onesCount (tkY S j).toNat : Int) := by
  unfold tkY byB
  rw [ones8, show 8 * (j + 1) = 8 * j + 1 + 1 + 1 + 1 + 1 + 1 + 1 + 1 by omega]
  simp only [nzC, Nat.add_zero]
  omega
theorem nzC_all (S : List Int) : (S.length : Int) - nzC S S.length = S.count 0 := by
  have : ∀ k, k ≤ S.length → (k : Int) - nzC S k = (S.take k).count 0 := by
    intro k
    induction k with
    | zero => intro _; simp [nzC]
    | succ k ih =>
      intro h
      have := ih (by omega)
      rw [take_snoc S k (by omega), List.count_append, nzC]
      by_cases e : S.getD k 0 = 0
      · rw [e]; simp [nzB]; omega
      · have e' : (S.getD k 0 == 0) = false := by simpa using e
        have e2 : [S.getD k 0].count 0 = 0 := by simp only [List.count_cons, List.count_nil, e']; rfl
        rw [e2]; unfold nzB; rw [e']; simp; omega
  have h := this S.length (Nat.le_refl _)
  rwa [List.take_length] at h

/-! The least. -/
theorem ntz_at : ∀ z : Fin 255, Lib.trailingZeros8 (255 - (z.val : Int)).toNat < 8 ∧ bitAt (z.val : Int) (Lib.trailingZeros8 (255 - (z.val : Int)).toNat) = false ∧ ∀ b, b < Lib.trailingZeros8 (255 - (z.val : Int)).toNat → bitAt (z.val : Int) b = true := by decide +kernel
theorem all_at : ∀ b, b < 8 → bitAt 255 b = true := by decide +kernel
theorem ntz_byB {u : Nat → Bool} (h : byB u ≠ 255) : ∃ t : Nat, Lib.trailingZeros8 (255 - byB u).toNat = t ∧ t < 8 ∧ u t = false ∧ ∀ b, b < t → u b = true := by
  obtain ⟨h0, h1⟩ := byB_in u
  obtain ⟨n, hn⟩ := Int.eq_ofNat_of_zero_le h0
  have hz := ntz_at ⟨n, by omega⟩
  simp only at hz
  rw [← hn] at hz
  refine ⟨_, rfl, hz.1, ?_, fun b hb => ?_⟩
  · rw [← bitAt_byB u _ hz.1]; exact hz.2.1
  · rw [← bitAt_byB u _ (by omega)]; exact hz.2.2 b hb
theorem all_byB {u : Nat → Bool} (h : byB u = 255) (b : Nat) (hb : b < 8) : u b = true := by
  rw [← bitAt_byB u b hb, h]; exact all_at b hb
/-- What the search for the least free page answers. -/
def LeS (S : List Int) (m : Nat) : Prop := (frI S < S.length → m = frI S) ∧ (¬ frI S < S.length → S.length ≤ m) ∧ m ≤ 100000
theorem nz_iff {z : Int} : nzB z = true ↔ z ≠ 0 := by unfold nzB; simp
theorem nz_no {z : Int} : nzB z = false ↔ z = 0 := by unfold nzB; simp
theorem LeS.found {S : List Int} (hS : SpOk S) {j t : Nat} (hj : j < (S.length + 7) / 8) (ht : t < 8) (h0 : nzB (S.getD (8 * j + t) 0) = false) (hb : ∀ b, b < t → nzB (S.getD (8 * j + b) 0) = true) (hk : ∀ i, i < 8 * j → S.getD i 0 ≠ 0) : LeS S (8 * j + t) := by
  have hall : ∀ i, i < 8 * j + t → S.getD i 0 ≠ 0 := fun i hi => by
    by_cases e : i < 8 * j
    · exact hk i e
    · have := nz_iff.1 (hb (i - 8 * j) (by omega))
      rwa [show 8 * j + (i - 8 * j) = i by omega] at this
  have hhi := hS.hi
  by_cases e : 8 * j + t < S.length
  · have := frI_eq e (nz_no.1 h0) hall
    exact ⟨fun _ => this.symm, fun h => by omega, by omega⟩
  · have := frI_none (S := S) (fun i hi => hall i (by omega))
    exact ⟨fun h => by omega, fun _ => by omega, by omega⟩
theorem LeS.none {S : List Int} (hS : SpOk S) (hk : ∀ i, i < 8 * ((S.length + 7) / 8) → S.getD i 0 ≠ 0) : LeS S S.length := by
  have hhi := hS.hi
  have := frI_none (S := S) (fun i hi => hk i (by omega))
  exact ⟨fun h => by omega, fun _ => Nat.le_refl _, by omega⟩
end Go.Proofs.Ytdmahobldghojaa.Oct.Sps
