/-
  Texts of hex numbers, plainly.
-/
import Derived.Test.YtieldmakbokekaaGreatDoorRv4
import Derived.Test.YtieldmakbokekaaGreatDoorRxm
import Derived.Test.YtieldmakbokekaaGreatDoorRz
namespace Go.Proofs.YtieldmakbokekaaGreatDoor.Oct
open Go.RowKit
open Go.Proofs.YtieldmakbokekaaGreatDoor.Fl

theorem ex_shift_to {a : Nat} (h2 : a < 4503599627370496) : ∀ t, t ≤ 52 → 2 ^ (52 - t) ≤ a → ∃ j, 1 ≤ j ∧ j ≤ 52 ∧ 4503599627370496 ≤ a * 2 ^ j ∧ a * 2 ^ j < 9007199254740992 := by
  intro t
  induction t with
  | zero => intro _ h; exact absurd h (by simp; omega)
  | succ t ih =>
    intro ht h
    by_cases h3 : 2 ^ (52 - t) ≤ a
    · exact ih (by omega) h3
    · refine ⟨t + 1, by omega, ht, ?_, ?_⟩
      · have : 2 ^ (52 - (t + 1)) * 2 ^ (t + 1) ≤ a * 2 ^ (t + 1) := Nat.mul_le_mul_right _ h
        rw [← Nat.pow_add, show 52 - (t + 1) + (t + 1) = 52 by omega] at this
        exact this
      · have : a * 2 ^ (t + 1) < 2 ^ (52 - t) * 2 ^ (t + 1) := Nat.mul_lt_mul_of_pos_right (by omega) (Nat.two_pow_pos _)
        rw [← Nat.pow_add, show 52 - t + (t + 1) = 53 by omega] at this
        exact this

theorem ex_shift {a : Nat} (h1 : 0 < a) (h2 : a < 4503599627370496) : ∃ j, 1 ≤ j ∧ j ≤ 52 ∧ 4503599627370496 ≤ a * 2 ^ j ∧ a * 2 ^ j < 9007199254740992 :=
  ex_shift_to h2 52 (Nat.le_refl _) (by simp; omega)

theorem ex_trim (F : Nat) : ∀ t, t ≤ 13 → rs F t = 0 → ∃ k, k ≤ 13 ∧ rs F k = 0 ∧ (0 < k → xd F (k - 1) ≠ 0) := by
  intro t
  induction t with
  | zero => intro h1 h2; exact ⟨0, by omega, h2, fun h => by omega⟩
  | succ t ih =>
    intro ht h
    by_cases h0 : rs F t = 0
    · exact ih (by omega) h0
    · exact ⟨t + 1, ht, h, fun _ => xd_last (by omega) h0 h⟩

def dgv (c : UInt8) : Nat := if c.toNat ≤ 57 then c.toNat - 48 else c.toNat - 87
def isx (c : UInt8) : Prop := (48 ≤ c.toNat ∧ c.toNat ≤ 57) ∨ (97 ≤ c.toNat ∧ c.toNat ≤ 102)
def ptL (T : List UInt8) : List UInt8 := if T = [] then [] else 46 :: T
/-- The text, byte by byte. -/
def hxL (T Xs : List UInt8) (es : Bool) : List UInt8 := 48 :: 120 :: 49 :: (ptL T ++ 112 :: (if es then 45 else 43) :: Xs)

theorem ptL_len (T : List UInt8) : (ptL T).length = frL T.length := by
  unfold ptL frL
  by_cases h : T = []
  · rw [if_pos h, h]; rfl
  · rw [if_neg h, if_neg (by intro e; exact h (List.eq_nil_of_length_eq_zero e))]; rfl

theorem hxL_at (T Xs : List UInt8) (es : Bool) (i : Nat) : (hxL T Xs es).getD (3 + i) 0 = (ptL T ++ 112 :: (if es then 45 else 43) :: Xs).getD i 0 := by
  unfold hxL
  rw [Nat.add_comm]
  rfl

theorem app_r (P R : List UInt8) (i : Nat) : (P ++ R).getD (P.length + i) 0 = R.getD i 0 := by
  rw [List.getD_eq_getElem?_getD, List.getElem?_append_right (by omega), Nat.add_sub_cancel_left, ← List.getD_eq_getElem?_getD]

theorem hxL_tail (T Xs : List UInt8) (es : Bool) (i : Nat) : (hxL T Xs es).getD (3 + frL T.length + i) 0 = (112 :: (if es then 45 else 43) :: Xs).getD i 0 := by
  rw [Nat.add_assoc, hxL_at, ← ptL_len, app_r]

theorem hxL_dig (T Xs : List UInt8) (es : Bool) (j : Nat) (hj : j < T.length) : (hxL T Xs es).getD (4 + j) 0 = T.getD j 0 := by
  have hT : T ≠ [] := by intro e; rw [e] at hj; simp at hj
  rw [show 4 + j = 3 + (1 + j) by omega, hxL_at]
  unfold ptL
  rw [if_neg hT, Nat.add_comm 1 j]
  show (T ++ _).getD j 0 = _
  rw [List.getD_eq_getElem?_getD, List.getElem?_append_left hj, ← List.getD_eq_getElem?_getD]

theorem hxL_len (T Xs : List UInt8) (es : Bool) : (hxL T Xs es).length = 5 + frL T.length + Xs.length := by
  unfold hxL
  simp only [List.length_cons, List.length_append, ptL_len]
  omega

theorem mem_getD {l : List UInt8} {j : Nat} (h : j < l.length) : l.getD j 0 ∈ l := by
  rw [List.getD_eq_getElem?_getD, List.getElem?_eq_getElem h]
  exact List.getElem_mem h

theorem dgv_of {c : UInt8} (h : isx c) : (48 ≤ (c.toNat : Int) ∧ (c.toNat : Int) ≤ 57 ∧ (dgv c : Int) = (c.toNat : Int) - 48) ∨ (97 ≤ (c.toNat : Int) ∧ (c.toNat : Int) ≤ 102 ∧ (dgv c : Int) = (c.toNat : Int) - 87) := by
  unfold dgv
  rcases h with h | h
  · rw [if_pos h.2]; exact .inl (by omega)
  · rw [if_neg (by omega)]; exact .inr (by omega)

theorem sgc (es : Bool) : (((if es then (45 : UInt8) else 43)).toNat : Int) = if es then 45 else 43 := by cases es <;> rfl

theorem hexT_mk (T Xs : List UInt8) (es : Bool) (hT : ∀ c ∈ T, isx c) (hX : ∀ c ∈ Xs, 48 ≤ c.toNat ∧ c.toNat ≤ 57) (ht : T.length ≤ 13) (h1 : 1 ≤ Xs.length) (h4 : Xs.length ≤ 4) :
    HexT ⟨(hxL T Xs es).toArray⟩ T.length Xs.length (fun k => (((hxL T Xs es).getD k 0).toNat : Int)) (fun j => dgv (T.getD j 0)) (fun j => (Xs.getD j 0).toNat - 48) es where
  size := by show (hxL T Xs es).toArray.size = _; rw [List.size_toArray]; exact hxL_len T Xs es
  m0 := h1
  m4 := h4
  n13 := ht
  idx := fun k hk W => idx_str _ k hk W
  c0 := rfl
  c1 := rfl
  c2 := rfl
  c3 := fun hn => by
    have hne : T ≠ [] := by intro e; rw [e] at hn; simp at hn
    have : (hxL T Xs es).getD (3 + 0) 0 = 46 := by rw [hxL_at]; unfold ptL; rw [if_neg hne]; rfl
    show (((hxL T Xs es).getD 3 0).toNat : Int) = 46
    rw [this]; rfl
  cp := by
    have := hxL_tail T Xs es 0
    show (((hxL T Xs es).getD (3 + frL T.length) 0).toNat : Int) = 112
    rw [Nat.add_zero] at this
    rw [this]; rfl
  cz := by
    have := hxL_tail T Xs es 1
    show (((hxL T Xs es).getD (4 + frL T.length) 0).toNat : Int) = _
    rw [show 4 + frL T.length = 3 + frL T.length + 1 by omega, this]
    exact sgc es
  cd := fun j hj => by
    have := hxL_tail T Xs es (j + 2)
    show (((hxL T Xs es).getD (5 + frL T.length + j) 0).toNat : Int) = 48 + (((Xs.getD j 0).toNat - 48 : Nat) : Int)
    rw [show 5 + frL T.length + j = 3 + frL T.length + (j + 2) by omega, this]
    show ((Xs.getD j 0).toNat : Int) = _
    have := hX _ (mem_getD hj)
    omega
  dig := fun j hj => by
    show (48 ≤ (((hxL T Xs es).getD (4 + j) 0).toNat : Int) ∧ _ ∧ (dgv (T.getD j 0) : Int) = _) ∨ _
    rw [hxL_dig T Xs es j hj]
    exact dgv_of (hT _ (mem_getD hj))
  dec := fun j hj => by
    have := hX _ (mem_getD hj)
    show (Xs.getD j 0).toNat - 48 ≤ 9
    omega

theorem hexM_mk (T Xs : List UInt8) (es : Bool) (hT : ∀ c ∈ T, isx c) (hX : ∀ c ∈ Xs, 48 ≤ c.toNat ∧ c.toNat ≤ 57) (ht : T.length ≤ 13) (h1 : 1 ≤ Xs.length) (h4 : Xs.length ≤ 4) :
    HexM ⟨(45 :: hxL T Xs es).toArray⟩ T.length Xs.length (fun k => (((45 :: hxL T Xs es).getD k 0).toNat : Int)) (fun j => dgv (T.getD j 0)) (fun j => (Xs.getD j 0).toNat - 48) es := by
  have h := hexT_mk T Xs es hT hX ht h1 h4
  have st : ∀ k, (45 :: hxL T Xs es).getD (k + 1) 0 = (hxL T Xs es).getD k 0 := fun k => rfl
  exact {
    size := by show (45 :: hxL T Xs es).toArray.size = _; rw [List.size_toArray, List.length_cons, hxL_len]; omega
    m0 := h1
    m4 := h4
    n13 := ht
    idx := fun k hk W => idx_str _ k hk W
    cm := rfl
    c0 := rfl
    c1 := rfl
    c2 := rfl
    c3 := fun hn => h.c3 hn
    cp := by
      show (((45 :: hxL T Xs es).getD (4 + frL T.length) 0).toNat : Int) = 112
      rw [show 4 + frL T.length = (3 + frL T.length) + 1 by omega, st]
      exact h.cp
    cz := by
      show (((45 :: hxL T Xs es).getD (5 + frL T.length) 0).toNat : Int) = _
      rw [show 5 + frL T.length = (4 + frL T.length) + 1 by omega, st]
      exact h.cz
    cd := fun j hj => by
      show (((45 :: hxL T Xs es).getD (6 + frL T.length + j) 0).toNat : Int) = _
      rw [show 6 + frL T.length + j = (5 + frL T.length + j) + 1 by omega, st]
      exact h.cd j hj
    dig := fun j hj => by
      have e : ((45 :: hxL T Xs es).getD (5 + j) 0) = (hxL T Xs es).getD (4 + j) 0 := by
        rw [show 5 + j = (4 + j) + 1 by omega, st]
      show (48 ≤ (((45 :: hxL T Xs es).getD (5 + j) 0).toNat : Int) ∧ (((45 :: hxL T Xs es).getD (5 + j) 0).toNat : Int) ≤ 57 ∧ _ = (((45 :: hxL T Xs es).getD (5 + j) 0).toNat : Int) - 48) ∨ (97 ≤ (((45 :: hxL T Xs es).getD (5 + j) 0).toNat : Int) ∧ (((45 :: hxL T Xs es).getD (5 + j) 0).toNat : Int) ≤ 102 ∧ _ = (((45 :: hxL T Xs es).getD (5 + j) 0).toNat : Int) - 87)
      rw [e]
      exact h.dig j hj
    dec := h.dec }

/-- The digits of the fraction, and what they come to. -/
theorem hv_xd {F k : Nat} (hF : F < 4503599627370496) {D : Nat → Nat} (hD : ∀ j, j < k → D j = xd F j) (hk : k ≤ 13) : ∀ j, j ≤ k → hv D j = (4503599627370496 + F) / 16 ^ (13 - j) := by
  intro j
  induction j with
  | zero =>
    intro _
    show 1 = (4503599627370496 + F) / 16 ^ 13
    have : (16 : Nat) ^ 13 = 4503599627370496 := by decide
    rw [this]
    omega
  | succ j ih =>
    intro hj
    rw [hv, ih (by omega), hD j (by omega)]
    have e13 : (4503599627370496 : Nat) = 16 ^ (j + 1) * 16 ^ (12 - j) := by rw [← Nat.pow_add, show j + 1 + (12 - j) = 13 by omega]
    have hp : 0 < 16 ^ (12 - j) := Nat.pow_pos (by decide)
    have e1 : (4503599627370496 + F) / 16 ^ (12 - j) = 16 ^ (j + 1) + F / 16 ^ (12 - j) := by
      rw [e13, Nat.mul_comm, Nat.mul_add_div hp]
    have e2 : 16 ^ (13 - j) = 16 ^ (12 - j) * 16 := by rw [show 13 - j = (12 - j) + 1 by omega, Nat.pow_succ]
    rw [e2, ← Nat.div_div_eq_div_mul, show 13 - (j + 1) = 12 - j by omega, e1]
    unfold xd
    generalize F / 16 ^ (12 - j) = G
    have : 16 ^ (j + 1) = 16 * 16 ^ j := by rw [Nat.pow_succ, Nat.mul_comm]
    rw [this]
    generalize 16 ^ j = H
    omega

theorem hv_whole {F k : Nat} (hF : F < 4503599627370496) {D : Nat → Nat} (hD : ∀ j, j < k → D j = xd F j) (hk : k ≤ 13) (hz : rs F k = 0) : hv D k * 16 ^ (13 - k) = 4503599627370496 + F := by
  rw [hv_xd hF hD hk k (Nat.le_refl _)]
  refine Nat.div_mul_cancel ?_
  have e13 : (4503599627370496 : Nat) = 16 ^ k * 16 ^ (13 - k) := by rw [← Nat.pow_add, show k + (13 - k) = 13 by omega]
  exact Nat.dvd_add (by rw [e13]; exact Nat.dvd_mul_left _ _) (Nat.dvd_of_mod_eq_zero (rs_zero.1 hz))

theorem dv_num (Xs : List UInt8) : ∀ j, dv (fun j => (Xs.getD j 0).toNat - 48) j = num (Xs.map UInt8.toNat) j := by
  intro j
  induction j with
  | zero => rfl
  | succ j ih =>
    rw [dv, num, ih]
    have : (Xs.map UInt8.toNat).getD j 0 = (Xs.getD j 0).toNat := by
      rw [List.getD_eq_getElem?_getD, List.getElem?_map, List.getD_eq_getElem?_getD]
      cases Xs[j]? <;> rfl
    rw [this]
    omega

theorem hxd_ok : ∀ i : Fin 16, isx (UInt8.ofNat (hxd i.val)) ∧ dgv (UInt8.ofNat (hxd i.val)) = i.val := by
  unfold isx
  decide
end Go.Proofs.YtieldmakbokekaaGreatDoor.Oct
