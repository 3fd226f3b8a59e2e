/-
  The document's power.
-/
import Derived.Test.YtieldmakbokekaaGreatDoorXh
import Derived.Test.YtieldmakbokekaaGreatDoorWa
import Derived.Deep.CutBlock
import Derived.Deep.DeepCutAuto
namespace Go.Proofs.YtieldmakbokekaaGreatDoor.Oct
open Go.RowKit
open Go.Proofs.YtieldmakbokekaaGreatDoor.Fl

/-- The parts of a text of Show's. -/
def HX (T Xs : List UInt8) : Prop := (∀ c ∈ T, isx c) ∧ (∀ c ∈ Xs, 48 ≤ c.toNat ∧ c.toNat ≤ 57) ∧ T.length ≤ 13 ∧ 1 ≤ Xs.length ∧ Xs.length ≤ 4

def cb (s : ByteArray) (k : Nat) : UInt8 := s.data.toList.getD k 0
theorem cb_byt (s : ByteArray) (k : Nat) : byt s k = ((cb s k).toNat : Int) := rfl

/-- How power ends. -/
def PwEnd (s : ByteArray) (e : Ending) : Prop := ∃ (r : Nat) (ok : Bool), e = .returned (.tuple #[.float .f64 r, .bool ok]) ∧ r ≤ 0x7ff0000000000000 ∧
  ∀ T Xs es, HX T Xs → s.data.toList = hxL T Xs es → ok = true ∧ r = fin (fi (hv (fun j => dgv (T.getD j 0)) T.length)) ((if es then (-1 : Int) else 1) * (dv (fun j => (Xs.getD j 0).toNat - 48) Xs.length : Int) - 4 * (T.length : Int))

theorem pw_no {s : ByteArray} (h : ∀ T Xs es, HX T Xs → s.data.toList = hxL T Xs es → False) : PwEnd s (.returned (.tuple #[.float .f64 0, .bool false])) :=
  ⟨0, false, rfl, by omega, fun T Xs es h1 h2 => (h T Xs es h1 h2).elim⟩

/-- What is known behind the digits of base 16. -/
def PA (s : ByteArray) (I M n : Nat) : Prop := 3 ≤ I ∧ I ≤ s.size ∧ n ≤ 13 ∧ M < 2 ^ 53 ∧
  ∀ T Xs es, HX T Xs → s.data.toList = hxL T Xs es → I = 3 + frL T.length ∧ n = T.length ∧ M = hv (fun j => dgv (T.getD j 0)) T.length ∧ s.size = 5 + frL T.length + Xs.length

theorem hv_ext {D E : Nat → Nat} : ∀ n, (∀ j, j < n → D j = E j) → hv D n = hv E n
  | 0, _ => rfl
  | n + 1, h => by
    show hv D n * 16 + D n = hv E n * 16 + E n
    rw [hv_ext n (fun j hj => h j (by omega)), h n (by omega)]
theorem dv_ext {D E : Nat → Nat} : ∀ n, (∀ j, j < n → D j = E j) → dv D n = dv E n
  | 0, _ => rfl
  | n + 1, h => by
    show dv D n * 10 + D n = dv E n * 10 + E n
    rw [dv_ext n (fun j hj => h j (by omega)), h n (by omega)]

theorem sz_hx {s : ByteArray} {T Xs : List UInt8} {es : Bool} (h : s.data.toList = hxL T Xs es) : s.size = 5 + frL T.length + Xs.length := by
  have : s.data.toList.length = s.size := Array.length_toList
  rw [← this, h, hxL_len]

theorem isx_p : ¬ isx 112 := by unfold isx; decide

theorem pa_none {s : ByteArray} (h4 : 4 ≤ s.size) (h : cb s 3 ≠ 46) : PA s 3 1 0 := by
  refine ⟨by omega, by omega, by omega, by decide, fun T Xs es _ hs => ?_⟩
  have hT : T = [] := by
    refine Classical.byContradiction fun hT => h ?_
    unfold cb
    rw [hs]
    have := hxL_at T Xs es 0
    rw [Nat.add_zero] at this
    rw [this]
    unfold ptL
    rw [if_neg hT]
    rfl
  subst hT
  exact ⟨rfl, rfl, rfl, sz_hx hs⟩

/-- The digits of base 16 so far. -/
def PD (s : ByteArray) (M n : Nat) : Prop := n ≤ 13 ∧ 4 + n ≤ s.size ∧ (∀ j, j < n → isx (cb s (4 + j))) ∧ M = hv (fun j => dgv (cb s (4 + j))) n

theorem pd_bd {s : ByteArray} {M n : Nat} (h : PD s M n) : M + 1 ≤ 2 * 16 ^ n := by
  obtain ⟨_, _, h3, rfl⟩ := h
  refine hv_bd (n := n) (fun j hj => ?_) n (Nat.le_refl _)
  have := hx16_is (h3 j hj)
  omega
theorem pd_53 {s : ByteArray} {M n : Nat} (h : PD s M n) : M < 2 ^ 53 := by
  have h1 := pd_bd h
  have h2 : 16 ^ n ≤ 16 ^ 13 := Nat.pow_le_pow_right (by decide) h.1
  have h3 : (2 : Nat) * 16 ^ 13 = 2 ^ 53 := by decide
  omega
theorem pd_next {s : ByteArray} {M n : Nat} (h : PD s M n) (hn : n < 13) (hi : 4 + n < s.size) (hx : isx (cb s (4 + n))) : PD s (M * 16 + hx16 (cb s (4 + n))) (n + 1) := by
  obtain ⟨h1, h2, h3, rfl⟩ := h
  refine ⟨by omega, by omega, fun j hj => ?_, ?_⟩
  · rcases Nat.lt_or_eq_of_le (Nat.le_of_lt_succ hj) with h | h
    · exact h3 j h
    · rw [h]; exact hx
  · rw [(hx16_is hx).1]; rfl

theorem pd_end {s : ByteArray} {M n : Nat} (h : PD s M n) (h46 : cb s 3 = 46) (he : s.size ≤ 4 + n ∨ ¬ isx (cb s (4 + n)) ∨ n = 13) : PA s (4 + n) M n := by
  have hM := pd_53 h
  obtain ⟨h1, h2, h3, rfl⟩ := h
  refine ⟨by omega, by omega, h1, hM, fun T Xs es hX hs => ?_⟩
  obtain ⟨hT, _, ht, hx1, _⟩ := hX
  have hsz := sz_hx hs
  have hT0 : T ≠ [] := fun e => by
    subst e
    unfold cb at h46
    rw [hs] at h46
    exact absurd (show (112 : UInt8) = 46 from h46) (by decide)
  have hfr : frL T.length = T.length + 1 := by
    unfold frL
    rw [if_neg (fun e => hT0 (List.eq_nil_of_length_eq_zero e))]
  have hat : ∀ j, j < T.length → cb s (4 + j) = T.getD j 0 := fun j hj => by
    unfold cb
    rw [hs]
    exact hxL_dig T Xs es j hj
  have hp : cb s (4 + T.length) = 112 := by
    unfold cb
    rw [hs]
    have := hxL_tail T Xs es 0
    rw [hfr, show 3 + (T.length + 1) + 0 = 4 + T.length by omega] at this
    rw [this]
    rfl
  have hn1 : n ≤ T.length := Nat.le_of_not_lt fun h => isx_p (hp ▸ h3 T.length h)
  have hn2 : T.length ≤ n := Nat.le_of_not_lt fun h => by
    rcases he with h' | h' | h'
    · omega
    · exact h' (by rw [hat n h]; exact hT _ (mem_getD h))
    · omega
  have hn : n = T.length := by omega
  subst hn
  refine ⟨by omega, rfl, ?_, hsz⟩
  exact hv_ext _ fun j hj => by rw [hat j hj]

theorem pa_at {s : ByteArray} {I M n : Nat} (h : PA s I M n) {T Xs : List UInt8} {es : Bool} (hX : HX T Xs) (hs : s.data.toList = hxL T Xs es) : I + 2 + Xs.length = s.size ∧ cb s I = 112 ∧ cb s (I + 1) = (if es then 45 else 43) ∧ (∀ j, j < Xs.length → cb s (I + 2 + j) = Xs.getD j 0) := by
  obtain ⟨rfl, rfl, rfl, hz⟩ := h.2.2.2.2 T Xs es hX hs
  refine ⟨by omega, ?_, ?_, fun j hj => ?_⟩
  · have := hxL_tail T Xs es 0
    rw [Nat.add_zero] at this
    unfold cb
    rw [hs, this]
    rfl
  · have := hxL_tail T Xs es 1
    unfold cb
    rw [hs, this]
    cases es <;> rfl
  · have := hxL_tail T Xs es (2 + j)
    unfold cb
    rw [hs, show 3 + frL T.length + 2 + j = 3 + frL T.length + (2 + j) by omega, this]
    show (112 :: _ :: Xs).getD (2 + j) 0 = _
    rw [Nat.add_comm 2 j]
    rfl

/-- The decimal digits so far. -/
def PE (s : ByteArray) (I k E : Nat) : Prop := I + 2 ≤ k ∧ k ≤ s.size ∧ s.size ≤ I + 6 ∧ (∀ j, j < k - (I + 2) → 48 ≤ (cb s (I + 2 + j)).toNat ∧ (cb s (I + 2 + j)).toNat ≤ 57) ∧ E = dv (fun j => (cb s (I + 2 + j)).toNat - 48) (k - (I + 2))

theorem pe_bd {s : ByteArray} {I k E : Nat} (h : PE s I k E) : E < 10000 := by
  obtain ⟨h1, h2, h3, h4, rfl⟩ := h
  have := dv_bd (X := fun j => (cb s (I + 2 + j)).toNat - 48) (n := k - (I + 2)) (fun j hj => by have := h4 j hj; omega) (k - (I + 2)) (Nat.le_refl _)
  have h5 : 10 ^ (k - (I + 2)) ≤ 10 ^ 4 := Nat.pow_le_pow_right (by decide) (by omega)
  omega
theorem pe_next {s : ByteArray} {I k E : Nat} (h : PE s I k E) (hk : k < s.size) (hd : 48 ≤ (cb s k).toNat ∧ (cb s k).toNat ≤ 57) : PE s I (k + 1) (E * 10 + ((cb s k).toNat - 48)) := by
  obtain ⟨h1, h2, h3, h4, rfl⟩ := h
  obtain ⟨q, rfl⟩ : ∃ q, k = I + 2 + q := ⟨k - (I + 2), by omega⟩
  refine ⟨by omega, by omega, h3, fun j hj => ?_, ?_⟩
  · by_cases hq : j = q
    · subst hq; exact hd
    · exact h4 j (by omega)
  · rw [show I + 2 + q + 1 - (I + 2) = (I + 2 + q - (I + 2)) + 1 by omega]
    show _ = dv _ _ * 10 + _
    rw [show I + 2 + q - (I + 2) = q by omega]
theorem pe_bad {s : ByteArray} {I M n k E : Nat} (ha : PA s I M n) (h : PE s I k E) (hk : k < s.size) (hd : ¬ (48 ≤ (cb s k).toNat ∧ (cb s k).toNat ≤ 57)) : ∀ T Xs es, HX T Xs → s.data.toList = hxL T Xs es → False := by
  intro T Xs es hX hs
  obtain ⟨e1, e2, e3, e4⟩ := pa_at ha hX hs
  obtain ⟨h1, h2, h3, h4, rfl⟩ := h
  obtain ⟨q, rfl⟩ : ∃ q, k = I + 2 + q := ⟨k - (I + 2), by omega⟩
  rw [e4 q (by omega)] at hd
  exact hd (hX.2.1 _ (mem_getD (by omega)))
theorem pe_end {s : ByteArray} {I M n E : Nat} {neg : Bool} (ha : PA s I M n) (h : PE s I s.size E) (hn : cb s (I + 1) = (if neg then 45 else 43)) {r : Nat} (hr : r ≤ 0x7ff0000000000000) (hf : fin (fi M) ((if neg then -(E : Int) else (E : Int)) - 4 * (n : Int)) = r) : PwEnd s (.returned (.tuple #[.float .f64 r, .bool true])) := by
  refine ⟨r, true, rfl, hr, fun T Xs es hX hs => ⟨rfl, ?_⟩⟩
  obtain ⟨e1, e2, e3, e4⟩ := pa_at ha hX hs
  obtain ⟨_, rfl, rfl, hz⟩ := ha.2.2.2.2 T Xs es hX hs
  obtain ⟨h1, h2, h3, h4, rfl⟩ := h
  rw [← hf]
  have hes : neg = es := by
    rw [e3] at hn
    cases neg <;> cases es <;> simp at hn <;> rfl
  subst hes
  rw [show s.size - (I + 2) = Xs.length by omega, dv_ext (D := fun j => (cb s (I + 2 + j)).toNat - 48) (E := fun j => (Xs.getD j 0).toNat - 48) Xs.length (fun j hj => by rw [e4 j hj])]
  congr 2
  cases neg
  · simp
  · simp
end Go.Proofs.YtieldmakbokekaaGreatDoor.Oct
