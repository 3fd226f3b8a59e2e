/-
  Texts of hex numbers, plainly.
-/
import Derived.Test.YtieldmakbokekaaGreatDoorRv2
import Derived.Test.YtieldmakbokekaaGreatDoorRxm
import Derived.Test.YtieldmakbokekaaGreatDoorRy
import Derived.Test.YtieldmakbokekaaGreatDoorRt
namespace Go.Proofs.YtieldmakbokekaaGreatDoor.Oct
open Go.RowKit
open Go.Proofs.YtieldmakbokekaaGreatDoor.Fl

theorem ex_shift_to {a : Nat} (h2 : a < 4503599627370496) : ∀ t, t ≤ 52 → 2 ^ (52 - t) ≤ a → ∃ j, 1 ≤ j ∧ j ≤ 52 ∧ 4503599627370496 ≤ a * 2 ^ j ∧ a * 2 ^ j < 9007199254740992 := by
  intro t
  induction t with
  | zero => intro _ h; exact absurd h (by simp; omega)
  | succ t ih =>
    intro ht h
    by_cases h3 : 2 ^ (52 - t) ≤ a
    · exact ih (by omega) h3
    · refine ⟨t + 1, by omega, ht, ?_, ?_⟩
      · have : 2 ^ (52 - (t + 1)) * 2 ^ (t + 1) ≤ a * 2 ^ (t + 1) := Nat.mul_le_mul_right _ h
        rw [← Nat.pow_add, show 52 - (t + 1) + (t + 1) = 52 by omega] at this
        exact this
      · have : a * 2 ^ (t + 1) < 2 ^ (52 - t) * 2 ^ (t + 1) := Nat.mul_lt_mul_of_pos_right (by omega) (Nat.two_pow_pos _)
        rw [← Nat.pow_add, show 52 - t + (t + 1) = 53 by omega] at this
        exact this

theorem ex_shift {a : Nat} (h1 : 0 < a) (h2 : a < 4503599627370496) : ∃ j, 1 ≤ j ∧ j ≤ 52 ∧ 4503599627370496 ≤ a * 2 ^ j ∧ a * 2 ^ j < 9007199254740992 :=
  ex_shift_to h2 52 (Nat.le_refl _) (by simp; omega)

theorem ex_trim (F : Nat) : ∀ t, t ≤ 13 → rs F t = 0 → ∃ k, k ≤ 13 ∧ rs F k = 0 ∧ (0 < k → xd F (k - 1) ≠ 0) := by
  intro t
  induction t with
  | zero => intro h1 h2; exact ⟨0, by omega, h2, fun h => by omega⟩
  | succ t ih =>
    intro ht h
    by_cases h0 : rs F t = 0
    · exact ih (by omega) h0
    · exact ⟨t + 1, ht, h, fun _ => xd_last (by omega) h0 h⟩

def dgv (c : UInt8) : Nat := if c.toNat ≤ 57 then c.toNat - 48 else c.toNat - 87
def isx (c : UInt8) : Prop := (48 ≤ c.toNat ∧ c.toNat ≤ 57) ∨ (97 ≤ c.toNat ∧ c.toNat ≤ 102)
def ptL (T : List UInt8) : List UInt8 := if T = [] then [] else 46 :: T
/-- The text, byte by byte. -/
def hxL (T Xs : List UInt8) (es : Bool) : List UInt8 := 48 :: 120 :: 49 :: (ptL T ++ 112 :: (if es then 45 else 43) :: Xs)

theorem ptL_len (T : List UInt8) : (ptL T).length = frL T.length := by
  unfold ptL frL
  by_cases h : T = []
  · rw [if_pos h, h]; rfl
  · rw [if_neg h, if_neg (by intro e; exact h (List.eq_nil_of_length_eq_zero e))]; rfl

theorem hxL_at (T Xs : List UInt8) (es : Bool) (i : Nat) : (hxL T Xs es).getD (3 + i) 0 = (ptL T ++ 112 :: (if es then 45 else 43) :: Xs).getD i 0 := by
  unfold hxL
  rw [Nat.add_comm]
  rfl

theorem app_r (P R : List UInt8) (i : Nat) : (P ++ R).getD (P.length + i) 0 = R.getD i 0 := by
  rw [List.getD_eq_getElem?_getD, List.getElem?_append_right (by omega), Nat.add_sub_cancel_left, ← List.getD_eq_getElem?_getD]

theorem hxL_tail (T Xs : List UInt8) (es : Bool) (i : Nat) : (hxL T Xs es).getD (3 + frL T.length + i) 0 = (112 :: (if es then 45 else 43) :: Xs).getD i 0 := by
  rw [Nat.add_assoc, hxL_at, ← ptL_len, app_r]

theorem hxL_dig (T Xs : List UInt8) (es : Bool) (j : Nat) (hj : j < T.length) : (hxL T Xs es).getD (4 + j) 0 = T.getD j 0 := by
  have hT : T ≠ [] := by intro e; rw [e] at hj; simp at hj
  rw [show 4 + j = 3 + (1 + j) by omega, hxL_at]
  unfold ptL
  rw [if_neg hT, Nat.add_comm 1 j]
  show (T ++ _).getD j 0 = _
  rw [List.getD_eq_getElem?_getD, List.getElem?_append_left hj, ← List.getD_eq_getElem?_getD]

theorem hxL_len (T Xs : List UInt8) (es : Bool) : (hxL T Xs es).length = 5 + frL T.length + Xs.length := by
  unfold hxL
  simp only [List.length_cons, List.length_append, ptL_len]
  omega

theorem mem_getD {l : List UInt8} {j : Nat} (h : j < l.length) : l.getD j 0 ∈ l := by
  rw [List.getD_eq_getElem?_getD, List.getElem?_eq_getElem h]
  exact List.getElem_mem h

theorem dgv_of {c : UInt8} (h : isx c) : (48 ≤ (c.toNat : Int) ∧ (c.toNat : Int) ≤ 57 ∧ (dgv c : Int) = (c.toNat : Int) - 48) ∨ (97 ≤ (c.toNat : Int) ∧ (c.toNat : Int) ≤ 102 ∧ (dgv c : Int) = (c.toNat : Int) - 87) := by
  unfold dgv
  rcases h with h | h
  · rw [if_pos h.2]; exact .inl (by omega)
  · rw [if_neg (by omega)]; exact .inr (by omega)

theorem sgc (es : Bool) : (((if es then (45 : UInt8) else 43)).toNat : Int) = if es then 45 else 43 := by cases es <;> rfl

theorem hexT_mk (T Xs : List UInt8) (es : Bool) (hT : ∀ c ∈ T, isx c) (hX : ∀ c ∈ Xs, 48 ≤ c.toNat ∧ c.toNat ≤ 57) (ht : T.length ≤ 13) (h1 : 1 ≤ Xs.length) (h4 : Xs.length ≤ 4) :
    HexT ⟨(hxL T Xs es).toArray⟩ T.length Xs.length (fun k => (((hxL T Xs es).getD k 0).toNat : Int)) (fun j => dgv (T.getD j 0)) (fun j => (Xs.getD j 0).toNat - 48) es where
  size := by show (hxL T Xs es).toArray.size = _; rw [List.size_toArray]; exact hxL_len T Xs es
  m0 := h1
  m4 := h4
  n13 := ht
  idx := fun k hk W => idx_str _ k hk W
  c0 := rfl
  c1 := rfl
  c2 := rfl
  c3 := fun hn => by
    have hne : T ≠ [] := by intro e; rw [e] at hn; simp at hn
    have : (hxL T Xs es).getD (3 + 0) 0 = 46 := by rw [hxL_at]; unfold ptL; rw [if_neg hne]; rfl
    show (((hxL T Xs es).getD 3 0).toNat : Int) = 46
    rw [this]; rfl
  cp := by
    have := hxL_tail T Xs es 0
    show (((hxL T Xs es).getD (3 + frL T.length) 0).toNat : Int) = 112
    rw [Nat.add_zero] at this
    rw [this]; rfl
  cz := by
    have := hxL_tail T Xs es 1
    show (((hxL T Xs es).getD (4 + frL T.length) 0).toNat : Int) = _
    rw [show 4 + frL T.length = 3 + frL T.length + 1 by omega, this]
    exact sgc es
  cd := fun j hj => by
    have := hxL_tail T Xs es (j + 2)
    show (((hxL T Xs es).getD (5 + frL T.length + j) 0).toNat : Int) = 48 + (((Xs.getD j 0).toNat - 48 : Nat) : Int)
    rw [show 5 + frL T.length + j = 3 + frL T.length + (j + 2) by omega, this]
    show ((Xs.getD j 0).toNat : Int) = _
    have := hX _ (mem_getD hj)
    omega
  dig := fun j hj => by
    show (48 ≤ (((hxL T Xs es).getD (4 + j) 0).toNat : Int) ∧ _ ∧ (dgv (T.getD j 0) : Int) = _) ∨ _
    rw [hxL_dig T Xs es j hj]
    exact dgv_of (hT _ (mem_getD hj))
  dec := fun j hj => by
    have := hX _ (mem_getD hj)
    show (Xs.getD j 0).toNat - 48 ≤ 9
    omega

theorem hexM_mk (T Xs : List UInt8) (es : Bool) (hT : ∀ c ∈ T, isx c) (hX : ∀ c ∈ Xs, 48 ≤ c.toNat ∧ c.toNat ≤ 57) (ht : T.length ≤ 13) (h1 : 1 ≤ Xs.length) (h4 : Xs.length ≤ 4) :
    HexM ⟨(45 :: hxL T Xs es).toArray⟩ T.length Xs.length (fun k => (((45 :: hxL T Xs es).getD k 0).toNat : Int)) (fun j => dgv (T.getD j 0)) (fun j => (Xs.getD j 0).toNat - 48) es := by
  have h := hexT_mk T Xs es hT hX ht h1 h4
  have st : ∀ k, (45 :: hxL T Xs es).getD (k + 1) 0 = (hxL T Xs es).getD k 0 := fun k => rfl
  exact {
    size := by show (45 :: hxL T Xs es).toArray.size = _; rw [List.size_toArray, List.length_cons, hxL_len]; omega
    m0 := h1
    m4 := h4
    n13 := ht
    idx := fun k hk W => idx_str _ k hk W
    cm := rfl
    c0 := rfl
    c1 := rfl
    c2 := rfl
    c3 := fun hn => h.c3 hn
    cp := by
      show (((45 :: hxL T Xs es).getD (4 + frL T.length) 0).toNat : Int) = 112
      rw [show 4 + frL T.length = (3 + frL T.length) + 1 by omega, st]
      exact h.cp
    cz := by
      show (((45 :: hxL T Xs es).getD (5 + frL T.length) 0).toNat : Int) = _
      rw [show 5 + frL T.length = (4 + frL T.length) + 1 by omega, st]
      exact h.cz
    cd := fun j hj => by
      show (((45 :: hxL T Xs es).getD (6 + frL T.length + j) 0).toNat : Int) = _
      rw [show 6 + frL T.length + j = (5 + frL T.length + j) + 1 by omega, st]
      exact h.cd j hj
    dig := fun j hj => by
      have e : ((45 :: hxL T Xs es).getD (5 + j) 0) = (hxL T Xs es).getD (4 + j) 0 := by
        rw [show 5 + j = (4 + j) + 1 by omega, st]
      show (48 ≤ (((45 :: hxL T Xs es).getD (5 + j) 0).toNat : Int) ∧ (((45 :: hxL T Xs es).getD (5 + j) 0).toNat : Int) ≤ 57 ∧ _ = (((45 :: hxL T Xs es).getD (5 + j) 0).toNat : Int) - 48) ∨ (97 ≤ (((45 :: hxL T Xs es).getD (5 + j) 0).toNat : Int) ∧ (((45 :: hxL T Xs es).getD (5 + j) 0).toNat : Int) ≤ 102 ∧ _ = (((45 :: hxL T Xs es).getD (5 + j) 0).toNat : Int) - 87)
      rw [e]
      exact h.dig j hj
    dec := h.dec }

/-- The digits of the fraction, and what they come to. -/
theorem hv_xd {F k : Nat} (hF : F < 4503599627370496) {D : Nat → Nat} (hD : ∀ j, j < k → D j = xd F j) (hk : k ≤ 13) : ∀ j, j ≤ k → hv D j = (4503599627370496 + F) / 16 ^ (13 - j) := by
  intro j
  induction j with
  | zero =>
    intro _
    show 1 = (4503599627370496 + F) / 16 ^ 13
    have : (16 : Nat) ^ 13 = 4503599627370496 := by decide
    rw [this]
    omega
  | succ j ih =>
    intro hj
    rw [hv, ih (by omega), hD j (by omega)]
    have e13 : (4503599627370496 : Nat) = 16 ^ (j + 1) * 16 ^ (12 - j) := by rw [← Nat.pow_add, show j + 1 + (12 - j) = 13 by omega]
    have hp : 0 < 16 ^ (12 - j) := Nat.pow_pos (by decide)
    have e1 : (4503599627370496 + F) / 16 ^ (12 - j) = 16 ^ (j + 1) + F / 16 ^ (12 - j) := by
      rw [e13, Nat.mul_comm, Nat.mul_add_div hp]
    have e2 : 16 ^ (13 - j) = 16 ^ (12 - j) * 16 := by rw [show 13 - j = (12 - j) + 1 by omega, Nat.pow_succ]
    rw [e2, ← Nat.div_div_eq_div_mul, show 13 - (j + 1) = 12 - j by omega, e1]
    unfold xd
    generalize F / 16 ^ (12 - j) = G
    have : 16 ^ (j + 1) = 16 * 16 ^ j := by rw [Nat.pow_succ, Nat.mul_comm]
    rw [this]
    generalize 16 ^ j = H
    omega

theorem hv_whole {F k : Nat} (hF : F < 4503599627370496) {D : Nat → Nat} (hD : ∀ j, j < k → D j = xd F j) (hk : k ≤ 13) (hz : rs F k = 0) : hv D k * 16 ^ (13 - k) = 4503599627370496 + F := by
  rw [hv_xd hF hD hk k (Nat.le_refl _)]
  refine Nat.div_mul_cancel ?_
  have e13 : (4503599627370496 : Nat) = 16 ^ k * 16 ^ (13 - k) := by rw [← Nat.pow_add, show k + (13 - k) = 13 by omega]
  exact Nat.dvd_add (by rw [e13]; exact Nat.dvd_mul_left _ _) (Nat.dvd_of_mod_eq_zero (rs_zero.1 hz))

theorem dv_num (Xs : List UInt8) : ∀ j, dv (fun j => (Xs.getD j 0).toNat - 48) j = num (Xs.map UInt8.toNat) j := by
  intro j
  induction j with
  | zero => rfl
  | succ j ih =>
    rw [dv, num, ih]
    have : (Xs.map UInt8.toNat).getD j 0 = (Xs.getD j 0).toNat := by
      rw [List.getD_eq_getElem?_getD, List.getElem?_map, List.getD_eq_getElem?_getD]
      cases Xs[j]? <;> rfl
    rw [this]
    omega

theorem hxd_ok : ∀ i : Fin 16, isx (UInt8.ofNat (hxd i.val)) ∧ dgv (UInt8.ofNat (hxd i.val)) = i.val := by
  unfold isx
  decide
end Go.Proofs.YtieldmakbokekaaGreatDoor.Oct

/-
  internal/strconv's special and atof64, and real.Read, at texts -0x1.hhhp+dd.
-/
namespace Go.Proofs.YtieldmakbokekaaGreatDoor.Oct
open Go.RowKit
open Go.Proofs.YtieldmakbokekaaGreatDoor.Fl

set_option maxHeartbeats 1000000 in
set_option maxRecDepth 100000 in
/-- A text that begins with 0 shares nothing with the word. -/
theorem cpl_no (t : ByteArray) (w : World) (hs : (1 : Int) ≤ (t.size : Int)) (_hm : (t.size : Int) ≤ 4611686018427387904)
    (i0 : ∀ W, (Instr.index 9 (.string t) (.int .i64 0)).run Tryz.prog W = .ok (.int .u8 48) W) :
    Calls Tryz.prog 116 #[.string t, .string ⟨#[105, 110, 102, 105, 110, 105, 116, 121]⟩] w fun e w' => e = .returned (.int .i64 0) ∧ w = w' := by
  go_enter Tryz.func116, Tryz.ntmps116
  go_wp2_with fail
  go_loop [6] (fun i => i = .int .i64 0) (fun _ => 0)
  case atStart => rfl
  case round =>
    subst hrel
    have ip : ∀ W, (Instr.index 9 (.string ⟨#[105, 110, 102, 105, 110, 105, 116, 121]⟩) (.int .i64 0)).run Tryz.prog W = .ok (.int .u8 105) W := fun W => idx_str ⟨#[105, 110, 102, 105, 110, 105, 116, 121]⟩ 0 (by decide) W
    go_wp2
    go_ret
    exact ⟨rfl, rfl⟩

set_option maxHeartbeats 1000000 in
set_option maxRecDepth 100000 in
theorem specialm_no (s t : ByteArray) (w : World) (hs : (7 : Int) ≤ (s.size : Int)) (hm : (s.size : Int) ≤ 31) (_hse : ¬ s = ByteArray.empty)
    (i0 : ∀ W, (Instr.index 9 (.string s) (.int .i64 0)).run Tryz.prog W = .ok (.int .u8 45) W)
    (hsl : ∀ W, (Instr.slice 9 (.string s) (some (.int .i64 1)) none none).run Tryz.prog W = .ok (.string t) W)
    (hts : (1 : Int) ≤ (t.size : Int)) (htm : (t.size : Int) ≤ 31)
    (it : ∀ W, (Instr.index 9 (.string t) (.int .i64 0)).run Tryz.prog W = .ok (.int .u8 48) W) :
    Calls Tryz.prog 103 #[.string s] w fun e w' => e = .returned (.tuple #[.float .f64 0, .int .i64 0, .bool false]) ∧ w = w' := by
  have c := cpl_no t w hts (by omega) it
  clear it
  go_enter Tryz.func103, Tryz.ntmps103
  go_wp2_with fail
  refine c.mono ?_
  clear c
  rintro e w' ⟨rfl, rfl⟩
  go_wp2_with fail
  exact bodyPost_ret (results_tmp3 rfl _ _ _) rfl ⟨rfl, rfl⟩

set_option maxHeartbeats 1000000 in
set_option maxRecDepth 100000 in
theorem atof64m_any (s t : ByteArray) (n m : Nat) (ch : Nat → Int) (D X : Nat → Nat) (es : Bool) (h : HexM s n m ch D X es) (ht : s.data.toList = 45 :: t.data.toList) (w : World) (hF : Fi w) (r : Nat)
    (hh : ∀ (w' : World), Fi w' → Calls Tryz.prog 105 #[.string s, .pointer (some ⟨9, 0, none⟩), .int .u64 (hv D n : Nat), .int .i64 ((if es then -1 else 1) * (dv X m : Int) - 4 * (n : Int)), .bool true, .bool false] w' fun e w'' => e = .returned (.tuple #[.float .f64 r, .nilIface]) ∧ Below w'.heap.size w' w'') :
    Calls Tryz.prog 95 #[.string s] w fun e w' => e = .returned (.tuple #[.float .f64 r, .int .i64 (s.size : Nat), .nilIface]) ∧ Below w.heap.size w w' := by
  have hsz := h.size
  have hfr : frL n ≤ 14 := by have := h.n13; unfold frL; split <;> omega
  have hs : (7 : Int) ≤ (s.size : Int) := by have := h.m0; omega
  have hm : (s.size : Int) ≤ 31 := by have := h.m4; omega
  have hse : ¬ s = ByteArray.empty := fun e => by rw [e] at hs; exact absurd hs (by decide)
  have i0 : ∀ W, (Instr.index 9 (.string s) (.int .i64 0)).run Tryz.prog W = .ok (.int .u8 45) W := fun W => by have := h.idx 0 (by omega) W; rw [h.cm] at this; exact this
  have hst : s.size = t.size + 1 := by
    have := congrArg List.length ht
    simpa using this
  have hex : s.extract 1 s.size = t := by
    refine ba_eq ?_
    have hd : s.data = (45 :: t.data.toList).toArray := by rw [← ht]
    simp [ByteArray.data_extract, hd]
    exact List.take_of_length_le (by have : t.data.toList.length = t.size := Array.length_toList
                                     omega)
  have hsl : ∀ W, (Instr.slice 9 (.string s) (some (.int .i64 1)) none none).run Tryz.prog W = .ok (.string t) W := fun W => by
    rw [run_slice_string_l W 9 s Tryz.underlying9 .i64 1 (by omega) (by omega)]
    rw [show (1 : Int).toNat = 1 from rfl, hex]
  have it : ∀ W, (Instr.index 9 (.string t) (.int .i64 0)).run Tryz.prog W = .ok (.int .u8 48) W := fun W => by
    have e1 := h.idx 1 (by omega) W
    rw [h.c0] at e1
    have e2 := idx_str s 1 (by omega) W
    have e3 := idx_str t 0 (by omega) W
    rw [ht] at e2
    have e4 : (Value.int .u8 48) = .int .u8 ((((45 :: t.data.toList).getD 1 0).toNat : Int)) := by
      have := e1.symm.trans e2
      simpa using this
    have e5 : ((45 :: t.data.toList).getD 1 0) = t.data.toList.getD 0 0 := rfl
    rw [e5] at e4
    rw [← e4] at e3
    exact e3
  have c1 := specialm_no s t w hs hm hse i0 hsl (by omega) (by omega) it
  have c2 := rfm_any s n m ch D X es h w
  obtain ⟨R, hR⟩ : ∃ R, (if es then (-1 : Int) else 1) * (dv X m : Int) - 4 * (n : Int) = R := ⟨_, rfl⟩
  rw [hR] at c2 hh
  have c3 := hh w hF
  have hz : s.extract 0 s.size = s := ByteArray.extract_zero_size
  clear hh hR i0 h hsl it hex hst hsz hfr ht
  go_enter Tryz.func95, Tryz.ntmps95
  go_wp2_with fail
  refine c1.mono ?_
  clear c1
  rintro e w1 ⟨rfl, rfl⟩
  go_wp2_with fail
  refine c2.mono ?_
  clear c2
  rintro e w1 ⟨rfl, rfl⟩
  go_wp2_with fail
  refine c3.mono ?_
  clear c3
  rintro e w1 ⟨rfl, hb⟩
  have HB : Hid (Below w.heap.size w w1) := hb
  clear hb
  go_wp2
  exact bodyPost_ret (results_tmp3 rfl _ _ _) rfl ⟨rfl, HB.out⟩

set_option maxHeartbeats 2000000 in
/-- Read of a text that begins with -0x is what shown says. -/
theorem read_hexm (s t : ByteArray) (w : World) (r : Nat) (ok : Bool) (hp : s.data.toList = 45 :: t.data.toList) (hx : Lib.hasPrefix t.data.toList [48, 120] = true)
    (e1 : (s.toList == [110, 97, 110]) = false) (e2 : (s.toList == [105, 110, 102]) = false) (e3 : (s.toList == [45, 105, 110, 102]) = false)
    (c : Calls Tryz.prog 26 #[.string s] w fun e w' => e = .returned (.tuple #[.float .f64 r, .bool ok]) ∧ Below w.heap.size w w') :
    Calls Tryz.prog 7 #[.string s] w fun e w' => e = .returned (.tuple #[.float .f64 r, .bool ok]) ∧ Below w.heap.size w w' := by
  have hcp := cutp_yes t s w hp
  have hhx := hasx_yes t w hx
  clear hp hx
  go_enter Tryz.func7, Tryz.ntmps7
  go_wp2_with fail
  refine hcp.mono ?_
  clear hcp
  rintro e w1 ⟨rfl, rfl⟩
  go_wp2_with fail
  refine hhx.mono ?_
  clear hhx
  rintro e w1 ⟨rfl, rfl⟩
  go_wp2_with fail
  refine c.mono ?_
  clear c
  rintro e w1 ⟨rfl, hb⟩
  have HB : Hid (Below w.heap.size w w1) := hb
  clear hb
  go_wp2
  go_ret2
  exact ⟨rfl, HB.out⟩
end Go.Proofs.YtieldmakbokekaaGreatDoor.Oct

/-
  real.Read at the texts that Show says.
-/
namespace Go.Proofs.YtieldmakbokekaaGreatDoor.Oct
open Go.RowKit
open Go.Proofs.YtieldmakbokekaaGreatDoor.Fl

/-- A hex number's parts: fraction, exponent, and how it is put together again. -/
theorem hex_parts {a : Nat} (h0 : 0 < a) (h1 : a < 0x7ff0000000000000) : ∃ (F d q X : Nat) (Z : Int), F = fb a % 4503599627370496 ∧ Z = fk a + (fb a / 4503599627370496 : Nat) - 1023 ∧ -1074 ≤ Z ∧ Z ≤ 1023 ∧
    ((d = 0 ∧ -1022 ≤ Z) ∨ (0 < d ∧ Z + (d : Int) = -1022)) ∧ 4503599627370496 + F = 2 ^ d * q ∧ 0 < q ∧ ((4503599627370496 ≤ q ∧ (X : Int) = Z + (d : Int) + 1023) ∨ (q < 4503599627370496 ∧ X = 0)) ∧ X * 4503599627370496 + q % 4503599627370496 = a := by
  by_cases hs : a < 4503599627370496
  · obtain ⟨j, j1, j2, j3, j4⟩ := ex_shift h0 hs
    obtain ⟨f1, f2⟩ := fb_shift hs j2 j3 j4
    refine ⟨fb a % 4503599627370496, j, a, 0, fk a + (fb a / 4503599627370496 : Nat) - 1023, rfl, rfl, by omega, by omega, .inr ⟨by omega, by omega⟩, by rw [f1, Nat.mul_comm], h0, .inr ⟨hs, rfl⟩, ?_⟩
    rw [Nat.mod_eq_of_lt hs, Nat.zero_mul, Nat.zero_add]
  · obtain ⟨f1, f2⟩ := fb_norm (a := a) (by omega)
    refine ⟨fb a % 4503599627370496, 0, 4503599627370496 + a % 4503599627370496, a / 4503599627370496, fk a + (fb a / 4503599627370496 : Nat) - 1023, rfl, rfl, ?_, ?_, .inl ⟨rfl, ?_⟩, ?_, by omega, .inl ⟨by omega, ?_⟩, ?_⟩
    · rw [f1, f2]; omega
    · rw [f1, f2]; omega
    · rw [f1, f2]; omega
    · rw [f1]; omega
    · rw [f1, f2]; omega
    · omega

/-- Show's own text of a hex number, byte by byte. -/
theorem hxs_text (a : Nat) (Z : Int) (hZ : Z = fk a + (fb a / 4503599627370496 : Nat) - 1023) : hxs a = ⟨(hxL (hxt a) (Lib.decDigits Z.natAbs) (decide (Z < 0))).toArray⟩ := by
  unfold hxs hxe
  rw [← hZ]
  refine ba_eq ?_
  unfold hxL ptL
  by_cases hn : Z < 0
  · have e : Lib.itoa Z = 45 :: Lib.decDigits Z.natAbs := by unfold Lib.itoa; rw [if_pos hn]
    rw [if_pos hn, e, decide_eq_true hn]
    by_cases ht : hxt a = []
    · rw [if_pos ht, if_pos ht]; simp [ByteArray.data_append]
    · rw [if_neg ht, if_neg ht]; simp [ByteArray.data_append]
  · have e : Lib.itoa Z = Lib.decDigits Z.natAbs := by unfold Lib.itoa; rw [if_neg hn]; congr 1; omega
    rw [if_neg hn, e, decide_eq_false hn]
    by_cases ht : hxt a = []
    · rw [if_pos ht, if_pos ht]; simp [ByteArray.data_append]
    · rw [if_neg ht, if_neg ht]; simp [ByteArray.data_append]

structure HexOf (a : Nat) (T Xs : List UInt8) (Z : Int) : Prop where
  hT : ∀ c ∈ T, isx c
  hX : ∀ c ∈ Xs, 48 ≤ c.toNat ∧ c.toNat ≤ 57
  ht : T.length ≤ 13
  h1 : 1 ≤ Xs.length
  h4 : Xs.length ≤ 4
  tx : hxs a = ⟨(hxL T Xs (decide (Z < 0))).toArray⟩
  ex : (if decide (Z < 0) then (-1 : Int) else 1) * (dv (fun j => (Xs.getD j 0).toNat - 48) Xs.length : Int) = Z
  atof : ∀ (s : ByteArray) (neg : Bool) (w : World), Fi w → Calls Tryz.prog 105 #[.string s, .pointer (some ⟨9, 0, none⟩), .int .u64 (hv (fun j => dgv (T.getD j 0)) T.length : Nat), .int .i64 (Z - 4 * (T.length : Int)), .bool neg, .bool false] w fun e w' => e = .returned (.tuple #[.float .f64 (a + if neg then 9223372036854775808 else 0), .nilIface]) ∧ Below w.heap.size w w'

theorem hexOf {a : Nat} (h0 : 0 < a) (h1 : a < 0x7ff0000000000000) : ∃ T Xs Z, HexOf a T Xs Z := by
  obtain ⟨F, d, q, X, Z, hF, hZ, hz0, hz1, hd, hq, hq0, hX, hre⟩ := hex_parts h0 h1
  obtain ⟨k, k13, krs, kx⟩ := ex_trim F 13 (Nat.le_refl _) (rs_end F)
  have hFb : F < 4503599627370496 := by rw [hF]; exact Nat.mod_lt _ (by decide)
  have hT : hxt a = (xl F).take k := by
    have := hxt_at (a := a) k13 (by rw [← hF]; exact krs) (by rw [← hF]; exact kx)
    rw [← hF] at this
    exact this
  have hTl : (hxt a).length = k := by rw [hT, List.length_take, xl_len]; omega
  have hTat : ∀ j, j < k → (hxt a).getD j 0 = UInt8.ofNat (hxd (xd F j)) := fun j hj => by
    rw [hT, List.getD_eq_getElem?_getD, List.getElem?_take_of_lt hj, xl_get F j (by omega)]
    rfl
  have hxd16 : ∀ j, xd F j < 16 := fun j => Nat.mod_lt _ (by decide)
  have hD : ∀ j, j < k → dgv ((hxt a).getD j 0) = xd F j := fun j hj => by
    rw [hTat j hj]
    exact (hxd_ok ⟨xd F j, hxd16 j⟩).2
  have hlen4 : (Lib.decDigits Z.natAbs).length ≤ 4 := dd_len 3 _ (by omega)
  have hM := hv_whole hFb hD k13 krs
  refine ⟨hxt a, Lib.decDigits Z.natAbs, Z, ?_, ?_, by omega, ?_, hlen4, hxs_text a Z hZ, ?_, ?_⟩
  · intro c hc
    obtain ⟨j, hj, rfl⟩ := List.getElem_of_mem hc
    have e : (hxt a)[j] = (hxt a).getD j 0 := by rw [List.getD_eq_getElem?_getD, List.getElem?_eq_getElem hj]; rfl
    rw [e, hTat j (by omega)]
    exact (hxd_ok ⟨xd F j, hxd16 j⟩).1
  · intro c hc
    have := List.all_eq_true.1 (dd_all Z.natAbs) c hc
    unfold dgU dgB at this
    simpa using this
  · have hn := dd_num Z.natAbs
    by_cases hl : (Lib.decDigits Z.natAbs).length = 0
    · exfalso
      have e := Lib.decDigits_length Z.natAbs
      rw [hl] at e
      unfold Lib.nDigits at e
      split at e <;> omega
    · omega
  · rw [dv_num, dd_num]
    by_cases hn : Z < 0
    · rw [decide_eq_true hn]; simp; omega
    · rw [decide_eq_false hn]; simp; omega
  · intro s neg w hFi
    rw [hTl]
    obtain ⟨M, hMe⟩ : ∃ M, hv (fun j => dgv ((hxt a).getD j 0)) k = M := ⟨_, rfl⟩
    rw [hMe] at hM ⊢
    have hp : M * 2 ^ (4 * (13 - k) + 2) = 4 * (4503599627370496 + F) := by
      rw [Nat.pow_add, Nat.pow_mul, show (2 : Nat) ^ 4 = 16 from rfl, ← Nat.mul_assoc, hM, Nat.mul_comm]
    have hM0 : 0 < M := by
      rcases Nat.eq_zero_or_pos M with h | h
      · rw [h, Nat.zero_mul] at hM; omega
      · exact h
    have := hexf s M (4 * (13 - k) + 2) d q X (Z - 4 * (k : Int)) (Z - 2) neg w hFi hM0 (by rw [hp]; omega) (by rw [hp]; omega) (by omega) (by omega) (by omega) (by omega)
      (by rcases hd with ⟨h, h'⟩ | ⟨h, h'⟩
          · exact .inl ⟨h, by omega⟩
          · exact .inr ⟨h, by omega⟩)
      (by rw [hp, hq, Nat.mul_assoc]) hq0
      (by rcases hd with ⟨h, h'⟩ | ⟨h, h'⟩
          · omega
          · omega)
      (by rcases hX with ⟨h, h'⟩ | ⟨h, h'⟩
          · exact .inl ⟨h, by omega⟩
          · exact .inr ⟨h, h'⟩)
    rw [hre] at this
    exact this

theorem hxL_x (T Xs : List UInt8) (es : Bool) : Lib.hasPrefix (hxL T Xs es) [48, 120] = true := rfl
theorem hxL_m (T Xs : List UInt8) (es : Bool) : Lib.hasPrefix (hxL T Xs es) [45] = false := rfl

/-- A hex number without a sign is read. -/
theorem read_hxp {a : Nat} (h0 : 0 < a) (h1 : a < 0x7ff0000000000000) (w : World) (hF : Fi w) (hsh : ∀ w1, Below w.heap.size w w1 → Calls Tryz.prog 6 #[.float .f64 a] w1 fun e w' => e = .returned (.string (hxs a)) ∧ Below w1.heap.size w1 w') :
    Calls Tryz.prog 7 #[.string (hxs a)] w fun e w' => e = .returned (.tuple #[.float .f64 a, .bool true]) ∧ Below w.heap.size w w' := by
  obtain ⟨T, Xs, Z, h⟩ := hexOf h0 h1
  rw [h.tx] at hsh ⊢
  have ht := hexT_mk T Xs (decide (Z < 0)) h.hT h.hX h.ht h.h1 h.h4
  have hat := atof64_any _ _ _ _ _ _ _ ht w hF a (fun w' hF' => by
    have := h.atof ⟨(hxL T Xs (decide (Z < 0))).toArray⟩ false w' hF'
    rw [h.ex]
    exact this)
  refine read_hex _ w a true (hxL_m T Xs _) (hxL_x T Xs _) ?_ ?_ ?_ (shown_yes _ w a hat hsh)
  · rw [tl_mk]; rfl
  · rw [tl_mk]; rfl
  · rw [tl_mk]; rfl

/-- A hex number with a sign is read. -/
theorem read_hxn {a : Nat} (h0 : 0 < a) (h1 : a < 0x7ff0000000000000) (w : World) (hF : Fi w) (hsh : ∀ w1, Below w.heap.size w w1 → Calls Tryz.prog 6 #[.float .f64 (a + 9223372036854775808)] w1 fun e w' => e = .returned (.string ((⟨#[45]⟩ : ByteArray) ++ hxs a)) ∧ Below w1.heap.size w1 w') :
    Calls Tryz.prog 7 #[.string ((⟨#[45]⟩ : ByteArray) ++ hxs a)] w fun e w' => e = .returned (.tuple #[.float .f64 (a + 9223372036854775808), .bool true]) ∧ Below w.heap.size w w' := by
  obtain ⟨T, Xs, Z, h⟩ := hexOf h0 h1
  have e : (⟨#[45]⟩ : ByteArray) ++ hxs a = ⟨(45 :: hxL T Xs (decide (Z < 0))).toArray⟩ := by
    rw [h.tx]
    exact app_mk [45] (hxL T Xs (decide (Z < 0)))
  rw [e] at hsh ⊢
  have ht := hexM_mk T Xs (decide (Z < 0)) h.hT h.hX h.ht h.h1 h.h4
  have hat := atof64m_any _ ⟨(hxL T Xs (decide (Z < 0))).toArray⟩ _ _ _ _ _ _ ht rfl w hF (a + 9223372036854775808) (fun w' hF' => by
    have := h.atof ⟨(45 :: hxL T Xs (decide (Z < 0))).toArray⟩ true w' hF'
    rw [h.ex]
    exact this)
  refine read_hexm _ ⟨(hxL T Xs (decide (Z < 0))).toArray⟩ w _ true rfl (hxL_x T Xs _) ?_ ?_ ?_ (shown_yes _ w _ hat hsh)
  · rw [tl_mk]; rfl
  · rw [tl_mk]; rfl
  · rw [tl_mk]; rfl
end Go.Proofs.YtieldmakbokekaaGreatDoor.Oct
