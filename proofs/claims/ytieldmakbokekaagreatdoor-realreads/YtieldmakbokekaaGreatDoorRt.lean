/-
  The document's Show, plainly: its shifting, its whole numbers.
-/
import Derived.Test.YtieldmakbokekaaGreatDoorSh
import Derived.Test.YtieldmakbokekaaGreatDoorRf
import Derived.Lib.ItoaNum
import Derived.Laws.BytesString
import Derived.Laws.BitsAllLaws
namespace Go.Proofs.YtieldmakbokekaaGreatDoor.Oct
open Go.RowKit
open Go.Proofs.YtieldmakbokekaaGreatDoor.Fl

/-- A number below the normal ones, shifted up by j. -/
theorem fx_shift {a j : Nat} (h : a < 4503599627370496) (hj : j ≤ 52) (h1 : 4503599627370496 ≤ a * 2 ^ j) (h2 : a * 2 ^ j < 9007199254740992) :
    fx a = (53 - j) * 4503599627370496 + (a * 2 ^ j - 4503599627370496) := by
  apply V_inj
  rw [fx_V h, V_at _ (52 - j) (a * 2 ^ j - 4503599627370496) (by rw [show 53 - j = 52 - j + 1 by omega]) (by omega), show 2 ^ 52 + (a * 2 ^ j - 4503599627370496) = a * 2 ^ j by omega, pw_eq, Nat.mul_assoc, ← Nat.pow_add, show j + (52 - j) = 52 by omega]

theorem fb_shift {a j : Nat} (h : a < 4503599627370496) (hj : j ≤ 52) (h1 : 4503599627370496 ≤ a * 2 ^ j) (h2 : a * 2 ^ j < 9007199254740992) :
    4503599627370496 + fb a % 4503599627370496 = a * 2 ^ j ∧ fk a + (fb a / 4503599627370496 : Nat) = 1 - (j : Int) := by
  unfold fb fk
  rw [if_pos h, if_pos h, fx_shift h hj h1 h2]
  generalize a * 2 ^ j = M at h1 h2
  omega

theorem fb_norm {a : Nat} (h : 4503599627370496 ≤ a) : fb a = a ∧ fk a = 0 := by
  unfold fb fk
  rw [if_neg (by omega), if_neg (by omega)]
  exact ⟨rfl, rfl⟩

/-- A number is whole if its places behind the point are 0. -/
theorem whole_dvd {a : Nat} (ha : a < 0x7ff0000000000000) : (fi (wh a) = a) ↔ V a % pw 1074 = 0 := by
  have h := wh_exact ha
  have hd : wh a = V a / pw 1074 := rfl
  constructor
  · intro e
    rw [e] at h
    rw [h]
    exact Nat.mul_mod_left _ _
  · intro e
    apply V_inj
    rw [h, hd]
    exact Nat.div_mul_cancel (Nat.dvd_of_mod_eq_zero e)

/-- Of a normal number with the exponent E: the parts that the document asks for. -/
theorem whole_parts {a E M : Nat} (hE : 1 ≤ E) (hE2 : E < 2047) (hM1 : 4503599627370496 ≤ M) (hM2 : M < 9007199254740992) (e : a = E * 4503599627370496 + (M - 4503599627370496)) :
    V a = M * pw (E - 1) := by
  rw [V_at a (E - 1) (M - 4503599627370496) (by rw [e, show E - 1 + 1 = E by omega]) (by omega), show 2 ^ 52 + (M - 4503599627370496) = M by omega]

theorem whole_low {a E M : Nat} (hE : 1 ≤ E) (hE2 : E < 1023) (hM1 : 4503599627370496 ≤ M) (hM2 : M < 9007199254740992) (e : a = E * 4503599627370496 + (M - 4503599627370496)) : ¬ fi (wh a) = a := by
  rw [whole_dvd (by omega), whole_parts hE (by omega) hM1 hM2 e]
  have h1 : M * pw (E - 1) < pw 1074 := by
    have h2 : pw 1074 = 2 ^ 53 * pw 1021 := by rw [pw_mul]
    have h3 : pw (E - 1) ≤ pw 1021 := pw_le (by omega)
    rw [h2]
    exact Nat.lt_of_lt_of_le (Nat.mul_lt_mul_of_pos_right (show M < 2 ^ 53 by omega) (pw_pos _)) (Nat.mul_le_mul_left _ h3)
  rw [Nat.mod_eq_of_lt h1]
  have h4 := pw_pos (E - 1)
  have : 0 < M * pw (E - 1) := Nat.mul_pos (by omega) h4
  omega

theorem whole_mid {a M k : Nat} (hk : k ≤ 52) (hM1 : 4503599627370496 ≤ M) (hM2 : M < 9007199254740992) (e : a = (1023 + k) * 4503599627370496 + (M - 4503599627370496)) :
    (fi (wh a) = a ↔ M % 2 ^ (52 - k) = 0) ∧ wh a = M / 2 ^ (52 - k) := by
  have hV := whole_parts (a := a) (E := 1023 + k) (by omega) (by omega) hM1 hM2 e
  have hp : pw 1074 = 2 ^ (52 - k) * pw (1023 + k - 1) := by rw [pw_mul]; congr 1; omega
  have hpos := pw_pos (1023 + k - 1)
  refine ⟨?_, ?_⟩
  · rw [whole_dvd (by omega), hV, hp, Nat.mul_mod_mul_right]
    constructor
    · intro h
      rcases Nat.mul_eq_zero.1 h with h | h
      · exact h
      · omega
    · intro h; rw [h, Nat.zero_mul]
  · unfold wh
    rw [hV, hp, Nat.mul_div_mul_right _ _ hpos]

theorem whole_size {a : Nat} (ha : a < 0x7ff0000000000000) (hw : fi (wh a) = a) : a < 4831355200913801216 ↔ wh a < 1000000000000000 := by
  have h := wh_exact ha
  rw [hw] at h
  have hb : V 4831355200913801216 = 1000000000000000 * pw 1074 := by
    rw [V_at 4831355200913801216 1071 (8000000000000000 - 4503599627370496) (by decide) (by decide), show 2 ^ 52 + (8000000000000000 - 4503599627370496) = 1000000000000000 * 2 ^ 3 by decide, Nat.mul_assoc, pw_mul]
  have hp := pw_pos 1074
  constructor
  · intro g
    have := V_lt g
    rw [h, hb] at this
    exact Nat.lt_of_mul_lt_mul_right this
  · intro g
    refine Nat.lt_of_not_le fun hge => ?_
    have := V_le hge
    rw [h, hb] at this
    have := Nat.le_of_mul_le_mul_right this hp
    omega

end Go.Proofs.YtieldmakbokekaaGreatDoor.Oct

/-
  The document's hex digits, plainly.
-/
namespace Go.Proofs.YtieldmakbokekaaGreatDoor.Oct
open Go.RowKit
open Go.Proofs.YtieldmakbokekaaGreatDoor.Fl

/-- The k-th hex digit of 13. -/
def xd (f k : Nat) : Nat := f / 16 ^ (12 - k) % 16
def xl (f : Nat) : List UInt8 := (List.range 13).map fun k => UInt8.ofNat (hxd (xd f k))

theorem hx14_tail (f : Nat) : (hx14 (4503599627370496 + f)).tail = xl f := by
  unfold hx14 xl
  rw [show List.range 14 = 0 :: (List.range 13).map (· + 1) by decide, List.map_cons, List.tail_cons, List.map_map]
  refine List.map_congr_left fun k hk => ?_
  have hk : k < 13 := List.mem_range.1 hk
  show UInt8.ofNat (hxd ((4503599627370496 + f) / 16 ^ (13 - (k + 1)) % 16)) = _
  unfold xd
  rw [show 13 - (k + 1) = 12 - k by omega]
  have h1 : 4503599627370496 = 16 ^ (12 - k) * (16 * 16 ^ k) := by
    rw [← Nat.mul_assoc, ← Nat.pow_succ, ← Nat.pow_add, show (12 - k).succ + k = 13 by omega]
  rw [h1, Nat.mul_add_div (Nat.pow_pos (by decide)), Nat.mul_add_mod]

theorem xl_len (f : Nat) : (xl f).length = 13 := by unfold xl; simp

theorem xl_get (f k : Nat) (hk : k < 13) : (xl f)[k]? = some (UInt8.ofNat (hxd (xd f k))) := by
  unfold xl
  rw [List.getElem?_map, List.getElem?_range hk]
  rfl

theorem hxd_zero {z : Nat} (h : z < 16) : UInt8.ofNat (hxd z) = 48 ↔ z = 0 := by
  have : ∀ z : Fin 16, UInt8.ofNat (hxd z.val) = 48 ↔ z.val = 0 := by decide
  exact this ⟨z, h⟩

/-- The digits up to the last one that is not 0. -/
theorem trim_at {f k : Nat} (hk : k ≤ 13) (h1 : f % 16 ^ (13 - k) = 0) (h2 : 0 < k → xd f (k - 1) ≠ 0) : Lib.trimRightB (xl f) 48 = (xl f).take k := by
  apply Lib.trimRightB_take _ _ _ (by rw [xl_len]; exact hk)
  · intro j b hj hb
    by_cases hj13 : j < 13
    · rw [xl_get f j hj13] at hb
      cases hb
      refine (hxd_zero (Nat.mod_lt _ (by decide))).2 ?_
      obtain ⟨c, hc⟩ := Nat.dvd_of_mod_eq_zero h1
      show f / 16 ^ (12 - j) % 16 = 0
      have e : 16 ^ (13 - k) = 16 ^ (12 - j) * (16 * 16 ^ (j - k)) := by
        rw [← Nat.mul_assoc, ← Nat.pow_succ, ← Nat.pow_add]
        congr 1; omega
      rw [hc, e, Nat.mul_assoc, Nat.mul_div_cancel_left _ (Nat.pow_pos (by decide)), Nat.mul_assoc, Nat.mul_mod_right]
    · rw [List.getElem?_eq_none (by rw [xl_len]; omega)] at hb
      cases hb
  · intro b h0 hb
    rw [xl_get f (k - 1) (by omega)] at hb
    cases hb
    intro e
    exact h2 h0 ((hxd_zero (Nat.mod_lt _ (by decide))).1 e)

/-- What is left behind k digits, at the top of 64 bits. -/
def rs (f k : Nat) : Nat := f % 16 ^ (13 - k) * 16 ^ (3 + k)

theorem rs_top {f k : Nat} (hk : k < 13) : rs f k / 1152921504606846976 = xd f k := by
  unfold rs xd
  have e1 : 1152921504606846976 = 16 ^ (12 - k) * 16 ^ (3 + k) := by rw [← Nat.pow_add, show 12 - k + (3 + k) = 15 by omega]
  rw [e1, Nat.mul_div_mul_right _ _ (Nat.pow_pos (by decide)), show 13 - k = 12 - k + 1 by omega, Nat.pow_succ, Nat.mod_mul_right_div_self]

theorem rs_next {f k : Nat} (hk : k < 13) : rs f k * 16 % 18446744073709551616 = rs f (k + 1) := by
  unfold rs
  have e1 : 18446744073709551616 = 16 ^ (12 - k) * 16 ^ (4 + k) := by rw [← Nat.pow_add, show 12 - k + (4 + k) = 16 by omega]
  rw [show 3 + (k + 1) = 4 + k by omega, show 13 - (k + 1) = 12 - k by omega, Nat.mul_assoc, ← Nat.pow_succ, show (3 + k).succ = 4 + k by omega, e1, Nat.mul_mod_mul_right, show 13 - k = 12 - k + 1 by omega, Nat.pow_succ, Nat.mod_mul_right_mod]

theorem rs_zero {f k : Nat} : rs f k = 0 ↔ f % 16 ^ (13 - k) = 0 := by
  unfold rs
  rw [Nat.mul_eq_zero]
  constructor
  · rintro (h | h)
    · exact h
    · exact absurd h (Nat.ne_of_gt (Nat.pow_pos (by decide)))
  · exact Or.inl

theorem rs_lt (f k : Nat) (hk : k ≤ 13) : rs f k < 18446744073709551616 := by
  unfold rs
  have e1 : 18446744073709551616 = 16 ^ (13 - k) * 16 ^ (3 + k) := by rw [← Nat.pow_add, show 13 - k + (3 + k) = 16 by omega]
  rw [e1]
  exact Nat.mul_lt_mul_of_pos_right (Nat.mod_lt _ (Nat.pow_pos (by decide))) (Nat.pow_pos (by decide))

theorem rs_begin {f : Nat} (h : f < 4503599627370496) : rs f 0 = f * 4096 := by
  unfold rs
  rw [show 16 ^ (13 - 0) = 4503599627370496 by decide, Nat.mod_eq_of_lt h, show 16 ^ (3 + 0) = 4096 by decide]

theorem rs_end (f : Nat) : rs f 13 = 0 := by
  unfold rs
  rw [show 16 ^ (13 - 13) = 1 by decide, Nat.mod_one, Nat.zero_mul]

/-- If the last digit was 0 there was nothing left ahead of it, or there is still something. -/
theorem xd_last {f k : Nat} (hk : k < 13) (h : rs f k ≠ 0) (hz : rs f (k + 1) = 0) : xd f k ≠ 0 := by
  rw [Ne, rs_zero] at h
  rw [rs_zero] at hz
  intro e
  apply h
  unfold xd at e
  rw [show 13 - (k + 1) = 12 - k by omega] at hz
  rw [show 13 - k = 12 - k + 1 by omega, Nat.pow_succ, Nat.mod_mul, hz, e]
  simp

theorem hxt_at {a k : Nat} (hk : k ≤ 13) (h1 : rs (fb a % 4503599627370496) k = 0) (h2 : 0 < k → xd (fb a % 4503599627370496) (k - 1) ≠ 0) : hxt a = (xl (fb a % 4503599627370496)).take k := by
  unfold hxt
  rw [hx14_tail]
  exact trim_at hk (rs_zero.1 h1) h2

end Go.Proofs.YtieldmakbokekaaGreatDoor.Oct

/-
  The document's Dec: decimal digits of a number.
-/
namespace Go.Proofs.YtieldmakbokekaaGreatDoor.Oct
open Go.RowKit
open Go.Proofs.YtieldmakbokekaaGreatDoor.Fl

/-- string([]byte{c}). -/
theorem run_one (c : Int) (w : World) : (convert 44 9 (.slice (some ⟨w.heap.size, 0, none⟩) 1 1)).run Tryz.prog (w.alloc (.cells #[.int .u8 c] 5)) = .ok (.string ⟨#[UInt8.ofNat c.toNat]⟩) (w.alloc (.cells #[.int .u8 c] 5)) := by
  rw [run_convert_bytes_string _ 44 9 5 _ _ _ Tryz.underlying44 Tryz.underlying5 Tryz.underlying9]
  refine (run_bytesToString _ _ _ _ [c] ?_).trans rfl
  refine run_loadCells_list (P := Tryz.prog) (w.alloc (.cells #[.int .u8 c] 5)) ⟨w.heap.size, 0, none⟩ [.int .u8 c] (fun j v hj => ?_)
  have hj0 : j = 0 := by
    rcases j with _ | j
    · rfl
    · simp at hj
  subst hj0
  rw [show (⟨w.heap.size, 0, none⟩ : Addr).add 0 = ⟨w.heap.size, 0, none⟩ from rfl, World.cell?_alloc_at _ _ _ _ rfl]
  simpa using hj

theorem run_cat (a b : ByteArray) (w : World) (h : a.size + b.size ≤ 9223372036854775807) : (binOp .add 9 (.string a) (.string b)).run Tryz.prog w = .ok (.string (a ++ b)) w := run_string_add_sum w a b h

set_option maxHeartbeats 1000000 in
set_option maxRecDepth 100000 in
theorem dec_any (n : Nat) (w : World) (hn : n < 18446744073709551616) :
    Calls Tryz.prog 27 #[.int .u64 n] w fun e w' => e = .returned (.string ⟨(Lib.decDigits n).toArray⟩) ∧ Below w.heap.size w w' := by
  have HN : Hid (n < 18446744073709551616) := hn
  clear hn
  go_enter Tryz.func27, Tryz.ntmps27
  go_wp2
  go_loopw [0, 3] (fun x y wr => ∃ (z : Int) (s : ByteArray), x = .int .u64 z ∧ y = .string s ∧ Hid (0 ≤ z ∧ z < 18446744073709551616) ∧ Hid (Lib.decDigits n = Lib.decDigits z.toNat ++ s.data.toList) ∧ s.size ≤ 30 ∧ Hid (z.toNat < 10 ^ (21 - s.size)) ∧ Hid (Below w.heap.size w wr)) (fun x _ _ => (intOf x).toNat)
  case atStart => exact ⟨n, ⟨#[]⟩, rfl, rfl, by have := HN.out; unfold Hid; omega, by unfold Hid; simp, by decide, (by have := HN.out; unfold Hid; rw [Int.toNat_natCast]; exact Nat.lt_of_lt_of_le this (by decide)), Below.refl _ w⟩
  case round =>
    obtain ⟨z, s, rfl, rfl, HM, HL, h30, HP, HB⟩ := hrel
    obtain ⟨r, hr⟩ : ∃ r, z.tmod 10 = r := ⟨_, rfl⟩
    obtain ⟨z2, hz2⟩ : ∃ z2, z.tdiv 10 = z2 := ⟨_, rfl⟩
    have hrb : 0 ≤ r ∧ r ≤ 9 ∧ r = z % 10 := by have := HM.out; rw [Int.tmod_eq_emod_of_nonneg this.1] at hr; omega
    have hzb : z2 = z / 10 := by have := HM.out; rw [Int.tdiv_eq_ediv_of_nonneg this.1] at hz2; omega
    have HR : Hid (0 ≤ r ∧ r ≤ 9 ∧ r = z % 10) := hrb
    have HZ2 : Hid (z2 = z / 10) := hzb
    have h48 : IntKind.u64.wrap (48 + r) = 48 + r := by rw [IntKind.wrap_u64]; omega
    have hwz : IntKind.u64.wrap z2 = z2 := by have := HM.out; rw [IntKind.wrap_u64]; omega
    have h8 : IntKind.u8.wrap (48 + r) = 48 + r := by rw [IntKind.wrap_u8']; omega
    have hcv := run_one (48 + r) wr
    have hd1 : (⟨#[UInt8.ofNat (48 + r).toNat]⟩ : ByteArray).size = 1 := rfl
    obtain ⟨d, hd⟩ : ∃ d : ByteArray, (⟨#[UInt8.ofNat (48 + r).toNat]⟩ : ByteArray) = d := ⟨_, rfl⟩
    rw [hd] at hcv hd1
    have HD : Hid ((⟨#[UInt8.ofNat (48 + r).toNat]⟩ : ByteArray) = d) := hd
    have hadd := run_cat d s (wr.alloc (.cells #[.int .u8 (48 + r)] 5)) (by omega)
    clear hrb hzb hd
    have HD1 : Hid (d.size = 1) := hd1
    replace hd1 : d.size ≤ 1 := by omega
    have HW : Hid (Below w.heap.size w (wr.alloc (.cells #[.int .u8 (48 + r)] 5))) := HB.out.alloc HB.out.size _
    have HS : Hid ((d ++ s).data.toList = UInt8.ofNat (48 + z.toNat % 10) :: s.data.toList) := by
      unfold Hid
      rw [← HD.out]
      have e : (48 + r).toNat = 48 + z.toNat % 10 := by have := HR.out; have := HM.out; omega
      rw [e]
      simp [ByteArray.data_append]
    by_cases h0 : z2 = 0
    · have HE : Hid ((⟨(Lib.decDigits n).toArray⟩ : ByteArray) = d ++ s) := by
        have h1 : z.toNat < 10 := by have := HZ2.out; have := HM.out; omega
        have h2 := HL.out
        rw [show Lib.decDigits z.toNat = [UInt8.ofNat (48 + z.toNat)] by rw [Lib.decDigits, dif_pos h1]] at h2
        have h3 := HS.out
        rw [show z.toNat % 10 = z.toNat by omega] at h3
        unfold Hid
        rw [h2]
        show ByteArray.mk (UInt8.ofNat (48 + z.toNat) :: s.data.toList).toArray = d ++ s
        rw [← h3]
      go_wp2
      go_ret
      exact ⟨by rw [HE.out]; rfl, HW.out⟩
    · go_wp2
      go_roundw
      case rel =>
        have hz := HM.out
        have h2 := HZ2.out
        have hz10 : ¬ z.toNat < 10 := by omega
        have e2 : z2.toNat = z.toNat / 10 := by omega
        have hp := HP.out
        have hsz : (d ++ s).size = s.size + 1 := by
          have := HD1.out
          rw [ByteArray.size_append]; omega
        have h21 : s.size < 20 := by
          refine Nat.lt_of_not_le fun h => ?_
          have : 10 ^ (21 - s.size) ≤ 10 ^ 1 := Nat.pow_le_pow_right (by omega) (by omega)
          omega
        refine ⟨z2, d ++ s, rfl, rfl, by unfold Hid; omega, ?_, by rw [hsz]; omega, ?_, HW.out⟩
        · unfold Hid
          rw [HS.out, HL.out, show Lib.decDigits z.toNat = Lib.decDigits (z.toNat / 10) ++ [UInt8.ofNat (48 + z.toNat % 10)] by rw [Lib.decDigits, dif_neg hz10], e2, List.append_assoc]
          rfl
        · unfold Hid
          rw [hsz, e2]
          have : 10 ^ (21 - s.size) = 10 ^ (21 - (s.size + 1)) * 10 := by rw [← Nat.pow_succ]; congr 1; omega
          omega
      case measure =>
        have hz := HM.out
        have h2 := HZ2.out
        simp only [intOf]
        omega

end Go.Proofs.YtieldmakbokekaaGreatDoor.Oct

/-
  The document's Show.
-/
namespace Go.Proofs.YtieldmakbokekaaGreatDoor.Oct
open Go.RowKit
open Go.Proofs.YtieldmakbokekaaGreatDoor.Fl

theorem rbits_any (a : Nat) (w : World) : Calls Tryz.prog 11 #[.float .f64 a] w fun e w' => e = .returned (.int .u64 (nb a : Nat)) ∧ w = w' := by
  have hf := run_f64bits a w
  have hs := ne_self a
  by_cases hn : Nan a
  · rw [decide_eq_true hn] at hs
    rw [nb_nan hn]
    go_enter Tryz.func11, Tryz.ntmps11
    go_wp2
    go_ret
    exact ⟨rfl, rfl⟩
  · rw [decide_eq_false hn] at hs
    rw [nb_num hn]
    go_enter Tryz.func11, Tryz.ntmps11
    go_wp2
    go_ret
    exact ⟨rfl, rfl⟩

/-- x's parts. -/
structure Xp (x a E f : Nat) : Prop where
  lt : x < 2 ^ 64
  ax : a = x % 2 ^ 63
  pos : 0 < a
  num : a < 0x7ff0000000000000
  ea : E = a / 4503599627370496
  fa : f = a % 4503599627370496

def Mn (f M : Nat) : Prop := 4503599627370496 + f = M ∧ f < 4503599627370496
theorem Mn.q {f M : Nat} (h : Mn f M) : (M : Int) / 4503599627370496 = 1 := by obtain ⟨h1, h2⟩ := h; omega
theorem Mn.r {f M : Nat} (h : Mn f M) : IntKind.u64.wrap ((M : Int) * 4096) = (rs f 0 : Nat) := by
  rw [rs_begin h.2, IntKind.wrap_u64]; have := h.1; have := h.2; omega

/-- The document's fraction and exponent behind its shifting. -/
def Sf (a F : Nat) (Z : Int) : Prop := F = fb a % 4503599627370496 ∧ Z = fk a + (fb a / 4503599627370496 : Nat) - 1023

theorem hxs_is {a F t n : Nat} {Z : Int} {o sg : ByteArray} (hS : Sf a F Z) (ht : t ≤ 13) (h1 : rs F t = 0) (h2 : 0 < t → xd F (t - 1) ≠ 0)
    (ho : o.data.toList = sg.data.toList ++ [48, 120, 49] ++ (if t = 0 then [] else 46 :: (xl F).take t)) :
    (Z < 0 → -Z = (n : Int) → o ++ ⟨#[112, 45]⟩ ++ ⟨(Lib.decDigits n).toArray⟩ = sg ++ hxs a) ∧ (0 ≤ Z → Z = (n : Int) → o ++ ⟨#[112, 43]⟩ ++ ⟨(Lib.decDigits n).toArray⟩ = sg ++ hxs a) := by
  obtain ⟨rfl, hZ⟩ := hS
  have ht2 := hxt_at ht h1 h2
  have hlen : (xl (fb a % 4503599627370496)).length = 13 := xl_len _
  have hx : (sg ++ hxs a).data.toList = o.data.toList ++ [112] ++ (hxe Z).data.toList := by
    unfold hxs
    rw [ht2, ho, ← hZ]
    by_cases h0 : t = 0
    · subst h0
      simp [ByteArray.data_append]
    · rw [if_neg (by rw [List.take_eq_nil_iff]; rintro (h | h); exact h0 h; rw [h] at hlen; cases hlen), if_neg h0]
      simp [ByteArray.data_append]
  refine ⟨fun hz hn => ba_eq ?_, fun hz hn => ba_eq ?_⟩
  · rw [hx]
    unfold hxe Lib.itoa
    rw [if_pos hz, if_pos hz, show Z.natAbs = n by omega]
    simp [ByteArray.data_append]
  · rw [hx]
    unfold hxe Lib.itoa
    rw [if_neg (by omega), if_neg (by omega), show Z.toNat = n by omega]
    simp [ByteArray.data_append]

theorem dig_at {F t q : Nat} (ht : t ≤ 13) (hq : q = rs F t) (h0 : q ≠ 0) : t < 13 ∧ (∃ d : Nat, Hid (d = xd F t ∧ d < 16) ∧ (q : Int) / 1152921504606846976 = (d : Int)) ∧ (∃ q' : Nat, Hid (q' = rs F (t + 1)) ∧ IntKind.u64.wrap ((q : Int) * 16) = (q' : Int)) := by
  have h13 : t < 13 := by
    rcases Nat.lt_or_eq_of_le ht with h | h
    · exact h
    · exfalso; apply h0; rw [hq, h]; exact rs_end F
  refine ⟨h13, ⟨xd F t, ⟨rfl, Nat.mod_lt _ (by decide)⟩, ?_⟩, ⟨rs F (t + 1), rfl, ?_⟩⟩
  · rw [← rs_top h13, hq]; rfl
  · rw [← rs_next h13, hq, IntKind.wrap_u64]; rfl

theorem chr_at (d : Nat) (wr : World) : ∃ c : ByteArray, Hid (c.data.toList = [UInt8.ofNat (hxd d)]) ∧ (convert 44 9 (.slice (some ⟨wr.heap.size, 0, none⟩) 1 1)).run Tryz.prog (wr.alloc (.cells #[.int .u8 (hxd d : Nat)] 5)) = .ok (.string c) (wr.alloc (.cells #[.int .u8 (hxd d : Nat)] 5)) ∧ c.size ≤ 1 :=
  ⟨⟨#[UInt8.ofNat (hxd d)]⟩, (rfl : (⟨#[UInt8.ofNat (hxd d)]⟩ : ByteArray).data.toList = [UInt8.ofNat (hxd d)]), run_one (hxd d : Nat) wr, Nat.le_refl _⟩

def hexS : ByteArray := ⟨#[48, 49, 50, 51, 52, 53, 54, 55, 56, 57, 97, 98, 99, 100, 101, 102]⟩
theorem idx_hex (d : Nat) (hd : d < 16) (W : World) : (Instr.index 9 (.string ⟨#[48, 49, 50, 51, 52, 53, 54, 55, 56, 57, 97, 98, 99, 100, 101, 102]⟩) (.int .u64 (d : Int))).run Tryz.prog W = .ok (.int .u8 (hxd d : Nat)) W := by
  have h0 : ∀ d : Fin 16, (hexS.data.toList.getD d.val 0).toNat = hxd d.val := by decide
  have h1 := h0 ⟨d, hd⟩
  have h2 : d < hexS.data.toList.length := hd
  rw [List.getD_eq_getElem?_getD, List.getElem?_eq_getElem h2] at h1
  rw [run_index_string _ 9 _ .u64 _ Tryz.underlying9, dif_pos ⟨by omega, by show (d : Int) < 16; omega⟩, ← h1]
  rfl

/-- x's parts, in the forms that the walk asks for. -/
theorem Xp.and {x a E f : Nat} (hX : Xp x a E f) : bits .and .u64 ((x : Int) / 4503599627370496) 2047 = (E : Int) := by
  have h1 : (BitVec.ofInt 64 ((x / 4503599627370496 : Nat) : Int)).toNat = x / 4503599627370496 := by
    rw [BitVec.ofInt_natCast, BitVec.toNat_ofNat]; exact Nat.mod_eq_of_lt (by have := hX.lt; omega)
  have h2 : (BitVec.ofInt 64 2047).toNat = 2 ^ 11 - 1 := by decide
  show IntKind.u64.wrap ((BitVec.ofInt 64 ((x / 4503599627370496 : Nat) : Int) &&& BitVec.ofInt 64 2047).toNat : Int) = _
  rw [BitVec.toNat_and, h1, h2, Nat.and_two_pow_sub_one_eq_mod, IntKind.wrap_u64]
  have := hX.ea; have := hX.ax; have := hX.num
  omega

theorem Xp.nan {x a E f : Nat} (hX : Xp x a E f) : ¬ Nan x := by have := hX.num; have := hX.ax; rw [nan_iff]; omega

theorem Xp.ord {x a E f : Nat} (hX : Xp x a E f) : (FloatKind.f64.format.order x 0 == some .eq) = false := by
  rw [show FloatKind.f64.format = Ieee.double from rfl, eq_iff, sr_pos (b := 0) (by omega)]
  refine decide_eq_false ?_
  rintro ⟨_, _, h⟩
  have := hX.ax; have := hX.pos
  unfold sr at h
  split at h <;> omega

theorem Xp.frac {x a E f : Nat} (hX : Xp x a E f) : bits .and .u64 (x : Int) 4503599627370495 = (f : Int) := by
  have h := andm x hX.lt
  rwa [show x % 4503599627370496 = f by have := hX.fa; have := hX.ax; omega] at h

theorem Xp.mn {x a E f : Nat} (hX : Xp x a E f) : ∃ M0 : Nat, Mn f M0 ∧ bits .or .u64 (f : Int) 4503599627370496 = (M0 : Int) := by
  have hf : f < 4503599627370496 := by have := hX.fa; omega
  refine ⟨4503599627370496 + f, ⟨rfl, hf⟩, ?_⟩
  have := orm f 1 hf (by decide)
  simpa using this

end Go.Proofs.YtieldmakbokekaaGreatDoor.Oct
