/-
  The document's Show.
-/
import Derived.Test.YtieldmakbokekaaGreatDoorRu
import Derived.Test.YtieldmakbokekaaGreatDoorDc
namespace Go.Proofs.YtieldmakbokekaaGreatDoor.Oct
open Go.RowKit
open Go.Proofs.YtieldmakbokekaaGreatDoor.Fl

theorem rbits_any (a : Nat) (w : World) : Calls Tryz.prog 11 #[.float .f64 a] w fun e w' => e = .returned (.int .u64 (nb a : Nat)) ∧ w = w' := by
  have hf := run_f64bits a w
  have hs := ne_self a
  by_cases hn : Nan a
  · rw [decide_eq_true hn] at hs
    rw [nb_nan hn]
    go_enter Tryz.func11, Tryz.ntmps11
    go_wp2
    go_ret
    exact ⟨rfl, rfl⟩
  · rw [decide_eq_false hn] at hs
    rw [nb_num hn]
    go_enter Tryz.func11, Tryz.ntmps11
    go_wp2
    go_ret
    exact ⟨rfl, rfl⟩

/-- x's parts. -/
structure Xp (x a E f : Nat) : Prop where
  lt : x < 2 ^ 64
  ax : a = x % 2 ^ 63
  pos : 0 < a
  num : a < 0x7ff0000000000000
  ea : E = a / 4503599627370496
  fa : f = a % 4503599627370496

def Mn (f M : Nat) : Prop := 4503599627370496 + f = M ∧ f < 4503599627370496
theorem Mn.q {f M : Nat} (h : Mn f M) : (M : Int) / 4503599627370496 = 1 := by obtain ⟨h1, h2⟩ := h; omega
theorem Mn.r {f M : Nat} (h : Mn f M) : IntKind.u64.wrap ((M : Int) * 4096) = (rs f 0 : Nat) := by
  rw [rs_begin h.2, IntKind.wrap_u64]; have := h.1; have := h.2; omega

/-- The document's fraction and exponent behind its shifting. -/
def Sf (a F : Nat) (Z : Int) : Prop := F = fb a % 4503599627370496 ∧ Z = fk a + (fb a / 4503599627370496 : Nat) - 1023

theorem hxs_is {a F t n : Nat} {Z : Int} {o sg : ByteArray} (hS : Sf a F Z) (ht : t ≤ 13) (h1 : rs F t = 0) (h2 : 0 < t → xd F (t - 1) ≠ 0)
    (ho : o.data.toList = sg.data.toList ++ [48, 120, 49] ++ (if t = 0 then [] else 46 :: (xl F).take t)) :
    (Z < 0 → -Z = (n : Int) → o ++ ⟨#[112, 45]⟩ ++ ⟨(Lib.decDigits n).toArray⟩ = sg ++ hxs a) ∧ (0 ≤ Z → Z = (n : Int) → o ++ ⟨#[112, 43]⟩ ++ ⟨(Lib.decDigits n).toArray⟩ = sg ++ hxs a) := by
  obtain ⟨rfl, hZ⟩ := hS
  have ht2 := hxt_at ht h1 h2
  have hlen : (xl (fb a % 4503599627370496)).length = 13 := xl_len _
  have hx : (sg ++ hxs a).data.toList = o.data.toList ++ [112] ++ (hxe Z).data.toList := by
    unfold hxs
    rw [ht2, ho, ← hZ]
    by_cases h0 : t = 0
    · subst h0
      simp [ByteArray.data_append]
    · rw [if_neg (by rw [List.take_eq_nil_iff]; rintro (h | h); exact h0 h; rw [h] at hlen; cases hlen), if_neg h0]
      simp [ByteArray.data_append]
  refine ⟨fun hz hn => ba_eq ?_, fun hz hn => ba_eq ?_⟩
  · rw [hx]
    unfold hxe Lib.itoa
    rw [if_pos hz, if_pos hz, show Z.natAbs = n by omega]
    simp [ByteArray.data_append]
  · rw [hx]
    unfold hxe Lib.itoa
    rw [if_neg (by omega), if_neg (by omega), show Z.toNat = n by omega]
    simp [ByteArray.data_append]

theorem dig_at {F t q : Nat} (ht : t ≤ 13) (hq : q = rs F t) (h0 : q ≠ 0) : t < 13 ∧ (∃ d : Nat, Hid (d = xd F t ∧ d < 16) ∧ (q : Int) / 1152921504606846976 = (d : Int)) ∧ (∃ q' : Nat, Hid (q' = rs F (t + 1)) ∧ IntKind.u64.wrap ((q : Int) * 16) = (q' : Int)) := by
  have h13 : t < 13 := by
    rcases Nat.lt_or_eq_of_le ht with h | h
    · exact h
    · exfalso; apply h0; rw [hq, h]; exact rs_end F
  refine ⟨h13, ⟨xd F t, ⟨rfl, Nat.mod_lt _ (by decide)⟩, ?_⟩, ⟨rs F (t + 1), rfl, ?_⟩⟩
  · rw [← rs_top h13, hq]; rfl
  · rw [← rs_next h13, hq, IntKind.wrap_u64]; rfl

theorem chr_at (d : Nat) (wr : World) : ∃ c : ByteArray, Hid (c.data.toList = [UInt8.ofNat (hxd d)]) ∧ (convert 44 9 (.slice (some ⟨wr.heap.size, 0, none⟩) 1 1)).run Tryz.prog (wr.alloc (.cells #[.int .u8 (hxd d : Nat)] 5)) = .ok (.string c) (wr.alloc (.cells #[.int .u8 (hxd d : Nat)] 5)) ∧ c.size ≤ 1 :=
  ⟨⟨#[UInt8.ofNat (hxd d)]⟩, (rfl : (⟨#[UInt8.ofNat (hxd d)]⟩ : ByteArray).data.toList = [UInt8.ofNat (hxd d)]), run_one (hxd d : Nat) wr, Nat.le_refl _⟩

def hexS : ByteArray := ⟨#[48, 49, 50, 51, 52, 53, 54, 55, 56, 57, 97, 98, 99, 100, 101, 102]⟩
theorem idx_hex (d : Nat) (hd : d < 16) (W : World) : (Instr.index 9 (.string ⟨#[48, 49, 50, 51, 52, 53, 54, 55, 56, 57, 97, 98, 99, 100, 101, 102]⟩) (.int .u64 (d : Int))).run Tryz.prog W = .ok (.int .u8 (hxd d : Nat)) W := by
  have h0 : ∀ d : Fin 16, (hexS.data.toList.getD d.val 0).toNat = hxd d.val := by decide
  have h1 := h0 ⟨d, hd⟩
  have h2 : d < hexS.data.toList.length := hd
  rw [List.getD_eq_getElem?_getD, List.getElem?_eq_getElem h2] at h1
  rw [run_index_string _ 9 _ .u64 _ Tryz.underlying9, dif_pos ⟨by omega, by show (d : Int) < 16; omega⟩, ← h1]
  rfl

/-- x's parts, in the forms that the walk asks for. -/
theorem Xp.and {x a E f : Nat} (hX : Xp x a E f) : bits .and .u64 ((x : Int) / 4503599627370496) 2047 = (E : Int) := by
  have h1 : (BitVec.ofInt 64 ((x / 4503599627370496 : Nat) : Int)).toNat = x / 4503599627370496 := by
    rw [BitVec.ofInt_natCast, BitVec.toNat_ofNat]; exact Nat.mod_eq_of_lt (by have := hX.lt; omega)
  have h2 : (BitVec.ofInt 64 2047).toNat = 2 ^ 11 - 1 := by decide
  show IntKind.u64.wrap ((BitVec.ofInt 64 ((x / 4503599627370496 : Nat) : Int) &&& BitVec.ofInt 64 2047).toNat : Int) = _
  rw [BitVec.toNat_and, h1, h2, Nat.and_two_pow_sub_one_eq_mod, IntKind.wrap_u64]
  have := hX.ea; have := hX.ax; have := hX.num
  omega

theorem Xp.nan {x a E f : Nat} (hX : Xp x a E f) : ¬ Nan x := by have := hX.num; have := hX.ax; rw [nan_iff]; omega

theorem Xp.ord {x a E f : Nat} (hX : Xp x a E f) : (FloatKind.f64.format.order x 0 == some .eq) = false := by
  rw [show FloatKind.f64.format = Ieee.double from rfl, eq_iff, sr_pos (b := 0) (by omega)]
  refine decide_eq_false ?_
  rintro ⟨_, _, h⟩
  have := hX.ax; have := hX.pos
  unfold sr at h
  split at h <;> omega

theorem Xp.frac {x a E f : Nat} (hX : Xp x a E f) : bits .and .u64 (x : Int) 4503599627370495 = (f : Int) := by
  have h := andm x hX.lt
  rwa [show x % 4503599627370496 = f by have := hX.fa; have := hX.ax; omega] at h

theorem Xp.mn {x a E f : Nat} (hX : Xp x a E f) : ∃ M0 : Nat, Mn f M0 ∧ bits .or .u64 (f : Int) 4503599627370496 = (M0 : Int) := by
  have hf : f < 4503599627370496 := by have := hX.fa; omega
  refine ⟨4503599627370496 + f, ⟨rfl, hf⟩, ?_⟩
  have := orm f 1 hf (by decide)
  simpa using this

end Go.Proofs.YtieldmakbokekaaGreatDoor.Oct
