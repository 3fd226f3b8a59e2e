/-
  strconv's atofHex, where nothing is rounded.
-/
import Derived.Test.YtieldmakbokekaaGreatDoorHx
import Derived.Deep.QuietTactic
import Derived.BigQuiet
import Derived.LaidEqlPtr
namespace Go.Proofs.YtieldmakbokekaaGreatDoor.Oct
open Go.RowKit
open Go.Proofs.YtieldmakbokekaaGreatDoor.Fl

/-- What strconv knows of float64. -/
structure Fi (w : World) : Prop where
  c0 : w.cell? ⟨9, 0, none⟩ = some (.int .u64 52)
  c1 : w.cell? ⟨9, 1, none⟩ = some (.int .u64 11)
  c2 : w.cell? ⟨9, 2, none⟩ = some (.int .i64 (-1023))
  h7 : ∃ c t, w.heap[9]? = some (.cells c t (0, 0))
  h5 : ∃ c t, w.heap[7]? = some (.cells c t (0, 0))

theorem Fi.below {w w' : World} (h : Fi w) (hb : Below w.heap.size w w') : Fi w' := by
  have hlt : 9 < w.heap.size := block_lt_of_cell h.c0
  refine ⟨(hb.cell (p := ⟨9, 0, none⟩) hlt).trans h.c0, (hb.cell (p := ⟨9, 1, none⟩) hlt).trans h.c1, (hb.cell (p := ⟨9, 2, none⟩) hlt).trans h.c2, ?_, ?_⟩
  · rw [hb.block 9 hlt]; exact h.h7
  · rw [hb.block 7 (by omega)]; exact h.h5

theorem ptr57 {w : World} (h : Fi w) : (binOp .eql 115 (.pointer (some ⟨9, 0, none⟩)) (.pointer (some ⟨7, 0, none⟩))).run Tryz.prog w = .ok (.bool false) w := by
  have hi : (Tryz.prog.info? 117).map (·.size) = some 3 := by kernel_rfl
  cases hj : Tryz.prog.info? 117 with
  | none => rw [hj] at hi; simp at hi
  | some j =>
    rw [hj] at hi
    obtain ⟨c7, t7, h7⟩ := h.h7
    obtain ⟨c5, t5, h5⟩ := h.h5
    exact run_eql_ptr_other w (te := 117) (by kernel_rfl) hj (by simp at hi; omega) (by intro h; cases h) h7 h5

theorem andm (q : Nat) (h : q < 2 ^ 64) : bits .and .u64 (q : Int) 4503599627370495 = ((q % 4503599627370496 : Nat) : Int) := by
  have h1 : (BitVec.ofInt 64 (q : Int)).toNat = q := by
    rw [BitVec.ofInt_natCast, BitVec.toNat_ofNat]; exact Nat.mod_eq_of_lt (by omega)
  have h2 : (BitVec.ofInt 64 4503599627370495).toNat = 2 ^ 52 - 1 := by decide
  show IntKind.u64.wrap ((BitVec.ofInt 64 (q : Int) &&& BitVec.ofInt 64 4503599627370495).toNat : Int) = _
  rw [BitVec.toNat_and, h1, h2, Nat.and_two_pow_sub_one_eq_mod, IntKind.wrap_u64]
  omega

theorem andx (q : Nat) (h : q < 2048) : bits .and .i64 (q : Int) 2047 = (q : Int) := by
  have : ∀ i : Fin 2048, bits .and .i64 (i.val : Int) 2047 = (i.val : Int) := by decide +kernel
  exact this ⟨q, h⟩

theorem orm (f X : Nat) (hf : f < 4503599627370496) (hX : X < 2048) : bits .or .u64 (f : Int) ((X : Int) * 4503599627370496) = ((X * 4503599627370496 + f : Nat) : Int) := by
  have h1 : (BitVec.ofInt 64 (f : Int)).toNat = f := by
    rw [BitVec.ofInt_natCast, BitVec.toNat_ofNat]; exact Nat.mod_eq_of_lt (by omega)
  have h2 : (BitVec.ofInt 64 ((X : Int) * 4503599627370496)).toNat = X * 2 ^ 52 := by
    rw [show (X : Int) * 4503599627370496 = ((X * 2 ^ 52 : Nat) : Int) by omega, BitVec.ofInt_natCast, BitVec.toNat_ofNat]; exact Nat.mod_eq_of_lt (by omega)
  show IntKind.u64.wrap ((BitVec.ofInt 64 (f : Int) ||| BitVec.ofInt 64 ((X : Int) * 4503599627370496)).toNat : Int) = _
  rw [BitVec.toNat_or, h1, h2, Nat.or_comm, Nat.mul_comm, ← Nat.two_pow_add_eq_or_of_lt (by omega) X, IntKind.wrap_u64]
  omega

theorem and1 (u : Nat) (h : u < 2 ^ 64) (he : u % 2 = 0) : bits .and .u64 (u : Int) 1 = 0 := by
  have h1 : (BitVec.ofInt 64 (u : Int)).toNat = u := by
    rw [BitVec.ofInt_natCast, BitVec.toNat_ofNat]; exact Nat.mod_eq_of_lt (by omega)
  have h2 : (BitVec.ofInt 64 1).toNat = 2 ^ 1 - 1 := by decide
  show IntKind.u64.wrap ((BitVec.ofInt 64 (u : Int) &&& BitVec.ofInt 64 1).toNat : Int) = _
  rw [BitVec.toNat_and, h1, h2, Nat.and_two_pow_sub_one_eq_mod, IntKind.wrap_u64]
  omega

theorem and3 (u : Nat) (h : u < 2 ^ 64) (he : u % 4 = 0) : bits .and .u64 (u : Int) 3 = 0 := by
  have h1 : (BitVec.ofInt 64 (u : Int)).toNat = u := by
    rw [BitVec.ofInt_natCast, BitVec.toNat_ofNat]; exact Nat.mod_eq_of_lt (by omega)
  have h2 : (BitVec.ofInt 64 3).toNat = 2 ^ 2 - 1 := by decide
  show IntKind.u64.wrap ((BitVec.ofInt 64 (u : Int) &&& BitVec.ofInt 64 3).toNat : Int) = _
  rw [BitVec.toNat_and, h1, h2, Nat.and_two_pow_sub_one_eq_mod, IntKind.wrap_u64]
  omega

theorem and1m (u : Nat) (h : u < 2 ^ 64) : bits .and .u64 (u : Int) 1 = ((u % 2 : Nat) : Int) := by
  have h1 : (BitVec.ofInt 64 (u : Int)).toNat = u := by
    rw [BitVec.ofInt_natCast, BitVec.toNat_ofNat]; exact Nat.mod_eq_of_lt (by omega)
  have h2 : (BitVec.ofInt 64 1).toNat = 2 ^ 1 - 1 := by decide
  show IntKind.u64.wrap ((BitVec.ofInt 64 (u : Int) &&& BitVec.ofInt 64 1).toNat : Int) = _
  rw [BitVec.toNat_and, h1, h2, Nat.and_two_pow_sub_one_eq_mod, IntKind.wrap_u64]
  omega

theorem or0 (y : Nat) (h : y < 2 ^ 64) : bits .or .u64 (y : Int) 0 = (y : Int) := by
  have h1 : (BitVec.ofInt 64 (y : Int)).toNat = y := by
    rw [BitVec.ofInt_natCast, BitVec.toNat_ofNat]; exact Nat.mod_eq_of_lt (by omega)
  have h2 : (BitVec.ofInt 64 0).toNat = 0 := by decide
  show IntKind.u64.wrap ((BitVec.ofInt 64 (y : Int) ||| BitVec.ofInt 64 0).toNat : Int) = _
  rw [BitVec.toNat_or, h1, h2, Nat.or_zero, IntKind.wrap_u64]
  omega

theorem or0' (y : Nat) (h : y < 2 ^ 64) : bits .or .u64 0 (y : Int) = (y : Int) := by
  have h1 : (BitVec.ofInt 64 (y : Int)).toNat = y := by
    rw [BitVec.ofInt_natCast, BitVec.toNat_ofNat]; exact Nat.mod_eq_of_lt (by omega)
  have h2 : (BitVec.ofInt 64 0).toNat = 0 := by decide
  show IntKind.u64.wrap ((BitVec.ofInt 64 0 ||| BitVec.ofInt 64 (y : Int)).toNat : Int) = _
  rw [BitVec.toNat_or, h1, h2, Nat.zero_or, IntKind.wrap_u64]
  omega

theorem orn (y : Nat) (h : y < 9223372036854775808) : bits .or .u64 (y : Int) 9223372036854775808 = ((y + 9223372036854775808 : Nat) : Int) := by
  have h1 : (BitVec.ofInt 64 (y : Int)).toNat = y := by
    rw [BitVec.ofInt_natCast, BitVec.toNat_ofNat]; exact Nat.mod_eq_of_lt (by omega)
  have h2 : (BitVec.ofInt 64 9223372036854775808).toNat = 2 ^ 63 * 1 := by decide
  show IntKind.u64.wrap ((BitVec.ofInt 64 (y : Int) ||| BitVec.ofInt 64 9223372036854775808).toNat : Int) = _
  rw [BitVec.toNat_or, h1, h2, Nat.or_comm, ← Nat.two_pow_add_eq_or_of_lt (by omega) 1, IntKind.wrap_u64]
  omega

theorem run_f64frm (n : Int) (w : World) : (callFunc 113 #[.int .u64 n]).run Tryz.prog w = .ok (.value (.float .f64 n.toNat)) w :=
  run_callFunc_extern Tryz.func113 (by kernel_rfl) (by kernel_rfl) (by kernel_rfl) (e := Extern.MathFloatBits.float64frombits) (by kernel_rfl) _ w

set_option maxRecDepth 100000 in
set_option maxHeartbeats 4000000 in
theorem hexf (s : ByteArray) (m a d q X : Nat) (e E : Int) (neg : Bool) (w : World) (hF : Fi w) (hm0 : 0 < m) (hM0 : 18014398509481984 ≤ m * 2 ^ a) (hM1 : m * 2 ^ a < 36028797018963968) (hE : E = e + 52 - (a : Int))
    (he0 : -1000000 ≤ e) (he1 : e ≤ 1000000) (ha : a ≤ 54)
    (hd : (d = 0 ∧ -1024 ≤ E) ∨ (0 < d ∧ E + (d : Int) = -1024)) (hq : m * 2 ^ a = 4 * 2 ^ d * q) (hq0 : 0 < q) (htop : E + (d : Int) + 2 ≤ 1023)
    (hX : (4503599627370496 ≤ q ∧ (X : Int) = E + (d : Int) + 2 + 1023) ∨ (q < 4503599627370496 ∧ X = 0)) :
    Calls Tryz.prog 105 #[.string s, .pointer (some ⟨9, 0, none⟩), .int .u64 m, .int .i64 e, .bool neg, .bool false] w fun e w' => e = .returned (.tuple #[.float .f64 (X * 4503599627370496 + q % 4503599627370496 + if neg then 9223372036854775808 else 0), .nilIface]) ∧ Below w.heap.size w w' := by
  have HF : Hid (Fi w) := hF
  have c0 := hF.c0
  have c1 := hF.c1
  have c2 := hF.c2
  have HM : Hid (0 < m ∧ 18014398509481984 ≤ m * 2 ^ a ∧ m * 2 ^ a < 36028797018963968 ∧ E = e + 52 - (a : Int) ∧ a ≤ 54) := ⟨hm0, hM0, hM1, hE, ha⟩
  have HD : Hid ((d = 0 ∧ -1024 ≤ E) ∨ (0 < d ∧ E + (d : Int) = -1024)) := hd
  have HQ : Hid (m * 2 ^ a = 4 * 2 ^ d * q ∧ 0 < q ∧ E + (d : Int) + 2 ≤ 1023) := ⟨hq, hq0, htop⟩
  have HX : Hid ((4503599627370496 ≤ q ∧ (X : Int) = E + (d : Int) + 2 + 1023) ∨ (q < 4503599627370496 ∧ X = 0)) := hX
  clear hF hm0 hM0 hM1 hE ha hd hq hq0 htop hX
  go_enter Tryz.func105, Tryz.ntmps105
  go_wp2_with fail
  go_quiet (fail)
  go_wp2_with fail
  have HB : Hid (Below w.heap.size w (w.drewN nq)) := bel_drewN _ _ _
  replace c0 : (w.drewN nq).cell? ⟨9, 0, none⟩ = some (.int .u64 52) := c0
  replace c1 : (w.drewN nq).cell? ⟨9, 1, none⟩ = some (.int .u64 11) := c1
  replace c2 : (w.drewN nq).cell? ⟨9, 2, none⟩ = some (.int .i64 (-1023)) := c2
  generalize w.drewN nq = wv at c0 c1 c2 HB ⊢
  go_wp2
  go_loopw [2, 3] (fun x y wr => ∃ (k v : Nat) (z : Int), k ≤ a ∧ x = .int .u64 (v : Int) ∧ y = .int .i64 z ∧ Hid (v = m * 2 ^ k) ∧ z = e + 52 - (k : Int) ∧ Hid (Fi wr) ∧ Hid (Below w.heap.size w wr)) (fun _ y _ => (intOf y + 10000000).toNat)
  case atStart => exact ⟨0, m, e + 52, by omega, rfl, rfl, (by unfold Hid; simp), by omega, HF.out.below HB.out, HB.out⟩
  case round =>
    obtain ⟨k, v, z, hk, rfl, rfl, HV, hz, HFr, HBr⟩ := hrel
    have ha : a ≤ 54 := HM.out.2.2.2.2
    have c0 := HFr.out.c0
    have c1 := HFr.out.c1
    have c2 := HFr.out.c2
    have HV0 : 0 < v := by rw [HV.out]; exact Nat.mul_pos HM.out.1 (Nat.pow_pos (by omega))
    have hv0 : ¬ (v : Int) = 0 := by omega
    by_cases hka : k < a
    · have hvs : v < 18014398509481984 := by
        have h1 := HM.out.2.2.1
        have h2 : 2 * v ≤ m * 2 ^ a := by
          rw [HV.out, ← Nat.mul_assoc, Nat.mul_comm 2 m, Nat.mul_assoc, ← Nat.pow_succ']
          exact Nat.mul_le_mul_left _ (Nat.pow_le_pow_right (by omega) (by omega))
        omega
      have hsh : (v : Int) / 18014398509481984 = 0 := by omega
      go_wp2_with fail
      refine ⟨⟨k + 1, 2 * v, e + 52 - (k : Int) - 1, by omega, congrArg (fun x : Int => Value.int .u64 x) (by omega), rfl, ?_, by omega, HFr.out, HBr.out⟩, ?_⟩
      · unfold Hid; rw [HV.out, Nat.pow_succ']; simp only [Nat.mul_left_comm]
      · simp [intOf]; omega
    · obtain rfl : k = a := by omega
      have hvs : 18014398509481984 ≤ v := by rw [HV.out]; exact HM.out.2.1
      have hvt : v < 36028797018963968 := by rw [HV.out]; exact HM.out.2.2.1
      have hsh : (v : Int) / 18014398509481984 = 1 := by omega
      have hst : (v : Int) / 36028797018963968 = 0 := by omega
      have hEr : -2000000 ≤ E ∧ E ≤ 2000000 := by rw [HM.out.2.2.2.1]; omega
      have hzE : E = z := by rw [HM.out.2.2.2.1]; exact hz.symm
      subst hzE
      have HVQ : Hid (v = 4 * 2 ^ d * q) := by unfold Hid; rw [HV.out]; exact HQ.out.1
      clear hz HV hka hk
      go_wp2_with fail
      go_loopw [2, 3] (fun x y w1 => x = .int .u64 (v : Int) ∧ y = .int .i64 E ∧ Hid (Fi w1) ∧ Hid (Below w.heap.size w w1)) (fun _ _ _ => 0)
      case atStart => exact ⟨rfl, rfl, HFr.out, HBr.out⟩
      case round =>
        clear c0 c1 c2 HFr HBr
        obtain ⟨rfl, rfl, HFr, HBr⟩ := hrel
        have c0 := HFr.out.c0
        have c1 := HFr.out.c1
        have c2 := HFr.out.c2
        go_wp2_with fail
        go_loopw [2, 3] (fun x y w1 => ∃ (j u : Nat) (z : Int), x = .int .u64 (u : Int) ∧ y = .int .i64 z ∧ Hid (u = 4 * 2 ^ j * q) ∧ u < 36028797018963968 ∧ j ≤ d ∧ z = E + (d : Int) - (j : Int) ∧ Hid (Fi w1) ∧ Hid (Below w.heap.size w w1)) (fun _ y _ => (10000000 - intOf y).toNat)
        case atStart => exact ⟨d, v, E, rfl, rfl, HVQ.out, hvt, Nat.le_refl _, by omega, HFr.out, HBr.out⟩
        case round =>
          clear c0 c1 c2 HFr HBr
          obtain ⟨j, u, z, rfl, rfl, HU, hub, hj, hz, HFr, HBr⟩ := hrel
          have c0 := HFr.out.c0
          have c1 := HFr.out.c1
          have c2 := HFr.out.c2
          have htop := HQ.out.2.2
          have hq0 := HQ.out.2.1
          have hd := HD.out
          clear hvs hvt hsh hst hv0 HV0
          cases j with
          | succ j =>
            have hu2 : u = 2 * (4 * 2 ^ j * q) := by rw [HU.out, Nat.pow_succ]; simp only [Nat.mul_left_comm, Nat.mul_assoc, Nat.mul_comm]
            obtain ⟨y, hy⟩ : ∃ y, y = 4 * 2 ^ j * q := ⟨_, rfl⟩
            have HY : Hid (y = 4 * 2 ^ j * q) := hy
            have hy0 : 0 < y := by rw [hy]; exact Nat.mul_pos (Nat.mul_pos (by omega) (Nat.pow_pos (by omega))) hq0
            rw [← hy] at hu2
            clear hy HU
            have hu1 : (1 : Int) < (u : Int) := by omega
            have hzl : z < -1024 := by omega
            have hzg : -3000000 < z := by omega
            have hzn : z + 1 = E + (d : Int) - (j : Int) := by omega
            have hjd : j ≤ d := by omega
            have hand : bits .and .u64 (u : Int) 1 = 0 := and1 u (by omega) (by omega)
            have hhal : (u : Int) / 2 = (y : Int) := by omega
            have hor : bits .or .u64 (y : Int) 0 = (y : Int) := or0 y (by omega)
            have HN : Hid (z + 1 = E + (d : Int) - (j : Int) ∧ j ≤ d ∧ y < 36028797018963968) := ⟨hzn, hjd, by omega⟩
            clear hz hzn hd htop hu2
            go_wp2_with fail
            refine ⟨⟨j, y, z + 1, rfl, rfl, HY.out, HN.out.2.2, HN.out.2.1, HN.out.1, HFr.out, HBr.out⟩, ?_⟩
            simp [intOf]; omega
          | zero =>
            have hu4 : u = 4 * q := by have := HU.out; simpa using this
            have hzl : ¬ z < -1024 := by omega
            have hzt : z + 2 ≤ 1023 := by omega
            have hu1 : (1 : Int) < (u : Int) := by omega
            have hand : bits .and .u64 (u : Int) 3 = 0 := and3 u (by omega) (by omega)
            have hqt : (u : Int) / 4 = (q : Int) := by omega
            have hqb : q < 9007199254740992 := by omega
            have hand1 := and1m q (by omega)
            have hor := or0' (q % 2) (by omega)
            have hne3 : ¬ ((q % 2 : Nat) : Int) = 3 := by omega
            have hmk := andm q (by omega)
            have hf : q % 4503599627370496 < 4503599627370496 := Nat.mod_lt _ (by omega)
            have HZ : Hid (z = E + (d : Int)) := by unfold Hid; omega
            clear hz hd htop hu4 HU hj
            generalize q % 2 = qb at *
            obtain ⟨f, hfq⟩ : ∃ f, f = q % 4503599627370496 := ⟨_, rfl⟩
            have HFQ : Hid (f = q % 4503599627370496) := hfq
            rw [← hfq] at hmk hf
            clear hfq
            rcases HX.out with ⟨hx1, hx2⟩ | ⟨hx1, hx2⟩
            · have hq52 : (q : Int) / 4503599627370496 = 1 := by omega
              have hXb : X < 2048 := by have := HZ.out; omega
              have hax := andx X hXb
              have hom := orm f X hf hXb
              obtain ⟨o, ho⟩ : ∃ o, o = X * 4503599627370496 + f := ⟨_, rfl⟩
              have hob : o < 9223372036854775808 := by have := HZ.out; omega
              have hon := orn o hob
              have HO : Hid (o = X * 4503599627370496 + f) := ho
              rw [← ho] at hom
              clear ho
              have hz0 : -1024 ≤ z := by omega
              obtain ⟨t, hzz⟩ : ∃ t, z + 2 = t := ⟨_, rfl⟩
              have hz3 : t - -1023 = (X : Int) := by have := HZ.out; omega
              have hz4 : t + 1023 = (X : Int) := by have := HZ.out; omega
              have ht1 : t ≤ 1023 := by omega
              have ht0 : -1022 ≤ t := by omega
              clear hx2
              have hfr := run_f64frm
              go_wp2_with fail
              go_quiet (fail)
              have HBn : Hid (Below w.heap.size w (wr.drewN nq)) := HBr.out.trans (bel_drewN _ _ _)
              have HFn : Hid (Fi (wr.drewN nq)) := HFr.out.below (bel_drewN _ _ _)
              clear c0 c1 c2 HFr HBr
              generalize wr.drewN nq = wn at HBn HFn ⊢
              have c0 := HFn.out.c0
              have c1 := HFn.out.c1
              have c2 := HFn.out.c2
              have hpp := ptr57 HFn.out
              cases neg
              · go_wp2_with fail
                go_ret2
                exact ⟨by have h1 := HO.out; have h2 := HFQ.out; rw [h1, h2]; rfl, HBn.out⟩
              · go_wp2_with fail
                go_quiet (fail)
                have HBm : Hid (Below w.heap.size w (wn.drewN nq)) := HBn.out.trans (bel_drewN _ _ _)
                have HFm : Hid (Fi (wn.drewN nq)) := HFn.out.below (bel_drewN _ _ _)
                clear c0 c1 c2 HFn HBn hpp
                generalize wn.drewN nq = wm at HBm HFm ⊢
                have hpp := ptr57 HFm.out
                go_wp2_with fail
                go_ret2
                exact ⟨by have h1 := HO.out; have h2 := HFQ.out; rw [h1, h2]; rfl, HBm.out⟩
            · have hq52 : (q : Int) / 4503599627370496 = 0 := by omega
              have hfq : f = q := by rw [HFQ.out]; omega
              subst hfq
              subst hx2
              have hom := or0 f (by omega)
              have hax : bits .and .i64 0 2047 = 0 := by decide
              have hob : f < 9223372036854775808 := by omega
              have hon := orn f hob
              have hz0 : -1024 ≤ z := by omega
              have hfr := run_f64frm
              go_wp2_with fail
              go_quiet (fail)
              have HBn : Hid (Below w.heap.size w (wr.drewN nq)) := HBr.out.trans (bel_drewN _ _ _)
              have HFn : Hid (Fi (wr.drewN nq)) := HFr.out.below (bel_drewN _ _ _)
              clear c0 c1 c2 HFr HBr
              generalize wr.drewN nq = wn at HBn HFn ⊢
              have c0 := HFn.out.c0
              have c1 := HFn.out.c1
              have c2 := HFn.out.c2
              have hpp := ptr57 HFn.out
              cases neg
              · go_wp2_with fail
                go_ret2
                exact ⟨by have h2 := HFQ.out; rw [← h2]; simp, HBn.out⟩
              · go_wp2_with fail
                go_quiet (fail)
                have HBm : Hid (Below w.heap.size w (wn.drewN nq)) := HBn.out.trans (bel_drewN _ _ _)
                have HFm : Hid (Fi (wn.drewN nq)) := HFn.out.below (bel_drewN _ _ _)
                clear c0 c1 c2 HFn HBn hpp
                generalize wn.drewN nq = wm at HBm HFm ⊢
                have hpp := ptr57 HFm.out
                go_wp2_with fail
                go_ret2
                exact ⟨by have h2 := HFQ.out; rw [← h2]; simp, HBm.out⟩

end Go.Proofs.YtieldmakbokekaaGreatDoor.Oct
