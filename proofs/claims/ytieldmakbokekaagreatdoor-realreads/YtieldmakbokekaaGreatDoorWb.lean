/-
  internal/strconv's atofHex: it returns.
-/
import Derived.Test.YtieldmakbokekaaGreatDoorXh
namespace Go.Proofs.YtieldmakbokekaaGreatDoor.Oct
open Go.RowKit
open Go.Proofs.YtieldmakbokekaaGreatDoor.Fl

theorem or_bd (a b : Int) : 0 ≤ bits .or .u64 a b ∧ bits .or .u64 a b < 18446744073709551616 := by
  show 0 ≤ IntKind.u64.wrap _ ∧ IntKind.u64.wrap _ < _
  rw [IntKind.wrap_u64]
  omega
theorem and_bd (a b : Int) : 0 ≤ bits .and .u64 a b ∧ bits .and .u64 a b < 18446744073709551616 := by
  show 0 ≤ IntKind.u64.wrap _ ∧ IntKind.u64.wrap _ < _
  rw [IntKind.wrap_u64]
  omega

theorem or_small (a b : Nat) (hb : b ≤ 1) : a ||| b ≤ a + b := by
  have : b = 0 ∨ b = 1 := by omega
  rcases this with rfl | rfl
  · simp
  · have e : a = 2 ^ 1 * (a / 2) ||| a % 2 := by rw [← Nat.two_pow_add_eq_or_of_lt (by omega) (a / 2)]; omega
    have e2 : a ||| 1 = 2 ^ 1 * (a / 2) ||| 1 := by
      have h01 : a % 2 ||| 1 = 1 := by
        have : a % 2 = 0 ∨ a % 2 = 1 := by omega
        rcases this with h | h <;> rw [h] <;> rfl
      calc a ||| 1 = (2 ^ 1 * (a / 2) ||| a % 2) ||| 1 := by rw [← e]
        _ = 2 ^ 1 * (a / 2) ||| (a % 2 ||| 1) := Nat.or_assoc ..
        _ = 2 ^ 1 * (a / 2) ||| 1 := by rw [h01]
    rw [e2, ← Nat.two_pow_add_eq_or_of_lt (by omega) (a / 2)]
    omega

/-- Half of a number, its last bit kept: not more than it. -/
theorem half_bd (v : Nat) (h : v < 2 ^ 64) : ∃ u : Nat, bits .or .u64 ((v : Int) / 2) (bits .and .u64 (v : Int) 1) = (u : Int) ∧ v / 2 ≤ u ∧ u ≤ v / 2 + v % 2 := by
  have h2 : (v : Int) / 2 = ((v / 2 : Nat) : Int) := by omega
  rw [and1m v h, h2]
  have ha : (BitVec.ofInt 64 ((v / 2 : Nat) : Int)).toNat = v / 2 := by
    rw [BitVec.ofInt_natCast, BitVec.toNat_ofNat]; exact Nat.mod_eq_of_lt (by omega)
  have hb : (BitVec.ofInt 64 ((v % 2 : Nat) : Int)).toNat = v % 2 := by
    rw [BitVec.ofInt_natCast, BitVec.toNat_ofNat]; exact Nat.mod_eq_of_lt (by omega)
  refine ⟨v / 2 ||| v % 2, ?_, Nat.left_le_or, ?_⟩
  · show IntKind.u64.wrap ((BitVec.ofInt 64 ((v / 2 : Nat) : Int) ||| BitVec.ofInt 64 ((v % 2 : Nat) : Int)).toNat : Int) = _
    rw [BitVec.toNat_or, ha, hb, IntKind.wrap_u64]
    have : v / 2 ||| v % 2 < 2 ^ 64 := Nat.or_lt_two_pow (by omega) (by omega)
    omega
  · exact or_small _ _ (by omega)

/-- What atofHex returns. -/
def RetH (e : Ending) : Prop := ∃ (r : Nat) (v : Value), e = .returned (.tuple #[.float .f64 r, v]) ∧ r < 2 ^ 64 ∧ (v = .nilIface ∨ v = .iface 90 (.int .i64 1))

theorem retH_mk (n : Int) (v : Value) (h : 0 ≤ n ∧ n < 18446744073709551616) (hv : v = .nilIface ∨ v = .iface 90 (.int .i64 1)) : RetH (.returned (.tuple #[.float .f64 n.toNat, v])) :=
  ⟨n.toNat, v, rfl, by omega, hv⟩

set_option maxHeartbeats 40000000 in
set_option maxRecDepth 100000 in
theorem hexf_tot (s : ByteArray) (m : Nat) (e : Int) (neg tr : Bool) (w : World) (hF : Fi w) (hm : m < 18446744073709551616) :
    Calls Tryz.prog 105 #[.string s, .pointer (some ⟨9, 0, none⟩), .int .u64 m, .int .i64 e, .bool neg, .bool tr] w fun e w' => RetH e ∧ Below w.heap.size w w' := by
  have HF : Hid (Fi w) := hF
  have c0 := hF.c0
  have c1 := hF.c1
  have c2 := hF.c2
  clear hF
  go_enter Tryz.func105, Tryz.ntmps105
  go_wp2_with fail
  go_quiet (fail)
  go_wp2_with fail
  have HB : Hid (Below w.heap.size w (w.drewN nq)) := bel_drewN _ _ _
  replace c0 : (w.drewN nq).cell? ⟨9, 0, none⟩ = some (.int .u64 52) := c0
  replace c1 : (w.drewN nq).cell? ⟨9, 1, none⟩ = some (.int .u64 11) := c1
  replace c2 : (w.drewN nq).cell? ⟨9, 2, none⟩ = some (.int .i64 (-1023)) := c2
  generalize w.drewN nq = wv at c0 c1 c2 HB ⊢
  go_wp2
  go_loopw [2, 3] (fun x y wr => ∃ (v : Nat) (z : Int), x = .int .u64 (v : Int) ∧ y = .int .i64 z ∧ Hid (v < 18446744073709551616) ∧ Hid (Fi wr) ∧ Hid (Below w.heap.size w wr)) (fun x _ _ => (18446744073709551616 - intOf x).toNat)
  case atStart => exact ⟨m, _, rfl, rfl, hm, HF.out.below HB.out, HB.out⟩
  case round =>
    obtain ⟨v, z, rfl, rfl, HV, HFr, HBr⟩ := hrel
    have c0 := HFr.out.c0
    have c1 := HFr.out.c1
    have c2 := HFr.out.c2
    have hv := HV.out
    by_cases hin : 0 < v ∧ v < 18014398509481984
    · have hv0 : ¬ (v : Int) = 0 := by omega
      have hsh : (v : Int) / 18014398509481984 = 0 := by omega
      go_wp2_with fail
      exact ⟨⟨2 * v, _, congrArg (fun x : Int => Value.int .u64 x) (by omega), rfl, (by show _ < _; omega), HFr.out, HBr.out⟩, by simp [intOf]; omega⟩
    · have hout : (v = 0) ∨ (0 < v ∧ (v : Int) / 18014398509481984 ≠ 0) := by omega
      obtain ⟨t1, ht1, ht2⟩ : ∃ t : Nat, (if tr then bits .or .u64 (v : Int) 1 else (v : Int)) = (t : Int) ∧ t < 18446744073709551616 := by
        cases tr
        · exact ⟨v, rfl, hv⟩
        · have := or_bd (v : Int) 1
          exact ⟨(bits .or .u64 (v : Int) 1).toNat, by simp; omega, by omega⟩
      have HT1 : Hid (t1 < 18446744073709551616) := ht2
      have hob : v = 0 ∨ (((v : Int) != 0) = true ∧ ((v : Int) / 18014398509481984 == 0) = false) := by
        rcases hout with h | ⟨h1, h2⟩
        · exact .inl h
        · exact .inr ⟨by simp; omega, by simpa using h2⟩
      clear hout hin ht2 hv
      rcases hob with rfl | ⟨hz1, hz2⟩ <;> cases tr
      all_goals
        simp only [if_true, if_false, Bool.false_eq_true] at ht1
        first
          | (have hh : t1 = v := by omega
             subst hh
             clear ht1)
          | (have hh : t1 = 0 := by omega
             subst hh
             clear ht1)
          | skip
        go_wp2_with fail
      all_goals
        go_loopw [2, 3] (fun x y wr => ∃ (v : Nat) (z : Int), x = .int .u64 (v : Int) ∧ y = .int .i64 z ∧ Hid (v < 18446744073709551616) ∧ Hid (Fi wr) ∧ Hid (Below w.heap.size w wr)) (fun x _ _ => (intOf x).toNat)
        case atStart =>
          first
            | exact ⟨_, _, rfl, rfl, HT1.out, HFr.out, HBr.out⟩
            | exact ⟨t1, _, congrArg (fun x : Int => Value.int .u64 x) ht1, rfl, HT1.out, HFr.out, HBr.out⟩
            | exact ⟨0, _, rfl, rfl, HT1.out, HFr.out, HBr.out⟩
        case round =>
          clear c0 c1 c2 HFr HBr HV HT1
          try clear ht1
          obtain ⟨v2, z2, rfl, rfl, HV, HFr, HBr⟩ := hrel
          have c0 := HFr.out.c0
          have c1 := HFr.out.c1
          have c2 := HFr.out.c2
          have hv := HV.out
          by_cases h55 : 36028797018963968 ≤ v2
          · have hsh : ((v2 : Int) / 36028797018963968 == 0) = false := by simp; omega
            obtain ⟨u, hu1, hu2, hu3⟩ := half_bd v2 hv
            go_wp2_with fail
            exact ⟨⟨u, _, rfl, rfl, (by show _ < _; omega), HFr.out, HBr.out⟩, by simp [intOf]; omega⟩
          · have hsh : (v2 : Int) / 36028797018963968 = 0 := by omega
            have HV5 : Hid (v2 < 36028797018963968) := by show _ < _; omega
            clear hsh
            have hsh : (v2 : Int) / 36028797018963968 = 0 := by omega
            go_wp2_with fail
            go_loopw [2, 3] (fun x y wr => ∃ (v : Nat) (z : Int), x = .int .u64 (v : Int) ∧ y = .int .i64 z ∧ Hid (v < 36028797018963968) ∧ Hid (Fi wr) ∧ Hid (Below w.heap.size w wr)) (fun x _ _ => (intOf x).toNat)
            case atStart => exact ⟨v2, _, rfl, rfl, HV5.out, HFr.out, HBr.out⟩
            case round =>
              clear c0 c1 c2 HFr HBr HV HV5 hv h55 hsh
              obtain ⟨v3, z3, rfl, rfl, HV, HFr, HBr⟩ := hrel
              have c0 := HFr.out.c0
              have c1 := HFr.out.c1
              have c2 := HFr.out.c2
              have hv := HV.out
              by_cases hgo : 1 < v3 ∧ z3 < -1024
              · obtain ⟨hg1, hg2⟩ := hgo
                have hg1' : (1 : Int) < (v3 : Int) := by omega
                obtain ⟨u, hu1, hu2, hu3⟩ := half_bd v3 (by omega)
                go_wp2_with fail
                exact ⟨⟨u, _, rfl, rfl, (by show _ < _; omega), HFr.out, HBr.out⟩, by simp [intOf]; omega⟩
              · have hgo' : decide ((1 : Int) < (v3 : Int)) = false ∨ ((1 : Int) < (v3 : Int) ∧ decide (z3 < -1024) = false) := by
                  by_cases h1 : (1 : Int) < (v3 : Int)
                  · exact .inr ⟨h1, decide_eq_false (fun h => hgo ⟨by omega, h⟩)⟩
                  · exact .inl (decide_eq_false h1)
                clear hgo
                have hfr := run_f64frm
                rcases hgo' with hg1 | ⟨hg1, hg2⟩
                all_goals
                  go_wp2_with fail
                all_goals
                  go_quiet (fail)
                  have HBn : Hid (Below w.heap.size w (wr.drewN nq)) := HBr.out.trans (bel_drewN _ _ _)
                  have HFn : Hid (Fi (wr.drewN nq)) := HFr.out.below (bel_drewN _ _ _)
                  clear c0 c1 c2 HFr HBr
                  generalize wr.drewN nq = wn at HBn HFn ⊢
                  have c0 := HFn.out.c0
                  have c1 := HFn.out.c1
                  have c2 := HFn.out.c2
                  have hpp := ptr57 HFn.out
                  cases neg
                  · go_wp2_with fail
                    go_ret2
                    exact ⟨retH_mk _ _ (or_bd _ _) (by first | exact .inl rfl | exact .inr rfl), HBn.out⟩
                  · go_wp2_with fail
                    go_quiet (fail)
                    have HBm : Hid (Below w.heap.size w (wn.drewN nq)) := HBn.out.trans (bel_drewN _ _ _)
                    have HFm : Hid (Fi (wn.drewN nq)) := HFn.out.below (bel_drewN _ _ _)
                    clear c0 c1 c2 HFn HBn hpp
                    generalize wn.drewN nq = wm at HBm HFm ⊢
                    have hpp := ptr57 HFm.out
                    go_wp2_with fail
                    go_ret2
                    exact ⟨retH_mk _ _ (or_bd _ _) (by first | exact .inl rfl | exact .inr rfl), HBm.out⟩
end Go.Proofs.YtieldmakbokekaaGreatDoor.Oct
