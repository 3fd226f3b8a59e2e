/-
  internal/strconv's readFloat, at texts that begin with 0x or -0x: it returns.
-/
import Derived.Test.YtieldmakbokekaaGreatDoorWa
import Derived.Deep.CutBlock
import Derived.Deep.DeepCutAuto
namespace Go.Proofs.YtieldmakbokekaaGreatDoor.Oct
open Go.RowKit
open Go.Proofs.YtieldmakbokekaaGreatDoor.Fl

/-- What readFloat returns at such a text. -/
def RetF (s : ByteArray) (neg : Bool) (e : Ending) : Prop := ∃ (M z : Int) (tr ok : Bool) (n : Nat), e = .returned (.tuple #[.int .u64 M, .int .i64 z, .bool neg, .bool tr, .bool true, .int .i64 (n : Int), .bool ok]) ∧ 0 ≤ M ∧ M < 18446744073709551616 ∧ n ≤ s.size

theorem retF_mk {s : ByteArray} {neg : Bool} {M z : Int} {tr ok : Bool} (n : Nat) (x : Int) (hx : x = (n : Int)) (h0 : 0 ≤ M) (h1 : M < 18446744073709551616) (hn : n ≤ s.size) :
    RetF s neg (.returned (.tuple #[.int .u64 M, .int .i64 z, .bool neg, .bool tr, .bool true, .int .i64 x, .bool ok])) := ⟨M, z, tr, ok, n, by rw [hx], h0, h1, hn⟩

def RelF (st : Nat) (s : ByteArray) (x2 x5 x7 x9 x13 x14 x15 x16 x17 : Value) : Prop := ∃ (k : Nat) (M n15 n16 n17 : Int) (b5 b9 b13 b14 : Bool), Hid (st ≤ k ∧ k ≤ s.size ∧ 0 ≤ M ∧ M < 18446744073709551616) ∧ x2 = .int .u64 M ∧ x5 = .bool b5 ∧ x7 = .int .i64 (k : Int) ∧ x9 = .bool b9 ∧ x13 = .bool b13 ∧ x14 = .bool b14 ∧ x15 = .int .i64 n15 ∧ x16 = .int .i64 n16 ∧ x17 = .int .i64 n17

theorem relF_mk {st : Nat} {s : ByteArray} {M n15 n16 n17 : Int} {b5 b9 b13 b14 : Bool} (k : Nat) (h1 : st ≤ k) (h2 : k ≤ s.size) (h3 : 0 ≤ M) (h4 : M < 18446744073709551616) :
    RelF st s (.int .u64 M) (.bool b5) (.int .i64 (k : Int)) (.bool b9) (.bool b13) (.bool b14) (.int .i64 n15) (.int .i64 n16) (.int .i64 n17) :=
  ⟨k, M, n15, n16, n17, b5, b9, b13, b14, ⟨h1, h2, h3, h4⟩, rfl, rfl, rfl, rfl, rfl, rfl, rfl, rfl, rfl⟩

theorem relF_next {st : Nat} {s : ByteArray} {k : Nat} {M n15 n16 n17 : Int} {b5 b9 b13 b14 : Bool} (h : st ≤ k ∧ k < s.size) (h3 : 0 ≤ M) (h4 : M < 18446744073709551616) :
    RelF st s (.int .u64 M) (.bool b5) (.int .i64 ((k : Int) + 1)) (.bool b9) (.bool b13) (.bool b14) (.int .i64 n15) (.int .i64 n16) (.int .i64 n17) ∧ s.size - (intOf (.int .i64 ((k : Int) + 1))).toNat < s.size - (intOf (.int .i64 (k : Int))).toNat :=
  ⟨relF_mk (k + 1) (by omega) (by omega) h3 h4, by simp [intOf]; omega⟩

def RelE (st : Nat) (s : ByteArray) (x7 x9 x20 : Value) : Prop := ∃ (q : Nat) (u : Bool) (z : Int), Hid (st ≤ q ∧ q ≤ s.size) ∧ x7 = .int .i64 (q : Int) ∧ x9 = .bool u ∧ x20 = .int .i64 z

theorem relE_mk {st : Nat} {s : ByteArray} {u : Bool} {z x : Int} (q : Nat) (h1 : st ≤ q) (h2 : q ≤ s.size) (hx : x = (q : Int)) : RelE st s (.int .i64 x) (.bool u) (.int .i64 z) := ⟨q, u, z, ⟨h1, h2⟩, by rw [hx], rfl, rfl⟩

theorem relE_next {st : Nat} {s : ByteArray} {q : Nat} {u : Bool} {z : Int} (h : st ≤ q) (hq : q < s.size) :
    RelE st s (.int .i64 ((q : Int) + 1)) (.bool u) (.int .i64 z) ∧ s.size - (intOf (.int .i64 ((q : Int) + 1))).toNat < s.size - (intOf (.int .i64 (q : Int))).toNat :=
  ⟨relE_mk (q + 1) (by omega) (by omega) (by omega), by simp [intOf]; omega⟩

theorem or_p {c : Int} (h0 : 0 ≤ c) (h1 : c ≤ 255) (h : bits .or .u8 c 32 = 112) : 58 ≤ c := by
  have : ∀ i : Fin 256, bits .or .u8 (i.val : Int) 32 = 112 → 58 ≤ i.val := by decide +kernel
  obtain ⟨n, rfl⟩ := Int.eq_ofNat_of_zero_le h0
  have := this ⟨n, by omega⟩ h
  have h2 : 58 ≤ n := this
  omega

theorem u64_bd (z : Int) : 0 ≤ IntKind.u64.wrap z ∧ IntKind.u64.wrap z < 18446744073709551616 := by
  have h : IntKind.u64.wrap z = z % 18446744073709551616 := by simp [IntKind.wrap, IntKind.signed, IntKind.bits]
  rw [h]
  omega

set_option maxHeartbeats 40000000 in
set_option maxRecDepth 100000 in
theorem rfp_tot (s : ByteArray) (w : World) (hs : (3 : Int) ≤ (s.size : Int)) (hm : (s.size : Int) ≤ 9223372036854775807) (hse : ¬ s = ByteArray.empty)
    (i0 : ∀ W, (Instr.index 9 (.string s) (.int .i64 0)).run Tryz.prog W = .ok (.int .u8 48) W)
    (i1 : ∀ W, (Instr.index 9 (.string s) (.int .i64 1)).run Tryz.prog W = .ok (.int .u8 120) W)
    (HUS : Hid (∀ k : Nat, 2 ≤ k → k ≤ s.size → ∀ v, Calls Tryz.prog 120 #[.string (s.extract 0 k)] v fun e w' => RetB e ∧ v = w')) :
    Calls Tryz.prog 104 #[.string s] w fun e w' => RetF s false e ∧ w = w' := by
  go_enter Tryz.func104, Tryz.ntmps104
  go_wp2_with fail
  go_step3
  have lw : bits .or .u8 120 32 = 120 := by decide
  go_wp2_with (go_at_call 119; refine (lower_any _ _).mono ?_; rintro e w' ⟨rfl, rfl⟩)
  go_step3
  go_upto_block 1 with fail
  clear i0 i1 lw
  go_cut [2, 5, 7, 9, 13, 14, 15, 16, 17] (fun x2 x5 x7 x9 x13 x14 x15 x16 x17 wx => RelF 2 s x2 x5 x7 x9 x13 x14 x15 x16 x17 ∧ w = wx)
  case first =>
    as_aux_lemma =>
      go_wp2_with fail
      go_loop [2, 5, 7, 9, 13, 14, 15, 16, 17] (fun x2 x5 x7 x9 x13 x14 x15 x16 x17 => RelF 2 s x2 x5 x7 x9 x13 x14 x15 x16 x17) (fun _ _ x7 _ _ _ _ _ _ => s.size - (intOf x7).toNat)
      case atStart => exact relF_mk 2 (Nat.le_refl _) (by omega) (by omega) (by omega)
      case round =>
        obtain ⟨k, M, n15, n16, n17, b5, b9, b13, b14, HT, rfl, rfl, rfl, rfl, rfl, rfl, rfl, rfl, rfl⟩ := hrel
        by_cases hlt : k < s.size
        · have ik := idx_byt s k hlt
          have hbd := byt_bd s k
          have hlt' : (k : Int) < (s.size : Int) := by omega
          obtain ⟨c, hc⟩ : ∃ c, byt s k = c := ⟨_, rfl⟩
          rw [hc] at ik hbd
          clear hc
          obtain ⟨l, hl⟩ : ∃ l, bits .or .u8 c 32 = l := ⟨_, rfl⟩
          have HN : Hid (2 ≤ k ∧ k < s.size) := ⟨HT.out.1, hlt⟩
          by_cases c95 : c = 95
          · subst c95
            go_wp2_with (go_at_call 119; refine (lower_any _ _).mono ?_; rw [hl]; rintro e w' ⟨rfl, rfl⟩)
            exact relF_next HN.out HT.out.2.2.1 HT.out.2.2.2
          by_cases c46 : c = 46
          · subst c46
            have hl46 : l = 46 := by rw [← hl]; decide
            subst hl46
            cases b13
            · go_wp2_with (go_at_call 119; refine (lower_any _ _).mono ?_; rw [hl]; rintro e w' ⟨rfl, rfl⟩)
              exact relF_next HN.out HT.out.2.2.1 HT.out.2.2.2
            · go_wp2_with (go_at_call 119; refine (lower_any _ _).mono ?_; rw [hl]; rintro e w' ⟨rfl, rfl⟩)
              go_meet
              exact ⟨relF_mk k HT.out.1 HT.out.2.1 HT.out.2.2.1 HT.out.2.2.2, rfl⟩
          have b95 : (c == 95) = false := by simpa using c95
          have b46 : (c == 46) = false := by simpa using c46
          clear c95 c46
          by_cases hd : 48 ≤ c ∧ c ≤ 57
          · obtain ⟨hd1, hd2⟩ := hd
            by_cases h16 : n16 < 16
            all_goals
              cases h48 : (c == 48) <;> cases h15 : (n15 == 0)
              all_goals
                go_wp2_with (go_at_call 119; refine (lower_any _ _).mono ?_; rw [hl]; rintro e w' ⟨rfl, rfl⟩)
                first
                  | exact relF_next HN.out HT.out.2.2.1 HT.out.2.2.2
                  | exact relF_next HN.out (u64_bd _).1 (u64_bd _).2
          have hd' : decide (48 ≤ c) = false ∨ (48 ≤ c ∧ decide (c ≤ 57) = false) := by
            by_cases h1 : 48 ≤ c
            · exact .inr ⟨h1, decide_eq_false (fun h => hd ⟨h1, h⟩)⟩
            · exact .inl (decide_eq_false h1)
          clear hd
          by_cases hx : 97 ≤ l ∧ l ≤ 102
          · obtain ⟨hx1, hx2⟩ := hx
            by_cases h16 : n16 < 16
            all_goals
              rcases hd' with hd1 | ⟨hd1, hd2⟩
              all_goals
                go_wp2_with (go_at_call 119; refine (lower_any _ _).mono ?_; rw [hl]; rintro e w' ⟨rfl, rfl⟩)
                first
                  | exact relF_next HN.out HT.out.2.2.1 HT.out.2.2.2
                  | exact relF_next HN.out (u64_bd _).1 (u64_bd _).2
          have hx' : decide (97 ≤ l) = false ∨ (97 ≤ l ∧ decide (l ≤ 102) = false) := by
            by_cases h1 : 97 ≤ l
            · exact .inr ⟨h1, decide_eq_false (fun h => hx ⟨h1, h⟩)⟩
            · exact .inl (decide_eq_false h1)
          clear hx
          rcases hd' with hd1 | ⟨hd1, hd2⟩ <;> rcases hx' with hx1 | ⟨hx1, hx2⟩
          all_goals
            go_wp2_with (go_at_call 119; refine (lower_any _ _).mono ?_; rw [hl]; rintro e w' ⟨rfl, rfl⟩)
            go_meet
            exact ⟨relF_mk k HT.out.1 HT.out.2.1 HT.out.2.2.1 HT.out.2.2.2, rfl⟩
        · have hks : k = s.size := by have := HT.out.2.1; omega
          subst hks
          go_wp2_with fail
          go_meet
          exact ⟨relF_mk s.size HT.out.1 HT.out.2.1 HT.out.2.2.1 HT.out.2.2.2, rfl⟩
  case rest =>
    obtain ⟨⟨k, M, n15, n16, n17, b5, b9, b13, b14, HT, rfl, rfl, rfl, rfl, rfl, rfl, rfl, rfl, rfl⟩, rfl⟩ := hcut
    have HM : Hid (0 ≤ M ∧ M < 18446744073709551616) := HT.out.2.2
    have hkl : 2 ≤ k := HT.out.1
    have hku : k ≤ s.size := HT.out.2.1
    have HK : Hid (2 ≤ k ∧ k ≤ s.size) := ⟨hkl, hku⟩
    clear HT
    cases b14
    · go_wp2_with fail
      try simp (config := {zetaDelta := true}) only [Exit.noGoto_ret]
      refine bodyPost_ret (results_tmp7 rfl _ _ _) rfl ⟨?_, rfl⟩
      exact retF_mk (k) _ rfl HM.out.1 HM.out.2 HK.out.2

    · go_upto_if 142 with fail
      go_cut [17] (fun x17 wx => (∃ z, x17 = .int .i64 z) ∧ w = wx)
      case first =>
        cases b13
        all_goals
          go_wp2_with fail
          go_meet
          exact ⟨⟨_, rfl⟩, rfl⟩
      case rest =>
        obtain ⟨⟨n17b, rfl⟩, rfl⟩ := hcut
        go_upto_region 57 with fail
        obtain ⟨z16, e16⟩ : ∃ z, IntKind.i64.wrap (n16 * 4) = z := ⟨_, rfl⟩
        obtain ⟨z17, e17⟩ : ∃ z, IntKind.i64.wrap (n17b * 4) = z := ⟨_, rfl⟩
        by_cases hlt : k < s.size
        · have ik := idx_byt s k hlt
          have hbd := byt_bd s k
          have hlt' : (k : Int) < (s.size : Int) := by omega
          obtain ⟨c, hc⟩ : ∃ c, byt s k = c := ⟨_, rfl⟩
          rw [hc] at ik hbd
          clear hc
          obtain ⟨l, hl⟩ : ∃ l, bits .or .u8 c 32 = l := ⟨_, rfl⟩
          by_cases hp : l = 112
          · subst hp
            by_cases hk1 : k + 1 < s.size
            · have ik1 : ∀ W, (Instr.index 9 (.string s) (.int .i64 ((k : Int) + 1))).run Tryz.prog W = .ok (.int .u8 (byt s (k + 1))) W := idx_byt s (k + 1) hk1
              have hb1 := byt_bd s (k + 1)
              have hk1' : (k : Int) + 1 < (s.size : Int) := by omega
              obtain ⟨c1, hc1⟩ : ∃ c, byt s (k + 1) = c := ⟨_, rfl⟩
              rw [hc1] at ik1 hb1
              clear hc1
              go_upto_block 4 with (go_at_call 119; refine (lower_any _ _).mono ?_; rw [hl]; rintro e w' ⟨rfl, rfl⟩)
              go_cut [7, 19] (fun x7 x19 wx => (∃ (q : Nat) (e : Int), Hid (2 ≤ q ∧ q ≤ s.size) ∧ x7 = .int .i64 (q : Int) ∧ x19 = .int .i64 e) ∧ w = wx)
              case first =>
                as_aux_lemma =>
                  have hsg : c1 = 43 ∨ c1 = 45 ∨ ((c1 == 43) = false ∧ (c1 == 45) = false) := by
                    by_cases h1 : c1 = 43
                    · exact .inl h1
                    · by_cases h2 : c1 = 45
                      · exact .inr (.inl h2)
                      · exact .inr (.inr ⟨by simpa using h1, by simpa using h2⟩)
                  rcases hsg with rfl | rfl | ⟨hs1, hs2⟩
                  · go_wp2_with fail
                    go_meet
                    exact ⟨⟨k + 2, _, ⟨by omega, by omega⟩, by congr 1, rfl⟩, rfl⟩
                  · go_wp2_with fail
                    go_meet
                    exact ⟨⟨k + 2, _, ⟨by omega, by omega⟩, by congr 1, rfl⟩, rfl⟩
                  · go_wp2_with fail
                    go_meet
                    exact ⟨⟨k + 1, _, ⟨by omega, by omega⟩, by congr 1, rfl⟩, rfl⟩
              case rest =>
                obtain ⟨⟨q, es, HQ, rfl, rfl⟩, rfl⟩ := hcut
                as_aux_lemma =>
                  clear ik ik1 hlt hlt' hk1 hk1' hb1 hbd hl
                  by_cases hq : q < s.size
                  · have iq := idx_byt s q hq
                    have hbq := byt_bd s q
                    have hq' : (q : Int) < (s.size : Int) := by omega
                    obtain ⟨d, hd⟩ : ∃ c, byt s q = c := ⟨_, rfl⟩
                    rw [hd] at iq hbq
                    clear hd
                    by_cases hg : 48 ≤ d ∧ d ≤ 57
                    · obtain ⟨hg1, hg2⟩ := hg
                      have k1 : decide (s.size ≤ q) = false := decide_eq_false (by omega)
                      have k2 : decide (d < 48) = false := decide_eq_false (by omega)
                      have k3 : decide (57 < d) = false := decide_eq_false (by omega)
                      go_upto_block 5 with fail
                      clear k1 k2 k3
                      go_cut [7, 9, 20] (fun x7 x9 x20 wx => RelE 2 s x7 x9 x20 ∧ w = wx)
                      case first =>
                        as_aux_lemma =>
                          clear iq hg1 hg2 hbq
                          go_wp2_with fail
                          go_loop [7, 9, 20] (fun x7 x9 x20 => RelE 2 s x7 x9 x20) (fun x7 _ _ => s.size - (intOf x7).toNat)
                          case atStart => exact relE_mk q HQ.out.1 HQ.out.2 rfl
                          case round =>
                            obtain ⟨p, u9, z, HP, rfl, rfl, rfl⟩ := hrel
                            clear hq hq'
                            by_cases hp : p < s.size
                            · have ip := idx_byt s p hp
                              have hbp := byt_bd s p
                              have hp' : (p : Int) < (s.size : Int) := by omega
                              obtain ⟨c, hc⟩ : ∃ c, byt s p = c := ⟨_, rfl⟩
                              rw [hc] at ip hbp
                              clear hc
                              by_cases hd : 48 ≤ c ∧ c ≤ 57
                              · obtain ⟨hd1, hd2⟩ := hd
                                have c95 : (c == 95) = false := by simp; omega
                                by_cases h4 : z < 10000
                                · go_wp2
                                  exact relE_next HP.out.1 hp
                                · go_wp2
                                  exact relE_next HP.out.1 hp
                              · have hd' : decide (48 ≤ c) = false ∨ (48 ≤ c ∧ decide (c ≤ 57) = false) := by
                                  by_cases h1 : 48 ≤ c
                                  · exact .inr ⟨h1, decide_eq_false (fun h => hd ⟨h1, h⟩)⟩
                                  · exact .inl (decide_eq_false h1)
                                clear hd
                                cases c95 : (c == 95)
                                · rcases hd' with hd1 | ⟨hd1, hd2⟩
                                  all_goals
                                    go_wp2_with fail
                                    go_meet
                                    exact ⟨relE_mk p HP.out.1 HP.out.2 rfl, rfl⟩
                                · rcases hd' with hd1 | ⟨hd1, hd2⟩
                                  all_goals
                                    go_wp2
                                    exact relE_next HP.out.1 hp
                            · have hps : p = s.size := by have := HP.out.2; omega
                              subst hps
                              go_wp2_with fail
                              go_meet
                              exact ⟨relE_mk s.size HP.out.1 HP.out.2 rfl, rfl⟩
                      case rest =>
                        obtain ⟨⟨p, u9, z, HP, rfl, rfl, rfl⟩, rfl⟩ := hcut
                        as_aux_lemma =>
                          clear iq hg1 hg2 hbq hq hq'
                          have hpu : (p : Int) ≤ (s.size : Int) := by have := HP.out.2; omega
                          go_upto_if 241 with fail
                          go_cut [3] (fun x3 wx => (∃ z, x3 = .int .i64 z) ∧ w = wx)
                          case first =>
                            cases hM0 : (M != 0)
                            all_goals
                              go_wp2_with fail
                              go_meet
                              exact ⟨⟨_, rfl⟩, rfl⟩
                          case rest =>
                            obtain ⟨⟨zx, rfl⟩, rfl⟩ := hcut
                            cases u9
                            · go_wp2_with fail
                              try simp (config := {zetaDelta := true}) only [Exit.noGoto_ret]
                              refine bodyPost_ret (results_tmp7 rfl _ _ _) rfl ⟨?_, rfl⟩
                              exact retF_mk (p) _ rfl HM.out.1 HM.out.2 HP.out.2

                            · go_wp2_with fail
                              refine (HUS.out p HP.out.1 HP.out.2 _).mono ?_
                              rintro e wz ⟨⟨ub, rfl⟩, rfl⟩
                              cases ub
                              all_goals
                                go_wp2_with fail
                                try simp (config := {zetaDelta := true}) only [Exit.noGoto_ret]
                                refine bodyPost_ret (results_tmp7 rfl _ _ _) rfl ⟨?_, rfl⟩
                                exact retF_mk (p) _ rfl HM.out.1 HM.out.2 HP.out.2

                    · have hg' : d < 48 ∨ (48 ≤ d ∧ 57 < d) := by omega
                      clear hg
                      rcases hg' with hg1 | ⟨hg1, hg2⟩
                      all_goals
                        go_wp2_with fail
                        try simp (config := {zetaDelta := true}) only [Exit.noGoto_ret]
                        refine bodyPost_ret (results_tmp7 rfl _ _ _) rfl ⟨?_, rfl⟩
                        exact retF_mk (q) _ rfl HM.out.1 HM.out.2 HQ.out.2

                  · have hqs : q = s.size := by have := HQ.out.2; omega
                    subst hqs
                    go_wp2_with fail
                    try simp (config := {zetaDelta := true}) only [Exit.noGoto_ret]
                    refine bodyPost_ret (results_tmp7 rfl _ _ _) rfl ⟨?_, rfl⟩
                    exact retF_mk (s.size) _ rfl HM.out.1 HM.out.2 (Nat.le_refl _)

            · have hk1' : ¬ (k : Int) + 1 < (s.size : Int) := by omega
              go_wp2_with (go_at_call 119; refine (lower_any _ _).mono ?_; rw [hl]; rintro e w' ⟨rfl, rfl⟩)
              try simp (config := {zetaDelta := true}) only [Exit.noGoto_ret]
              refine bodyPost_ret (results_tmp7 rfl _ _ _) rfl ⟨?_, rfl⟩
              exact retF_mk (k + 1) _ (by omega) HM.out.1 HM.out.2 (by omega)

          · have hpb : (l == 112) = false := by simpa using hp
            clear hp
            go_wp2_with (go_at_call 119; refine (lower_any _ _).mono ?_; rw [hl]; rintro e w' ⟨rfl, rfl⟩)
            try simp (config := {zetaDelta := true}) only [Exit.noGoto_ret]
            refine bodyPost_ret (results_tmp7 rfl _ _ _) rfl ⟨?_, rfl⟩
            exact retF_mk (k) _ rfl HM.out.1 HM.out.2 HK.out.2

        · have hks : k = s.size := by omega
          subst hks
          go_wp2_with fail
          try simp (config := {zetaDelta := true}) only [Exit.noGoto_ret]
          refine bodyPost_ret (results_tmp7 rfl _ _ _) rfl ⟨?_, rfl⟩
          exact retF_mk (s.size) _ rfl HM.out.1 HM.out.2 (Nat.le_refl _)

end Go.Proofs.YtieldmakbokekaaGreatDoor.Oct
