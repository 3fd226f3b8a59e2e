/-
  internal/strconv's readFloat, at texts that begin with -0x: it returns.
-/
import Derived.Test.YtieldmakbokekaaGreatDoorWc
import Derived.Deep.CutBlock
import Derived.Deep.DeepCutAuto
namespace Go.Proofs.YtieldmakbokekaaGreatDoor.Oct
open Go.RowKit
open Go.Proofs.YtieldmakbokekaaGreatDoor.Fl

set_option maxHeartbeats 40000000 in
set_option maxRecDepth 100000 in
theorem rfn_tot (s : ByteArray) (w : World) (hs : (4 : Int) ≤ (s.size : Int)) (hm : (s.size : Int) ≤ 9223372036854775807) (hse : ¬ s = ByteArray.empty)
    (iz : ∀ W, (Instr.index 9 (.string s) (.int .i64 0)).run Tryz.prog W = .ok (.int .u8 45) W)
    (i0 : ∀ W, (Instr.index 9 (.string s) (.int .i64 1)).run Tryz.prog W = .ok (.int .u8 48) W)
    (i1 : ∀ W, (Instr.index 9 (.string s) (.int .i64 2)).run Tryz.prog W = .ok (.int .u8 120) W)
    (HUS : Hid (∀ k : Nat, 3 ≤ k → k ≤ s.size → ∀ v, Calls Tryz.prog 120 #[.string (s.extract 0 k)] v fun e w' => RetB e ∧ v = w')) :
    Calls Tryz.prog 104 #[.string s] w fun e w' => RetF s true e ∧ w = w' := by
  go_enter Tryz.func104, Tryz.ntmps104
  go_wp2_with fail
  go_step3
  have lw : bits .or .u8 120 32 = 120 := by decide
  go_wp2_with (go_at_call 119; refine (lower_any _ _).mono ?_; rintro e w' ⟨rfl, rfl⟩)
  go_step3
  go_upto_block 1 with fail
  clear i0 i1 iz lw
  go_cut [2, 5, 7, 9, 13, 14, 15, 16, 17] (fun x2 x5 x7 x9 x13 x14 x15 x16 x17 wx => RelF 3 s x2 x5 x7 x9 x13 x14 x15 x16 x17 ∧ w = wx)
  case first =>
    as_aux_lemma =>
      go_wp2_with fail
      go_loop [2, 5, 7, 9, 13, 14, 15, 16, 17] (fun x2 x5 x7 x9 x13 x14 x15 x16 x17 => RelF 3 s x2 x5 x7 x9 x13 x14 x15 x16 x17) (fun _ _ x7 _ _ _ _ _ _ => s.size - (intOf x7).toNat)
      case atStart => exact relF_mk 3 (Nat.le_refl _) (by omega) (by omega) (by omega)
      case round =>
        obtain ⟨k, M, n15, n16, n17, b5, b9, b13, b14, HT, rfl, rfl, rfl, rfl, rfl, rfl, rfl, rfl, rfl⟩ := hrel
        by_cases hlt : k < s.size
        · have ik := idx_byt s k hlt
          have hbd := byt_bd s k
          have hlt' : (k : Int) < (s.size : Int) := by omega
          obtain ⟨c, hc⟩ : ∃ c, byt s k = c := ⟨_, rfl⟩
          rw [hc] at ik hbd
          clear hc
          obtain ⟨l, hl⟩ : ∃ l, bits .or .u8 c 32 = l := ⟨_, rfl⟩
          have HN : Hid (3 ≤ k ∧ k < s.size) := ⟨HT.out.1, hlt⟩
          by_cases c95 : c = 95
          · subst c95
            go_wp2_with (go_at_call 119; refine (lower_any _ _).mono ?_; rw [hl]; rintro e w' ⟨rfl, rfl⟩)
            exact relF_next HN.out HT.out.2.2.1 HT.out.2.2.2
          by_cases c46 : c = 46
          · subst c46
            have hl46 : l = 46 := by rw [← hl]; decide
            subst hl46
            cases b13
            · go_wp2_with (go_at_call 119; refine (lower_any _ _).mono ?_; rw [hl]; rintro e w' ⟨rfl, rfl⟩)
              exact relF_next HN.out HT.out.2.2.1 HT.out.2.2.2
            · go_wp2_with (go_at_call 119; refine (lower_any _ _).mono ?_; rw [hl]; rintro e w' ⟨rfl, rfl⟩)
              go_meet
              exact ⟨relF_mk k HT.out.1 HT.out.2.1 HT.out.2.2.1 HT.out.2.2.2, rfl⟩
          have b95 : (c == 95) = false := by simpa using c95
          have b46 : (c == 46) = false := by simpa using c46
          clear c95 c46
          by_cases hd : 48 ≤ c ∧ c ≤ 57
          · obtain ⟨hd1, hd2⟩ := hd
            by_cases h16 : n16 < 16
            all_goals
              cases h48 : (c == 48) <;> cases h15 : (n15 == 0)
              all_goals
                go_wp2_with (go_at_call 119; refine (lower_any _ _).mono ?_; rw [hl]; rintro e w' ⟨rfl, rfl⟩)
                first
                  | exact relF_next HN.out HT.out.2.2.1 HT.out.2.2.2
                  | exact relF_next HN.out (u64_bd _).1 (u64_bd _).2
          have hd' : decide (48 ≤ c) = false ∨ (48 ≤ c ∧ decide (c ≤ 57) = false) := by
            by_cases h1 : 48 ≤ c
            · exact .inr ⟨h1, decide_eq_false (fun h => hd ⟨h1, h⟩)⟩
            · exact .inl (decide_eq_false h1)
          clear hd
          by_cases hx : 97 ≤ l ∧ l ≤ 102
          · obtain ⟨hx1, hx2⟩ := hx
            by_cases h16 : n16 < 16
            all_goals
              rcases hd' with hd1 | ⟨hd1, hd2⟩
              all_goals
                go_wp2_with (go_at_call 119; refine (lower_any _ _).mono ?_; rw [hl]; rintro e w' ⟨rfl, rfl⟩)
                first
                  | exact relF_next HN.out HT.out.2.2.1 HT.out.2.2.2
                  | exact relF_next HN.out (u64_bd _).1 (u64_bd _).2
          have hx' : decide (97 ≤ l) = false ∨ (97 ≤ l ∧ decide (l ≤ 102) = false) := by
            by_cases h1 : 97 ≤ l
            · exact .inr ⟨h1, decide_eq_false (fun h => hx ⟨h1, h⟩)⟩
            · exact .inl (decide_eq_false h1)
          clear hx
          rcases hd' with hd1 | ⟨hd1, hd2⟩ <;> rcases hx' with hx1 | ⟨hx1, hx2⟩
          all_goals
            go_wp2_with (go_at_call 119; refine (lower_any _ _).mono ?_; rw [hl]; rintro e w' ⟨rfl, rfl⟩)
            go_meet
            exact ⟨relF_mk k HT.out.1 HT.out.2.1 HT.out.2.2.1 HT.out.2.2.2, rfl⟩
        · have hks : k = s.size := by have := HT.out.2.1; omega
          subst hks
          go_wp2_with fail
          go_meet
          exact ⟨relF_mk s.size HT.out.1 HT.out.2.1 HT.out.2.2.1 HT.out.2.2.2, rfl⟩
  case rest =>
    obtain ⟨⟨k, M, n15, n16, n17, b5, b9, b13, b14, HT, rfl, rfl, rfl, rfl, rfl, rfl, rfl, rfl, rfl⟩, rfl⟩ := hcut
    have HM : Hid (0 ≤ M ∧ M < 18446744073709551616) := HT.out.2.2
    have hkl : 3 ≤ k := HT.out.1
    have hku : k ≤ s.size := HT.out.2.1
    have HK : Hid (3 ≤ k ∧ k ≤ s.size) := ⟨hkl, hku⟩
    clear HT
    cases b14
    · go_wp2_with fail
      try simp (config := {zetaDelta := true}) only [Exit.noGoto_ret]
      refine bodyPost_ret (results_tmp7 rfl _ _ _) rfl ⟨?_, rfl⟩
      exact retF_mk (k) _ rfl HM.out.1 HM.out.2 HK.out.2

    · go_upto_if 142 with fail
      go_cut [17] (fun x17 wx => (∃ z, x17 = .int .i64 z) ∧ w = wx)
      case first =>
        cases b13
        all_goals
          go_wp2_with fail
          go_meet
          exact ⟨⟨_, rfl⟩, rfl⟩
      case rest =>
        obtain ⟨⟨n17b, rfl⟩, rfl⟩ := hcut
        go_upto_region 57 with fail
        obtain ⟨z16, e16⟩ : ∃ z, IntKind.i64.wrap (n16 * 4) = z := ⟨_, rfl⟩
        obtain ⟨z17, e17⟩ : ∃ z, IntKind.i64.wrap (n17b * 4) = z := ⟨_, rfl⟩
        by_cases hlt : k < s.size
        · have ik := idx_byt s k hlt
          have hbd := byt_bd s k
          have hlt' : (k : Int) < (s.size : Int) := by omega
          obtain ⟨c, hc⟩ : ∃ c, byt s k = c := ⟨_, rfl⟩
          rw [hc] at ik hbd
          clear hc
          obtain ⟨l, hl⟩ : ∃ l, bits .or .u8 c 32 = l := ⟨_, rfl⟩
          by_cases hp : l = 112
          · subst hp
            by_cases hk1 : k + 1 < s.size
            · have ik1 : ∀ W, (Instr.index 9 (.string s) (.int .i64 ((k : Int) + 1))).run Tryz.prog W = .ok (.int .u8 (byt s (k + 1))) W := idx_byt s (k + 1) hk1
              have hb1 := byt_bd s (k + 1)
              have hk1' : (k : Int) + 1 < (s.size : Int) := by omega
              obtain ⟨c1, hc1⟩ : ∃ c, byt s (k + 1) = c := ⟨_, rfl⟩
              rw [hc1] at ik1 hb1
              clear hc1
              go_upto_block 4 with (go_at_call 119; refine (lower_any _ _).mono ?_; rw [hl]; rintro e w' ⟨rfl, rfl⟩)
              go_cut [7, 19] (fun x7 x19 wx => (∃ (q : Nat) (e : Int), Hid (3 ≤ q ∧ q ≤ s.size) ∧ x7 = .int .i64 (q : Int) ∧ x19 = .int .i64 e) ∧ w = wx)
              case first =>
                as_aux_lemma =>
                  have hsg : c1 = 43 ∨ c1 = 45 ∨ ((c1 == 43) = false ∧ (c1 == 45) = false) := by
                    by_cases h1 : c1 = 43
                    · exact .inl h1
                    · by_cases h2 : c1 = 45
                      · exact .inr (.inl h2)
                      · exact .inr (.inr ⟨by simpa using h1, by simpa using h2⟩)
                  rcases hsg with rfl | rfl | ⟨hs1, hs2⟩
                  · go_wp2_with fail
                    go_meet
                    exact ⟨⟨k + 2, _, ⟨by omega, by omega⟩, by congr 1, rfl⟩, rfl⟩
                  · go_wp2_with fail
                    go_meet
                    exact ⟨⟨k + 2, _, ⟨by omega, by omega⟩, by congr 1, rfl⟩, rfl⟩
                  · go_wp2_with fail
                    go_meet
                    exact ⟨⟨k + 1, _, ⟨by omega, by omega⟩, by congr 1, rfl⟩, rfl⟩
              case rest =>
                obtain ⟨⟨q, es, HQ, rfl, rfl⟩, rfl⟩ := hcut
                as_aux_lemma =>
                  clear ik ik1 hlt hlt' hk1 hk1' hb1 hbd hl
                  by_cases hq : q < s.size
                  · have iq := idx_byt s q hq
                    have hbq := byt_bd s q
                    have hq' : (q : Int) < (s.size : Int) := by omega
                    obtain ⟨d, hd⟩ : ∃ c, byt s q = c := ⟨_, rfl⟩
                    rw [hd] at iq hbq
                    clear hd
                    by_cases hg : 48 ≤ d ∧ d ≤ 57
                    · obtain ⟨hg1, hg2⟩ := hg
                      have k1 : decide (s.size ≤ q) = false := decide_eq_false (by omega)
                      have k2 : decide (d < 48) = false := decide_eq_false (by omega)
                      have k3 : decide (57 < d) = false := decide_eq_false (by omega)
                      go_upto_block 5 with fail
                      clear k1 k2 k3
                      go_cut [7, 9, 20] (fun x7 x9 x20 wx => RelE 3 s x7 x9 x20 ∧ w = wx)
                      case first =>
                        as_aux_lemma =>
                          clear iq hg1 hg2 hbq
                          go_wp2_with fail
                          go_loop [7, 9, 20] (fun x7 x9 x20 => RelE 3 s x7 x9 x20) (fun x7 _ _ => s.size - (intOf x7).toNat)
                          case atStart => exact relE_mk q HQ.out.1 HQ.out.2 rfl
                          case round =>
                            obtain ⟨p, u9, z, HP, rfl, rfl, rfl⟩ := hrel
                            clear hq hq'
                            by_cases hp : p < s.size
                            · have ip := idx_byt s p hp
                              have hbp := byt_bd s p
                              have hp' : (p : Int) < (s.size : Int) := by omega
                              obtain ⟨c, hc⟩ : ∃ c, byt s p = c := ⟨_, rfl⟩
                              rw [hc] at ip hbp
                              clear hc
                              by_cases hd : 48 ≤ c ∧ c ≤ 57
                              · obtain ⟨hd1, hd2⟩ := hd
                                have c95 : (c == 95) = false := by simp; omega
                                by_cases h4 : z < 10000
                                · go_wp2
                                  exact relE_next HP.out.1 hp
                                · go_wp2
                                  exact relE_next HP.out.1 hp
                              · have hd' : decide (48 ≤ c) = false ∨ (48 ≤ c ∧ decide (c ≤ 57) = false) := by
                                  by_cases h1 : 48 ≤ c
                                  · exact .inr ⟨h1, decide_eq_false (fun h => hd ⟨h1, h⟩)⟩
                                  · exact .inl (decide_eq_false h1)
                                clear hd
                                cases c95 : (c == 95)
                                · rcases hd' with hd1 | ⟨hd1, hd2⟩
                                  all_goals
                                    go_wp2_with fail
                                    go_meet
                                    exact ⟨relE_mk p HP.out.1 HP.out.2 rfl, rfl⟩
                                · rcases hd' with hd1 | ⟨hd1, hd2⟩
                                  all_goals
                                    go_wp2
                                    exact relE_next HP.out.1 hp
                            · have hps : p = s.size := by have := HP.out.2; omega
                              subst hps
                              go_wp2_with fail
                              go_meet
                              exact ⟨relE_mk s.size HP.out.1 HP.out.2 rfl, rfl⟩
                      case rest =>
                        obtain ⟨⟨p, u9, z, HP, rfl, rfl, rfl⟩, rfl⟩ := hcut
                        as_aux_lemma =>
                          clear iq hg1 hg2 hbq hq hq'
                          have hpu : (p : Int) ≤ (s.size : Int) := by have := HP.out.2; omega
                          go_upto_if 241 with fail
                          go_cut [3] (fun x3 wx => (∃ z, x3 = .int .i64 z) ∧ w = wx)
                          case first =>
                            cases hM0 : (M != 0)
                            all_goals
                              go_wp2_with fail
                              go_meet
                              exact ⟨⟨_, rfl⟩, rfl⟩
                          case rest =>
                            obtain ⟨⟨zx, rfl⟩, rfl⟩ := hcut
                            cases u9
                            · go_wp2_with fail
                              try simp (config := {zetaDelta := true}) only [Exit.noGoto_ret]
                              refine bodyPost_ret (results_tmp7 rfl _ _ _) rfl ⟨?_, rfl⟩
                              exact retF_mk (p) _ rfl HM.out.1 HM.out.2 HP.out.2

                            · go_wp2_with fail
                              refine (HUS.out p HP.out.1 HP.out.2 _).mono ?_
                              rintro e wz ⟨⟨ub, rfl⟩, rfl⟩
                              cases ub
                              all_goals
                                go_wp2_with fail
                                try simp (config := {zetaDelta := true}) only [Exit.noGoto_ret]
                                refine bodyPost_ret (results_tmp7 rfl _ _ _) rfl ⟨?_, rfl⟩
                                exact retF_mk (p) _ rfl HM.out.1 HM.out.2 HP.out.2

                    · have hg' : d < 48 ∨ (48 ≤ d ∧ 57 < d) := by omega
                      clear hg
                      rcases hg' with hg1 | ⟨hg1, hg2⟩
                      all_goals
                        go_wp2_with fail
                        try simp (config := {zetaDelta := true}) only [Exit.noGoto_ret]
                        refine bodyPost_ret (results_tmp7 rfl _ _ _) rfl ⟨?_, rfl⟩
                        exact retF_mk (q) _ rfl HM.out.1 HM.out.2 HQ.out.2

                  · have hqs : q = s.size := by have := HQ.out.2; omega
                    subst hqs
                    go_wp2_with fail
                    try simp (config := {zetaDelta := true}) only [Exit.noGoto_ret]
                    refine bodyPost_ret (results_tmp7 rfl _ _ _) rfl ⟨?_, rfl⟩
                    exact retF_mk (s.size) _ rfl HM.out.1 HM.out.2 (Nat.le_refl _)

            · have hk1' : ¬ (k : Int) + 1 < (s.size : Int) := by omega
              go_wp2_with (go_at_call 119; refine (lower_any _ _).mono ?_; rw [hl]; rintro e w' ⟨rfl, rfl⟩)
              try simp (config := {zetaDelta := true}) only [Exit.noGoto_ret]
              refine bodyPost_ret (results_tmp7 rfl _ _ _) rfl ⟨?_, rfl⟩
              exact retF_mk (k + 1) _ (by omega) HM.out.1 HM.out.2 (by omega)

          · have hpb : (l == 112) = false := by simpa using hp
            clear hp
            go_wp2_with (go_at_call 119; refine (lower_any _ _).mono ?_; rw [hl]; rintro e w' ⟨rfl, rfl⟩)
            try simp (config := {zetaDelta := true}) only [Exit.noGoto_ret]
            refine bodyPost_ret (results_tmp7 rfl _ _ _) rfl ⟨?_, rfl⟩
            exact retF_mk (k) _ rfl HM.out.1 HM.out.2 HK.out.2

        · have hks : k = s.size := by omega
          subst hks
          go_wp2_with fail
          try simp (config := {zetaDelta := true}) only [Exit.noGoto_ret]
          refine bodyPost_ret (results_tmp7 rfl _ _ _) rfl ⟨?_, rfl⟩
          exact retF_mk (s.size) _ rfl HM.out.1 HM.out.2 (Nat.le_refl _)

end Go.Proofs.YtieldmakbokekaaGreatDoor.Oct
