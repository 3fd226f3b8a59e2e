/- The walk: What was used at the last commit is never told until another one; behind an abort all is as it was then. -/
import Derived.Test.YtdmahobldghojaaSj
import Derived.WalkKit
import Derived.ProofKit
import Derived.OpenShut
import Derived.ShutString
import Derived.ChangeOld
import Derived.Below
namespace Go.Proofs.Ytdmahobldghojaa.spaceSafe
open Go.ChangeShapes Go.WideShapes Go.ChangeAt Go.RowKit
open Go.Proofs.Ytdmahobldghojaa.Oct
set_option linter.unusedVariables false


set_option maxHeartbeats 4000000 in
set_option maxRecDepth 100000 in
theorem walk {Sp : World → Nat → (Nat → Prop) → List Int → Prop} (X : SpC Sp) (a0 : Option Addr) (cap0 : Nat) (l0 : List D2) (a1 : Option Addr) (cap1 : Nat) (l1 : List D2) (w : World) (w0 : IsD2 w a0 cap0 l0) (w1 : IsD2 w a1 cap1 l1) :
    Calls Try.prog 6 #[.slice a0 l0.length cap0, .slice a1 l1.length cap1] w fun e w' => e = .returned (.bool true) ∧ Below w.heap.size w w' := by
  have HA : Hid (IsD2 w a0 cap0 l0) := w0
  have HL : Hid (IsD2 w a1 cap1 l1) := w1
  clear w0 w1
  go_enter Try.func6, Try.ntmps6
  go_wp2_with fail
  refine (awake10 X w).mono ?_
  rintro x w1 ⟨rfl, hb1⟩
  have HB1 : Hid (Below w.heap.size w w1) := hb1
  have hlen0 : l0.length ≤ maxLen := Nat.le_trans HA.out.1 HA.out.2.1
  have hlen1 : l1.length ≤ maxLen := Nat.le_trans HL.out.1 HL.out.2.1
  unfold maxLen at hlen0 hlen1
  clear hb1
  by_cases hbig0 : 200 < l0.length
  · go_wp2
    go_ret
    exact ⟨rfl, HB1.out⟩
  by_cases hbig1 : 200 < l1.length
  · go_wp2
    go_ret
    exact ⟨rfl, HB1.out⟩
  clear hlen0 hlen1
  have hn := X.new_yes 20 w1 (by omega) (by omega)
  rw [show ((20 : Nat) : Int) = 20 from rfl] at hn
  go_wp2_with fail
  refine hn.mono ?_
  clear hn
  rintro x w2 ⟨s, F, rfl, h2, hb2, hF2⟩
  have HQ : Hid (∃ F S, S.length = 20 ∧ Ls Sp w w2 s F S) := ⟨F, newS 20, newS_len 20, h2, fun k hk => Nat.le_trans HB1.out.size (hF2 k hk), HB1.out.trans (hb2.mono HB1.out.size)⟩
  clear h2 hb2 hF2 HB1
  go_wp2_with fail
  go_loopw [7] (fun i wr => ∃ (k : Nat), k ≤ l0.length ∧ i = .int .i64 k ∧ ∃ F S, S.length = 20 ∧ Ls Sp w wr s F S) (fun i _ => l0.length - (intOf i).toNat)
  case atStart =>
    obtain ⟨F, S, h⟩ := HQ.out
    exact ⟨0, Nat.zero_le _, rfl, _, _, h⟩
  case round =>
    clear HQ
    obtain ⟨k, hk, rfl, F, S, hS, hP⟩ := hrel
    by_cases hlt : k < l0.length
    · obtain ⟨bb, off, rfl, hde⟩ := HA.out.at k hlt
      obtain ⟨dd, hdd⟩ : ∃ dd, l0.getD k noD2 = dd := ⟨_, rfl⟩
      rw [hdd] at hde
      obtain ⟨x0, x1, ⟨u1, u2⟩, ⟨v1, v2⟩⟩ := hde.below hP.bel
      have HP : Hid (Ls Sp w wr s F S) := hP
      clear hdd hde hP
      by_cases h4 : dd.do' ≤ 4
      · have hu := X.alloc HP.out.a
        go_wp2_with fail
        refine hu.mono ?_
        clear hu
        rintro x w6 ⟨rfl, F6, h6, st6⟩
        have HPz : Hid (Ls Sp w w6 s F6 (alL S)) := HP.out.step h6 st6
        have HSz : Hid ((alL S).length = 20) := (alL_len S).trans hS
        clear h6 st6
        go_wp2
        go_roundw
        case rel => exact ⟨k + 1, by omega, by go_num, _, _, HSz.out, HPz.out⟩
        case measure => simp [intOf]; omega
      · have hu := X.give HP.out.a dd.page ⟨v1, v2⟩
        go_wp2_with fail
        refine hu.mono ?_
        clear hu
        rintro x w6 ⟨rfl, F6, h6, st6⟩
        have HPz : Hid (Ls Sp w w6 s F6 (gvL S dd.page)) := HP.out.step h6 st6
        have HSz : Hid ((gvL S dd.page).length = 20) := (gvL_len S dd.page).trans hS
        clear h6 st6
        go_wp2
        go_roundw
        case rel => exact ⟨k + 1, by omega, by go_num, _, _, HSz.out, HPz.out⟩
        case measure => simp [intOf]; omega
    · have HP : Hid (Ls Sp w wr s F S) := hP
      have hu := X.commit hP.a
      have HT : Hid (trS 0 1 (trS 1 0 S) = trS 1 0 S) := tr_commit (X.ok hP.a)
      have HSc : Hid ((trS 1 0 S).length = 20) := (trS_len 1 0 S).trans hS
      obtain ⟨Sc, hSc⟩ : ∃ Sc, trS 1 0 S = Sc := ⟨_, rfl⟩
      rw [hSc] at hu HT HSc
      clear hP hSc
      go_wp2_with fail
      refine hu.mono ?_
      clear hu
      rintro x w3 ⟨rfl, F3, h3, st3⟩
      have HP3 : Hid (Ls Sp w w3 s F3 Sc) := HP.out.step h3 st3
      have hbt := X.bits h3
      obtain ⟨nb, hnb⟩ : ∃ nb, (Sc.length + 7) / 8 = nb := ⟨_, rfl⟩
      have hnb3 : nb = 3 := by have := HSc.out; omega
      subst hnb3
      rw [hnb] at hbt
      have HNB : Hid ((Sc.length + 7) / 8 = 3) := hnb
      clear h3 st3 HP hnb
      go_wp2_with fail
      refine hbt.mono ?_
      clear hbt
      rintro x w4 ⟨gb, cb, rfl, ho4, hb4⟩
      have HP4 : Hid (Ls Sp w w4 s F3 Sc) := HP3.out.below X hb4
      have HO4 : Hid (Own 0 w4 (.slice (some ⟨gb, 0, none⟩) 3 cb) (bitL Sc) ∧ ¬ F3 gb) := ⟨ho4.zero, fun e => by have := X.lt HP3.out.a gb e; have := ho4.lt2.1; omega⟩
      have hcb := (ho4.row' (bitL_bys Sc)).2
      have hcb1 := hcb.2.1
      have hcb2 := hcb.2.2.1
      rw [bitL_len, HNB.out] at hcb1
      unfold maxLen at hcb2
      have hfr := X.free HP4.out.a
      obtain ⟨fr, hfr'⟩ : ∃ fr, Sc.count 0 = fr := ⟨_, rfl⟩
      rw [hfr'] at hfr
      have HFR : Hid (Sc.count 0 = fr) := hfr'
      clear ho4 hb4 HP3 hfr' hcb
      go_wp2_with fail
      refine hfr.mono ?_
      clear hfr
      rintro x w5 ⟨rfl, hb5⟩
      have HQ : Hid (∃ F S, trS 0 1 S = Sc ∧ S.length = 20 ∧ Ls Sp w w5 s F S ∧ Own 0 w5 (.slice (some ⟨gb, 0, none⟩) 3 cb) (bitL Sc) ∧ ¬ F gb) := ⟨F3, Sc, HT.out, HSc.out, HP4.out.below X hb5, own_kpb HO4.out.1 hb5, HO4.out.2⟩
      clear hb5 HP4 HO4 HT
      go_wp2_with fail
      go_loopw [10] (fun i wr => ∃ (k : Nat), k ≤ l1.length ∧ i = .int .i64 k ∧ ∃ F S, trS 0 1 S = Sc ∧ S.length = 20 ∧ Ls Sp w wr s F S ∧ Own 0 wr (.slice (some ⟨gb, 0, none⟩) 3 cb) (bitL Sc) ∧ ¬ F gb) (fun i _ => l1.length - (intOf i).toNat)
      case atStart =>
        obtain ⟨F, S, h⟩ := HQ.out
        exact ⟨0, Nat.zero_le _, rfl, _, _, h⟩
      case round =>
        clear HQ
        obtain ⟨k2, hk2, rfl, F, S, hT, hS, hP, hO, hg⟩ := hrel
        by_cases hlt2 : k2 < l1.length
        · obtain ⟨bb, off, rfl, hde⟩ := HL.out.at k2 hlt2
          obtain ⟨dd, hdd⟩ : ∃ dd, l1.getD k2 noD2 = dd := ⟨_, rfl⟩
          rw [hdd] at hde
          obtain ⟨x0, x1, ⟨u1, u2⟩, ⟨v1, v2⟩⟩ := hde.below hP.bel
          have HP : Hid (Ls Sp w wr s F S) := hP
          have HO : Hid (Own 0 wr (.slice (some ⟨gb, 0, none⟩) 3 cb) (bitL Sc) ∧ ¬ F gb) := ⟨hO, hg⟩
          have HTT : Hid (trS 0 1 S = Sc) := hT
          clear hdd hde hP hO hg hT
          by_cases h4 : dd.do' ≤ 4
          · have hu := X.alloc HP.out.a
            have HTz : Hid (trS 0 1 (alL S) = Sc) := (tr_alL S).trans HTT.out
            have HSz : Hid ((alL S).length = 20) := (alL_len S).trans hS
            by_cases hf : frI S < S.length
            · have hbt := bit_told HTT.out hf
              have hby := (bitL_bys Sc).at (frI S / 8)
              rw [show alN S = (frI S : Int) from if_pos hf, show alE S = 0 from if_pos hf] at hu
              obtain ⟨n, hn⟩ : ∃ n, frI S = n := ⟨_, rfl⟩
              rw [hn] at hu hbt hf hby
              obtain ⟨y, hy⟩ : ∃ y, (bitL Sc).getD (n / 8) 0 = y := ⟨_, rfl⟩
              have HY : Hid ((bitL Sc).getD (n / 8) 0 = y) := hy
              rw [hy] at hbt hby
              obtain ⟨j, hj⟩ : ∃ j, n / 8 = j := ⟨_, rfl⟩
              obtain ⟨r, hr⟩ : ∃ r, n % 8 = r := ⟨_, rfl⟩
              have hnj : ((n : Int) / 8) = (j : Int) := by omega
              have hnr : ((n : Int) % 8) = (r : Int) := by omega
              have hr8 : r < 8 := by omega
              have hj3 : j < 3 := by omega
              rw [hr] at hbt
              rw [hj] at HY
              have HJ : Hid (j < (bitL Sc).length) := by show _ < _; rw [bitL_len]; have := HSc.out; omega
              clear hn hy hj hr
              go_wp2_with fail
              refine hu.mono ?_
              clear hu
              rintro x w6 ⟨rfl, F6, h6, st6⟩
              have HPz : Hid (Ls Sp w w6 s F6 (alL S)) := HP.out.step h6 st6
              have ho := own_step HO.out.1 HO.out.2 st6
              have HOz : Hid (Own 0 w6 (.slice (some ⟨gb, 0, none⟩) 3 cb) (bitL Sc) ∧ ¬ F6 gb) := ho
              obtain ⟨-, b1, -, -⟩ := own_at' ho.1 j HJ.out
              rw [HY.out] at b1
              clear h6 st6 ho
              go_wp2
              go_roundw
              case rel => exact ⟨k2 + 1, by omega, by go_num, _, _, HTz.out, HSz.out, HPz.out, HOz.out.1, HOz.out.2⟩
              case measure => simp [intOf]; omega
            · rw [show alN S = 0 from if_neg hf, show alE S = 6 from if_neg hf] at hu
              go_wp2_with fail
              refine hu.mono ?_
              clear hu
              rintro x w6 ⟨rfl, F6, h6, st6⟩
              have HPz : Hid (Ls Sp w w6 s F6 (alL S)) := HP.out.step h6 st6
              have HOz : Hid (Own 0 w6 (.slice (some ⟨gb, 0, none⟩) 3 cb) (bitL Sc) ∧ ¬ F6 gb) := own_step HO.out.1 HO.out.2 st6
              clear h6 st6
              go_wp2
              go_roundw
              case rel => exact ⟨k2 + 1, by omega, by go_num, _, _, HTz.out, HSz.out, HPz.out, HOz.out.1, HOz.out.2⟩
              case measure => simp [intOf]; omega
          · have hu := X.give HP.out.a dd.page ⟨v1, v2⟩
            go_wp2_with fail
            refine hu.mono ?_
            clear hu
            rintro x w6 ⟨rfl, F6, h6, st6⟩
            have HTz : Hid (trS 0 1 (gvL S dd.page) = Sc) := (tr_gvL S dd.page).trans HTT.out
            have HPz : Hid (Ls Sp w w6 s F6 (gvL S dd.page)) := HP.out.step h6 st6
            have HSz : Hid ((gvL S dd.page).length = 20) := (gvL_len S dd.page).trans hS
            have HOz : Hid (Own 0 w6 (.slice (some ⟨gb, 0, none⟩) 3 cb) (bitL Sc) ∧ ¬ F6 gb) := own_step HO.out.1 HO.out.2 st6
            clear h6 st6
            go_wp2
            go_roundw
            case rel => exact ⟨k2 + 1, by omega, by go_num, _, _, HTz.out, HSz.out, HPz.out, HOz.out.1, HOz.out.2⟩
            case measure => simp [intOf]; omega
        · have hu := X.abort hP.a
          rw [hT] at hu
          have HP : Hid (Ls Sp w wr s F S) := hP
          have HO : Hid (Own 0 wr (.slice (some ⟨gb, 0, none⟩) 3 cb) (bitL Sc) ∧ ¬ F gb) := ⟨hO, hg⟩
          clear hP hO hg hT
          go_wp2_with fail
          refine hu.mono ?_
          clear hu
          rintro x w6 ⟨rfl, F6, h6, st6⟩
          have HP6 : Hid (Ls Sp w w6 s F6 Sc) := HP.out.step h6 st6
          have HO6 : Hid (Own 0 w6 (.slice (some ⟨gb, 0, none⟩) 3 cb) (bitL Sc) ∧ ¬ F6 gb) := own_step HO.out.1 HO.out.2 st6
          have hfr := X.free h6
          rw [HFR.out] at hfr
          clear h6 st6 HP HO
          go_wp2_with (first | (go_at_call 13; refine hfr.mono ?_; clear hfr; rintro e w7 ⟨rfl, hb7⟩; have HP7 : Hid (Ls Sp w w7 s F6 Sc) := HP6.out.below X hb7; have HO7 : Hid (Own 0 w7 (.slice (some ⟨gb, 0, none⟩) 3 cb) (bitL Sc)) := own_kpb HO6.out.1 hb7; have hbt := X.bits HP7.out.a; rw [HNB.out] at hbt; clear hb7) | (go_at_call 28; refine hbt.mono ?_; clear hbt; rintro e w8 ⟨g, c, rfl, ho8, hb8⟩; have HB8 : Hid (Below w.heap.size w w8) := (HP7.out.below X hb8).bel; have hsm := same_g ho8.zero (own_kpb HO7.out hb8) (bitL_bys Sc) ((bitL_len Sc).trans HNB.out); clear ho8 hb8) | (go_at_call 27; refine hsm.mono ?_; clear hsm; rintro e w9 ⟨rfl, hb9⟩; have HB9 : Hid (Below w.heap.size w w9) := HB8.out.trans (hb9.mono HB8.out.size); clear hb9))
          go_ret
          exact ⟨rfl, HB9.out⟩

end Go.Proofs.Ytdmahobldghojaa.spaceSafe
