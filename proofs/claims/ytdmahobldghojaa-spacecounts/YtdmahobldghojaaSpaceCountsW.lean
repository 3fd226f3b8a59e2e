/- The walk: Those that are told are unlike, and as many as were free; then there are none; what is given up is free behind a commit. -/
import Derived.Test.YtdmahobldghojaaSk
import Derived.WalkKit
import Derived.ProofKit
import Derived.OpenShut
import Derived.ShutString
import Derived.ChangeOld
import Derived.Below
namespace Go.Proofs.Ytdmahobldghojaa.spaceCounts
open Go.ChangeShapes Go.WideShapes Go.ChangeAt Go.RowKit
open Go.Proofs.Ytdmahobldghojaa.Oct
set_option linter.unusedVariables false


set_option maxHeartbeats 4000000 in
set_option maxRecDepth 100000 in
theorem walk {Sp : World → Nat → (Nat → Prop) → List Int → Prop} (X : SpC Sp) (a0 : Int) (a1 : Option Addr) (cap1 : Nat) (l1 : List Int) (w : World) (w0 : -9223372036854775808 ≤ a0 ∧ a0 ≤ 9223372036854775807) (w1 : RowI w a1 cap1 l1) (n1 : ∀ z ∈ l1, -9223372036854775808 ≤ z ∧ z ≤ 9223372036854775807) :
    Calls Try.prog 7 #[.int .i64 a0, .slice a1 l1.length cap1] w fun e w' => e = .returned (.bool true) ∧ Below w.heap.size w w' := by
  have HR : Hid (RowI w a1 cap1 l1) := w1
  have HW : Hid (∀ z ∈ l1, -9223372036854775808 ≤ z ∧ z ≤ 9223372036854775807) := n1
  clear w1 n1
  go_enter Try.func7, Try.ntmps7
  go_wp2_with fail
  refine (awake10 X w).mono ?_
  rintro x w1 ⟨rfl, hb1⟩
  have HB1 : Hid (Below w.heap.size w w1) := hb1
  have hlen1 : l1.length ≤ maxLen := Nat.le_trans HR.out.1 HR.out.2.1
  unfold maxLen at hlen1
  clear hb1
  by_cases h8 : a0 < 8
  · go_wp2
    go_ret
    exact ⟨rfl, HB1.out⟩
  by_cases h200 : 200 < a0
  · go_wp2
    go_ret
    exact ⟨rfl, HB1.out⟩
  by_cases hbig1 : 100 < l1.length
  · go_wp2
    go_ret
    exact ⟨rfl, HB1.out⟩
  clear hlen1
  obtain ⟨N, rfl⟩ := Int.eq_ofNat_of_zero_le (show 0 ≤ a0 by omega)
  have hN8 : 8 ≤ N := by omega
  have hN2 : N ≤ 200 := by omega
  obtain ⟨R, rfl⟩ : ∃ R, N = R + 2 := ⟨N - 2, by omega⟩
  have hn := X.new_yes (R + 2) w1 (by omega) (by omega)
  rw [newS_fl3] at hn
  clear w0
  go_wp2_with fail
  refine hn.mono ?_
  clear hn
  rintro x w2 ⟨s, F, rfl, h2, hb2, hF2⟩
  have HQ2 : Hid (Ls Sp w w2 s F (fl3 1 2 0 0 R)) := ⟨h2, fun k hk => Nat.le_trans HB1.out.size (hF2 k hk), HB1.out.trans (hb2.mono HB1.out.size)⟩
  clear h2 hb2 hF2 HB1
  obtain ⟨i0, hi0, hz0, hz1, hz2⟩ := info_parts infoBl
  have hm : R + 2 ≤ maxLen := by unfold maxLen; omega
  go_wp2_with (at_make; refine wpList_make_full _ rfl _ _ 53 rfl w2.heap.size 4 i0 (.bool false) 1 Try.underlying53 hi0 hz0 hz1 .i64 .i64 _ _ (R + 2) rfl rfl rfl rfl (by rw [hz2]; omega) hm (Nat.le_refl _) ?_; intro w3 hown3 hgrow3)
  have hb3 : Below w2.heap.size w2 w3 := (Below.refl _ w2).grown hgrow3 (Nat.le_refl _) (by simp)
  obtain ⟨gs, hgs⟩ : ∃ gs, w2.heap.size = gs := ⟨_, rfl⟩
  have HQ : Hid (∃ F, Ls Sp w w3 s F (fl3 1 2 0 0 R) ∧ OwnB 0 w3 (.slice (some ⟨gs, 0, none⟩) (R + 2) (R + 2)) (fl3 false true false 0 R) ∧ ¬ F gs) := ⟨F, HQ2.out.below X hb3, by rw [← rep_fl3, ← hgs]; exact owns_base (made_ownB hown3) (fun _ _ => Nat.zero_le _), fun e => by have := X.lt HQ2.out.a gs e; omega⟩
  have HGS : Hid (w.heap.size ≤ gs) := by show _ ≤ _; rw [← hgs]; exact HQ2.out.bel.size
  rw [hgs]
  clear hown3 hgrow3 hb3 HQ2 hgs hm hi0 hz0 hz1 hz2
  go_loopw [8] (fun i wr => ∃ (k r : Nat), k + r = R ∧ i = .int .i64 k ∧ ∃ F, Ls Sp w wr s F (fl3 1 2 0 k r) ∧ OwnB 0 wr (.slice (some ⟨gs, 0, none⟩) (R + 2) (R + 2)) (fl3 false true false k r) ∧ ¬ F gs) (fun i _ => R - (intOf i).toNat)
  case atStart =>
    obtain ⟨F, h⟩ := HQ.out
    exact ⟨0, R, by omega, rfl, _, h⟩
  case round =>
    clear HQ
    obtain ⟨k, r, hkr, rfl, F, hP, hO, hg⟩ := hrel
    cases r with
    | succ r =>
      have hu := X.alloc hP.a
      obtain ⟨e1, e2, e3⟩ := fl3_al k r
      rw [e1, e2, e3] at hu
      have HP : Hid (Ls Sp w wr s F (fl3 1 2 0 k (r + 1))) := hP
      have HO : Hid (OwnB 0 wr (.slice (some ⟨gs, 0, none⟩) (R + 2) (R + 2)) (fl3 false true false k (r + 1)) ∧ ¬ F gs) := ⟨hO, hg⟩
      have hR : ((R + 2 : Nat) : Int) = (k : Int) + r + 3 := by omega
      clear hP hO hg e1 e2 e3
      go_wp2_with fail
      refine hu.mono ?_
      clear hu
      rintro x w6 ⟨rfl, F6, h6, st6⟩
      have HP6 : Hid (Ls Sp w w6 s F6 (fl3 1 2 0 (k + 1) r)) := HP.out.step h6 st6
      have hlt := (ownB_at HO.out.1).2.2.2.1
      have ho6 : OwnB 0 w6 (.slice (some ⟨gs, 0, none⟩) (R + 2) (R + 2)) (fl3 false true false k (r + 1)) := HO.out.1.kept (st6.1.block gs hlt HO.out.2)
      have HO6 : Hid (OwnB 0 w6 (.slice (some ⟨gs, 0, none⟩) (R + 2) (R + 2)) (fl3 false true false k (r + 1)) ∧ ¬ F6 gs) := ⟨ho6, fun e => by
        rcases st6.2 gs e with e | e
        · exact HO.out.2 e
        · omega⟩
      have hfr := X.free h6
      rw [fl3_free] at hfr
      obtain ⟨-, -, -, hgl, hat⟩ := ownB_at ho6
      have b1 := ((hat (2 + k)).2 (by rw [fl3_len]; omega)).1
      rw [List.getD_eq_getElem?_getD, fl3_at (by omega), Option.getD_some] at b1
      have z1 := (hat (2 + k)).1
      obtain ⟨n, hn⟩ : ∃ n, 2 + k = n := ⟨_, rfl⟩
      have n1 : ((n : Int) < 2) = False := eq_false (by omega)
      have n2 : ((R : Int) + 2 ≤ (n : Int)) = False := eq_false (by omega)
      have n3 : n < R + 2 := by omega
      have n4 : (R : Int) + 2 - 3 - k = r := by omega
      have HN : Hid (2 + k = n) := hn
      rw [hn] at b1 z1 ⊢
      clear hn hR hat ho6 hlt h6 st6
      go_wp2_with (go_at_call 13; refine hfr.mono ?_; clear hfr; rintro e w7 ⟨rfl, hb7⟩; have HP7 : Hid (Ls Sp w w7 s F6 (fl3 1 2 0 (k + 1) r)) := HP6.out.below X hb7; have HO7 : Hid (OwnB 0 w7 (.slice (some ⟨gs, 0, none⟩) (R + 2) (R + 2)) (fl3 false true false k (r + 1))) := HO6.out.1.kept (hb7.block gs hgl); have b7 := (hb7.cell (p := ⟨gs, n, none⟩) hgl).trans b1; have z7 := (hb7.frozen (p := ⟨gs, n, none⟩) hgl).trans z1; clear hb7)
      have HPz : Hid (Ls Sp w (w7.setCell ⟨gs, n, none⟩ (.bool true)) s F6 (fl3 1 2 0 (k + 1) r)) := ⟨X.ch HP7.out.a (Ch.set (F := fun x => x = gs) rfl n _) (fun x hx e => HO6.out.2 (e ▸ hx)), HP7.out.lF, HP7.out.bel.setCell HGS.out _⟩
      have HOz : Hid (OwnB 0 (w7.setCell ⟨gs, n, none⟩ (.bool true)) (.slice (some ⟨gs, 0, none⟩) (R + 2) (R + 2)) (fl3 false true false (k + 1) r)) := by
        have h := (((ownB_at HO7.out).2.2.2.2 n).2 (by rw [fl3_len, ← HN.out]; omega)).2 true
        rw [← HN.out, fl3_set] at h
        rw [← HN.out]
        exact h
      go_roundw
      case rel => exact ⟨k + 1, r, by omega, by go_num, _, HPz.out, HOz.out, HO6.out.2⟩
      case measure => simp [intOf]; omega
    | zero =>
      have hu := X.alloc hP.a
      obtain ⟨e1, e2⟩ := fl3_end k
      rw [e1, e2] at hu
      have HP : Hid (Ls Sp w wr s F (fl3 1 2 0 k 0)) := hP
      have hkR : k = R := by omega
      subst hkR
      clear hP hO hg e1 e2 hkr HGS
      go_wp2_with fail
      refine hu.mono ?_
      clear hu
      rintro x w6 ⟨rfl, F6, h6, st6⟩
      have HP6 : Hid (Ls Sp w w6 s F6 (fl3 1 2 0 k 0)) := HP.out.step h6 st6
      have hcm := X.commit h6
      rw [fl3_done] at hcm
      clear h6 st6 HP
      go_wp2_with fail
      refine hcm.mono ?_
      clear hcm
      rintro x w7 ⟨rfl, F7, h7, st7⟩
      have HQ : Hid (∃ F S, Gv (k + 2) 0 S ∧ Ls Sp w w7 s F S) := ⟨F7, _, Gv.start (k + 2), HP6.out.step h7 st7⟩
      clear h7 st7 HP6
      go_wp2_with fail
      go_loopw [11, 12] (fun c i wr => ∃ (j n : Nat), j ≤ l1.length ∧ n ≤ j ∧ c = .int .i64 n ∧ i = .int .i64 j ∧ ∃ F S, Gv (k + 2) n S ∧ Ls Sp w wr s F S) (fun _ i _ => l1.length - (intOf i).toNat)
      case atStart =>
        obtain ⟨F, S, h⟩ := HQ.out
        exact ⟨0, 0, Nat.zero_le _, Nat.le_refl _, rfl, rfl, _, _, h⟩
      case round =>
        clear HQ
        obtain ⟨j, n, hj, hnj, rfl, rfl, F, S, hG, hP⟩ := hrel
        have HP : Hid (Ls Sp w wr s F S) := hP
        have HG : Hid (Gv (k + 2) n S) := hG
        by_cases hlt : j < l1.length
        · obtain ⟨bb, off, rfl, c1⟩ := (HR.out.below hP.bel).at' j hlt
          have hw := HW.out (l1.getD j 0) (by rw [List.getD_eq_getElem?_getD, List.getElem?_eq_getElem hlt]; exact List.getElem_mem hlt)
          obtain ⟨p, hp⟩ : ∃ p, l1.getD j 0 = p := ⟨_, rfl⟩
          rw [hp] at c1 hw
          have hu := X.give hP.a p hw
          clear hP hp hw
          rcases hG.give p with ⟨g0, g1⟩ | ⟨g0, g1⟩
          · rw [g0] at hu
            have HG1 : Hid (Gv (k + 2) (n + 1) (gvL S p)) := g1
            clear g0 g1 hG
            go_wp2_with fail
            refine hu.mono ?_
            clear hu
            rintro x w8 ⟨rfl, F8, h8', st8⟩
            have HPz : Hid (Ls Sp w w8 s F8 (gvL S p)) := HP.out.step h8' st8
            clear h8' st8
            go_wp2
            go_roundw
            case rel => exact ⟨j + 1, n + 1, by omega, by omega, by go_num, by go_num, _, _, HG1.out, HPz.out⟩
            case measure => simp [intOf]; omega
          · obtain ⟨ge, hge⟩ : ∃ ge, gvE S p = ge := ⟨_, rfl⟩
            rw [hge] at hu g0
            rw [g1] at hu
            clear g1 hG hge
            go_wp2_with fail
            refine hu.mono ?_
            clear hu
            rintro x w8 ⟨rfl, F8, h8', st8⟩
            have HPz : Hid (Ls Sp w w8 s F8 S) := HP.out.step h8' st8
            clear h8' st8
            go_wp2
            go_roundw
            case rel => exact ⟨j + 1, n, by omega, by omega, rfl, by go_num, _, _, HG.out, HPz.out⟩
            case measure => simp [intOf]; omega
        · have hfr := X.free hP.a
          rw [hG.free] at hfr
          have hnn := hG.le
          clear hP hG
          go_wp2_with fail
          refine hfr.mono ?_
          clear hfr
          rintro x w8 ⟨rfl, hb8⟩
          have HP8 : Hid (Ls Sp w w8 s F S) := HP.out.below X hb8
          have hcm := X.commit HP8.out.a
          clear hb8 HP
          go_wp2_with fail
          refine hcm.mono ?_
          clear hcm
          rintro x w9 ⟨rfl, F9, h9, st9⟩
          have HP9 : Hid (Ls Sp w w9 s F9 (trS 1 0 S)) := HP8.out.step h9 st9
          have hfr := X.free h9
          rw [HG.out.done] at hfr
          clear h9 st9 HP8
          go_wp2_with fail
          refine hfr.mono ?_
          clear hfr
          rintro x wa ⟨rfl, hba⟩
          have HBa : Hid (Below w.heap.size w wa) := (HP9.out.below X hba).bel
          clear hba
          go_wp2
          go_ret
          exact ⟨by simp, HBa.out⟩

end Go.Proofs.Ytdmahobldghojaa.spaceCounts
