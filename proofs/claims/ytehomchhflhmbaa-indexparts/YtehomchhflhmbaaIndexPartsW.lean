/- The walk: In whatever two parts and steps the bytes come, the index tells the same. -/
import Derived.Test.YtehomchhflhmbaaXne
import Derived.Test.YtehomchhflhmbaaXnc
import Derived.WalkKit
import Derived.ProofKit
import Derived.OpenShut
import Derived.ShutString
import Derived.ChangeOld
import Derived.Below
namespace Go.Proofs.Ytehomchhflhmbaa.indexParts
open Go.ChangeShapes Go.WideShapes Go.ChangeAt Go.RowKit
open Go.Proofs.Ytehomchhflhmbaa.Oct
set_option linter.unusedVariables false


set_option maxHeartbeats 4000000 in
set_option maxRecDepth 100000 in
theorem walk {Ix : World → Nat → (Nat → Prop) → List Int → Prop} (X : IxC Ix) (a0 : Option Addr) (cap0 : Nat) (l0 : List Int) (a1 : Option Addr) (cap1 : Nat) (l1 : List Int) (a2 : Int) (w : World) (w0 : Row w a0 cap0 l0) (n0 : a0 = none → cap0 = 0) (w1 : Row w a1 cap1 l1) (n1 : a1 = none → cap1 = 0) (w2 : -9223372036854775808 ≤ a2 ∧ a2 ≤ 9223372036854775807) :
    Calls Try.prog 5 #[.slice a0 l0.length cap0, .slice a1 l1.length cap1, .int .i64 a2] w fun e w' => e = .returned (.bool true) ∧ Below w.heap.size w w' := by
  have HR0 : Hid (Row w a0 cap0 l0) := w0
  have HR1 : Hid (Row w a1 cap1 l1) := w1
  have HNN : Hid ((a0 = none → cap0 = 0) ∧ (a1 = none → cap1 = 0)) := ⟨n0, n1⟩
  have hc0 := w0.2.1
  have hm0 := w0.2.2.1
  have hc1 := w1.2.1
  have hm1 := w1.2.2.1
  unfold maxLen at hm0 hm1
  clear w0 w1 n0 n1
  obtain ⟨n, hn⟩ : ∃ n, l0.length = n := ⟨_, rfl⟩
  obtain ⟨m, hm⟩ : ∃ m, l1.length = m := ⟨_, rfl⟩
  have HN : Hid (l0.length = n ∧ l1.length = m) := ⟨hn, hm⟩
  rw [hn] at hc0 ⊢
  rw [hm] at hc1 ⊢
  clear hn hm
  have HW2 : Hid (-9223372036854775808 ≤ a2 ∧ a2 ≤ 9223372036854775807) := w2
  clear w2
  by_cases hbig : 3000 < n ∨ 3000 < m
  · go_enter Try.func5, Try.ntmps5
    by_cases hb0 : 3000 < n
    all_goals (
      have hb1 : 3000 < n ∨ 3000 < m := hbig
      go_wp2_with (first
        | (go_at_call 7; refine (awake16 X w).mono ?_; rintro e w1 ⟨rfl, hb0⟩
           have H0 : Hid (Below w.heap.size w w1) := hb0
           clear hb0))
      go_ret
      exact ⟨rfl, H0.out⟩)
  have hn3 : n ≤ 3000 := by omega
  have hm3 : m ≤ 3000 := by omega
  clear hbig
  go_enter Try.func5, Try.ntmps5
  go_wp2_with (first
    | (go_at_call 7; refine (awake16 X w).mono ?_; rintro e w1 ⟨rfl, hb0⟩
       have hnw := X.new w1
       have H0 : Hid (Below w.heap.size w w1) := hb0
       clear hb0)
    | (go_at_call 8; refine hnw.mono ?_; clear hnw; rintro e w2 ⟨s, F, rfl, h1, hb1, hF⟩
       have H1 : Hid (IxL Ix w w2 s F []) := ⟨h1, fun k hk => Nat.le_trans H0.out.size (hF k hk), H0.out.trans (hb1.mono H0.out.size)⟩
       have hnw2 := X.new w2
       clear h1 hb1 hF)
    | (go_at_call 8; refine hnw2.mono ?_; clear hnw2; rintro e w3 ⟨q, G, rfl, h2, hb2, hG⟩
       have hL : IxL Ix w w3 s F [] := H1.out.keep X hb2
       have hM : IxL Ix w w3 q G [] := ⟨h2, fun k hk => Nat.le_trans H1.out.b.size (hG k hk), hL.b⟩
       have hst := X.step h2 a0 cap0 l0 n (HR0.out.below hL.b) HN.out.1 (hM.apart HR0.out) (by show 0 + n ≤ _; omega)
       have H2 : Hid (IxL Ix w w3 s F [] ∧ IxL Ix w w3 q G [] ∧ ∀ k, F k → ¬ G k) := ⟨hL, hM, fun k hk hg => by have := X.lt H1.out.a k hk; have := hG k hg; omega⟩
       clear h2 hb2 hG hL hM H1)
    | (go_at_call 9; refine hst.mono ?_; clear hst; rintro e w4 ⟨rfl, G2, h4, st4⟩
       have H4 : Hid (IxL Ix w w4 s F (l0.take 0) ∧ IxL Ix w w4 q G2 l0 ∧ ∀ k, F k → ¬ G2 k) := by
         obtain ⟨k1, k2, k3⟩ := H2.out
         have k4 := k2.step h4 st4
         exact ⟨⟨X.ch k1.a st4.1 k3, k1.f, k4.b⟩, k4, fun k hk hg => by rcases st4.2 k hg with e | e; exact k3 k hk e; have := X.lt k1.a k hk; omega⟩
       clear h4 st4 H2))
  have H4' : Hid (∃ F1, IxL Ix w w4 s F1 (l0.take 0) ∧ IxL Ix w w4 q G2 l0 ∧ ∀ k, F1 k → ¬ G2 k) := ⟨F, H4.out⟩
  clear H4
  go_loopg [9, 10] m (fun gh va vi wr => ∃ i p : Nat, i ≤ m ∧ p ≤ n ∧ gh = m - i ∧ vi = .int .i64 (i : Int) ∧ va = .int .i64 (p : Int) ∧ Hid (∃ F1, IxL Ix w wr s F1 (l0.take p) ∧ IxL Ix w wr q G2 l0 ∧ ∀ k, F1 k → ¬ G2 k))
  case atStart => exact ⟨0, 0, Nat.zero_le _, Nat.zero_le _, rfl, rfl, rfl, H4'⟩
  case round =>
    clear H4'
    obtain ⟨i, p, hi, hp, hgk, rfl, rfl, H5⟩ := hrel
    have HGK : Hid (gk = m - i) := hgk
    clear hgk
    obtain ⟨F1, H5⟩ := H5.out
    have H5 : Hid (IxL Ix w wr s F1 (l0.take p) ∧ IxL Ix w wr q G2 l0 ∧ ∀ k, F1 k → ¬ G2 k) := H5
    have hrest : ∀ (c : Nat) (a : Option Addr) (cap : Nat), p + c ≤ n → cap ≤ cap0 → (0 < c → a = a0.map (fun x => x.add p) ∧ cap = cap0 - p) →
        Calls Try.prog 9 #[.pointer (some ⟨s, 0, none⟩), .slice a c cap] wr fun e w' => e = .returned (.tuple #[]) ∧ ∃ F2, IxL Ix w w' s F2 (l0.take (p + c)) ∧ IxL Ix w w' q G2 l0 ∧ ∀ k, F2 k → ¬ G2 k := by
      intro c a cap hcn hcap hcase
      obtain ⟨k1, k2, k3⟩ := H5.out
      have hln := HN.out.1
      have hrow : Row wr a cap ((l0.drop p).take c) ∧ ((l0.drop p).take c = [] ∨ Apart F1 a) := by
        by_cases hc0 : c = 0
        · rw [hc0, List.take_zero]
          exact ⟨⟨fun z hz => (by cases hz), Nat.zero_le _, (by unfold maxLen; omega), .inl rfl⟩, .inl rfl⟩
        · obtain ⟨rfl, rfl⟩ := hcase (by omega)
          have hr := HR0.out
          obtain ⟨b, off, rfl⟩ := hr.some' (by omega)
          have hr2 := hr.mid p c (by omega)
          rw [show Option.map (fun x => x.add p) (some (⟨b, off, none⟩ : Addr)) = some ⟨b, off + p, none⟩ from congrArg some (Addr.add_lit ..)]
          exact ⟨hr2.below k1.b, k1.apart hr2⟩
      have hl : ((l0.drop p).take c).length = c := by rw [List.length_take, List.length_drop]; omega
      have hlt : (l0.take p).length = p := by rw [List.length_take]; omega
      have htk : l0.take p ++ (l0.drop p).take c = l0.take (p + c) := by rw [List.take_add]
      refine (X.step k1.a a cap _ c hrow.1 hl hrow.2 (by rw [hlt]; omega)).mono ?_
      rintro e w' ⟨rfl, F2, h6, st6⟩
      rw [htk] at h6
      have k4 := k1.step h6 st6
      exact ⟨rfl, F2, k4, ⟨X.ch k2.a st6.1 (fun k hk hg => k3 k hg hk), k2.f, k4.b⟩, fun k hk hg => by rcases st6.2 k hk with e | e; exact k3 k e hg; have := X.lt k2.a k hg; omega⟩
    by_cases hkm : i < m
    · obtain ⟨b1, o1, rfl⟩ := HR1.out.some' (by have := HN.out.2; omega)
      have hce := HR1.out.cells i (by have := HN.out.2; omega)
      have hzb := HR1.out.1.at i
      obtain ⟨z, hz⟩ : ∃ z, l1.getD i 0 = z := ⟨_, rfl⟩
      rw [hz] at hce hzb
      have hce2 : wr.cell? ⟨b1, o1 + i, none⟩ = some (.int .u8 z) := (H5.out.1.b.cell (block_lt_of_cell hce)).trans hce
      have hic : i < cap1 := by omega
      clear hce hz
      have hpc : p < cap0 ∨ p = cap0 := by omega
      rcases hpc with hpc | rfl
      all_goals go_wp2_with fail
      all_goals (
        refine (hrest _ _ _ (by omega) (by omega) (fun h => ⟨?_, ?_⟩)).mono ?_
        · first | rfl | (exfalso; omega)
        · first | rfl | omega
        rintro e w5 ⟨rfl, H6⟩
        have H6 : Hid _ := H6
        go_wp2_with fail
        go_roundg (m - (i + 1))
        case rel =>
          refine ⟨i + 1, _, by omega, ?_, rfl, by go_num, ?_, H6.out⟩
          · omega
          · congr 1; omega
        case measure => have := HGK.out; omega)
    · obtain ⟨v, hv⟩ : ∃ v, bgV l0 a2 = v := ⟨_, rfl⟩
      obtain ⟨o, ho⟩ : ∃ o, bgB l0 a2 = o := ⟨_, rfl⟩
      obtain ⟨u, hu⟩ : ∃ u, liV l0 a2 = u := ⟨_, rfl⟩
      obtain ⟨t, ht⟩ : ∃ t, liB l0 a2 = t := ⟨_, rfl⟩
      have hbg := fun w' s F (hb : IxL Ix w w' s F l0) => X.begin' hb.a a2 HW2.out
      have hli := fun w' s F (hb : IxL Ix w w' s F l0) => X.line hb.a a2 HW2.out
      have hse := fun w' s F (hb : IxL Ix w w' s F l0) => X.seen hb.a
      have hkn := fun w' s F (hb : IxL Ix w w' s F l0) => X.known hb.a
      obtain ⟨K, hK⟩ : ∃ K, nlC l0 = K := ⟨_, rfl⟩
      have hKn : K ≤ n := by have := nlC_le l0; have := HN.out; omega
      rw [hv, ho] at hbg
      rw [hu, ht] at hli
      rw [HN.out.1] at hse
      rw [hK] at hkn
      clear hv ho hu ht hK
      go_wp2_with fail
      all_goals (
        refine (hrest _ _ _ (by omega) (by omega) (fun h => ⟨?_, ?_⟩)).mono ?_
        · first | rfl | (exfalso; omega)
        · first | rfl | omega
        rintro e w5 ⟨rfl, F6, k1, k2, k3⟩
        rw [List.take_of_length_le (by have := HN.out.1; omega)] at k1
        have H6 : Hid (IxL Ix w w5 s F6 l0 ∧ IxL Ix w w5 q G2 l0) := ⟨k1, k2⟩
        have hb1 := hbg w5 s F6 k1
        clear k1 k2 k3 hrest
        cases o
        all_goals cases t
        all_goals (
          go_wp2_with (first
            | (go_at_call 11; refine hb1.mono ?_; clear hb1; rintro e w6 ⟨rfl, hw⟩
               have H7 : Hid (IxL Ix w w6 s F6 l0 ∧ IxL Ix w w6 q G2 l0) := ⟨H6.out.1.keep X hw, H6.out.2.keep X hw⟩
               have hb2 := hbg w6 q G2 H7.out.2
               clear hw H6 hbg)
            | (go_at_call 11; refine hb2.mono ?_; clear hb2; rintro e w7 ⟨rfl, hw⟩
               have H8 : Hid (IxL Ix w w7 s F6 l0 ∧ IxL Ix w w7 q G2 l0) := ⟨H7.out.1.keep X hw, H7.out.2.keep X hw⟩
               have hb3 := hli w7 s F6 H8.out.1
               clear hw H7)
            | (go_at_call 18; refine hb3.mono ?_; clear hb3; rintro e w8 ⟨rfl, hw⟩
               have H9 : Hid (IxL Ix w w8 s F6 l0 ∧ IxL Ix w w8 q G2 l0) := ⟨H8.out.1.keep X hw, H8.out.2.keep X hw⟩
               have hb4 := hli w8 q G2 H9.out.2
               clear hw H8 hli)
            | (go_at_call 18; refine hb4.mono ?_; clear hb4; rintro e w9 ⟨rfl, hw⟩
               have Ha : Hid (IxL Ix w w9 s F6 l0 ∧ IxL Ix w w9 q G2 l0) := ⟨H9.out.1.keep X hw, H9.out.2.keep X hw⟩
               have hb5 := hse w9 s F6 Ha.out.1
               clear hw H9)
            | (go_at_call 13; refine hb5.mono ?_; clear hb5; rintro e wa ⟨rfl, hw⟩
               have Hb : Hid (IxL Ix w wa s F6 l0 ∧ IxL Ix w wa q G2 l0) := ⟨Ha.out.1.keep X hw, Ha.out.2.keep X hw⟩
               have hb6 := hse wa q G2 Hb.out.2
               clear hw Ha hse)
            | (go_at_call 13; refine hb6.mono ?_; clear hb6; rintro e wb ⟨rfl, hw⟩
               have Hc : Hid (IxL Ix w wb s F6 l0 ∧ IxL Ix w wb q G2 l0) := ⟨Hb.out.1.keep X hw, Hb.out.2.keep X hw⟩
               have hb7 := hkn wb s F6 Hc.out.1
               clear hw Hb)
            | (go_at_call 12; refine hb7.mono ?_; clear hb7; rintro e wc ⟨rfl, hw⟩
               have Hd : Hid (IxL Ix w wc s F6 l0 ∧ IxL Ix w wc q G2 l0) := ⟨Hc.out.1.keep X hw, Hc.out.2.keep X hw⟩
               have hb8 := hkn wc q G2 Hd.out.2
               clear hw Hc hkn)
            | (go_at_call 12; refine hb8.mono ?_; clear hb8; rintro e wd ⟨rfl, hw⟩
               have He : Hid (IxL Ix w wd s F6 l0) := Hd.out.1.keep X hw
               clear hw Hd))
          go_ret
          exact ⟨rfl, He.out.b⟩))

end Go.Proofs.Ytehomchhflhmbaa.indexParts
