/- The walk: For every row of bytes each line begins on itself, the place ahead of it lies on the line ahead, and there are as many beginnings as were seen. -/
import Derived.Test.YtehomchhflhmbaaXne
import Derived.Test.YtehomchhflhmbaaXnc
import Derived.WalkKit
import Derived.ProofKit
import Derived.OpenShut
import Derived.ShutString
import Derived.ChangeOld
import Derived.Below
namespace Go.Proofs.Ytehomchhflhmbaa.indexFinds
open Go.ChangeShapes Go.WideShapes Go.ChangeAt Go.RowKit
open Go.Proofs.Ytehomchhflhmbaa.Oct
set_option linter.unusedVariables false


set_option maxHeartbeats 4000000 in
set_option maxRecDepth 100000 in
theorem walk {Ix : World → Nat → (Nat → Prop) → List Int → Prop} (X : IxC Ix) (a0 : Option Addr) (cap0 : Nat) (l0 : List Int) (w : World) (w0 : Row w a0 cap0 l0) (n0 : a0 = none → cap0 = 0) :
    Calls Try.prog 6 #[.slice a0 l0.length cap0] w fun e w' => e = .returned (.bool true) ∧ Below w.heap.size w w' := by
  have HR : Hid (Row w a0 cap0 l0) := w0
  have hc1 := w0.2.1
  have hc2 := w0.2.2.1
  unfold maxLen at hc2
  clear w0 n0
  obtain ⟨n, hn⟩ : ∃ n, l0.length = n := ⟨_, rfl⟩
  have HN : Hid (l0.length = n) := hn
  rw [hn] at hc1 ⊢
  clear hn
  by_cases hbig : 1000 < n
  · go_enter Try.func6, Try.ntmps6
    go_wp2_with (first
      | (go_at_call 7; refine (awake16 X w).mono ?_; rintro e w1 ⟨rfl, hb0⟩
         have H0 : Hid (Below w.heap.size w w1) := hb0
         clear hb0))
    go_ret
    exact ⟨rfl, H0.out⟩
  have hln := fun w' (hb : Below w.heap.size w w') => lines_any a0 cap0 l0 w' (HR.out.below hb) n HN.out
  obtain ⟨K, hK⟩ : ∃ K, nlC l0 = K := ⟨_, rfl⟩
  have HK : Hid (nlC l0 = K) := hK
  have hKn : K ≤ n := by have := nlC_le l0; have := HN.out; omega
  rw [hK] at hln
  clear hK
  go_enter Try.func6, Try.ntmps6
  go_wp2_with (first
    | (go_at_call 7; refine (awake16 X w).mono ?_; rintro e w1 ⟨rfl, hb0⟩
       have hnw := X.new w1
       have H0 : Hid (Below w.heap.size w w1) := hb0
       clear hb0)
    | (go_at_call 8; refine hnw.mono ?_; clear hnw; rintro e w2 ⟨s, F, rfl, h1, hb1, hF⟩
       have hL : IxL Ix w w2 s F [] := ⟨h1, fun k hk => Nat.le_trans H0.out.size (hF k hk), H0.out.trans (hb1.mono H0.out.size)⟩
       have hst := X.step h1 a0 cap0 l0 n (HR.out.below hL.b) HN.out (hL.apart HR.out) (by show 0 + n ≤ _; omega)
       have H1 : Hid (IxL Ix w w2 s F []) := hL
       clear h1 hb1 hF hL)
    | (go_at_call 9; refine hst.mono ?_; clear hst; rintro e w3 ⟨rfl, F2, h3, st3⟩
       have H3 : Hid (IxL Ix w w3 s F2 l0) := H1.out.step h3 st3
       clear h3 st3 H1))
  go_loopg [4] (K + 1) (fun gh vi wr => ∃ k : Nat, k ≤ K + 1 ∧ gh = K + 1 - k ∧ vi = .int .i64 (k : Int) ∧ Hid (IxL Ix w wr s F2 l0))
  case atStart => exact ⟨0, Nat.zero_le _, rfl, rfl, H3⟩
  case round =>
    clear H3
    obtain ⟨k, hk, hgk, rfl, H3⟩ := hrel
    have HGK : Hid (gk = K + 1 - k) := hgk
    clear hgk
    have hkn := X.known H3.out.a
    rw [HK.out] at hkn
    by_cases hkK : k ≤ K
    · clear hln
      obtain ⟨e1, e2, e3, e4, e5, e6⟩ := bg_line l0 k (by rw [HK.out]; exact hkK)
      have hbg := fun w' (hb : IxL Ix w w' s F2 l0) => X.begin' hb.a (k : Int) (by omega)
      rw [e1] at hbg
      rw [HN.out] at e5
      obtain ⟨v, hv⟩ : ∃ v, bgV l0 (k : Int) = v := ⟨_, rfl⟩
      rw [hv] at hbg e2 e3 e4 e5 e6
      have hli := fun w' (hb : IxL Ix w w' s F2 l0) => X.line hb.a v (by omega)
      rw [e2, e3] at hli
      clear e1 e2 e3 hv
      by_cases hk0 : 0 < k
      · obtain ⟨i, hi, rfl, h10, f1, f2⟩ := e6 hk0
        have hli2 := fun w' (hb : IxL Ix w w' s F2 l0) => X.line hb.a (i : Int) (by have := HN.out; omega)
        rw [f1, f2] at hli2
        obtain ⟨b, off, rfl⟩ := HR.out.some' (by omega)
        have hce := HR.out.cells i hi
        rw [h10] at hce
        rw [HN.out] at hi
        have hic : i < cap0 := by omega
        have hce2 : ∀ w', Below w.heap.size w w' → w'.cell? ⟨b, off + i, none⟩ = some (.int .u8 10) := fun w' hb => (hb.cell (block_lt_of_cell hce)).trans hce
        clear h10 f1 f2 e6 hce
        go_wp2_with (first
          | (go_at_call 12; refine hkn.mono ?_; clear hkn; rintro e w4 ⟨rfl, hb4⟩
             have H4 : Hid (IxL Ix w w4 s F2 l0) := H3.out.keep X hb4
             have hbg1 := hbg w4 H4.out
             clear hb4 H3 hbg)
          | (go_at_call 11; refine hbg1.mono ?_; clear hbg1; rintro e w5 ⟨rfl, hb5⟩
             have H5 : Hid (IxL Ix w w5 s F2 l0) := H4.out.keep X hb5
             have hli1 := hli w5 H5.out
             clear hb5 H4 hli)
          | (go_at_call 18; refine hli1.mono ?_; clear hli1; rintro e w6 ⟨rfl, hb6⟩
             have H6 : Hid (IxL Ix w w6 s F2 l0) := H5.out.keep X hb6
             have hli3 := hli2 w6 H6.out
             clear hb6 H5 hli2)
          | (go_at_call 18; refine hli3.mono ?_; clear hli3; rintro e w7 ⟨rfl, hb7⟩
             have H7 : Hid (IxL Ix w w7 s F2 l0) := H6.out.keep X hb7
             have hce3 := hce2 w7 H7.out.b
             clear hb7 H6 hce2))
        go_roundg (K + 1 - (k + 1))
        case rel => exact ⟨k + 1, by omega, rfl, by go_num, H7⟩
        case measure => have := HGK.out; omega
      · have hk0' : k = 0 := by omega
        subst hk0'
        go_wp2_with (first
          | (go_at_call 12; refine hkn.mono ?_; clear hkn; rintro e w4 ⟨rfl, hb4⟩
             have H4 : Hid (IxL Ix w w4 s F2 l0) := H3.out.keep X hb4
             have hbg1 := hbg w4 H4.out
             clear hb4 H3 hbg)
          | (go_at_call 11; refine hbg1.mono ?_; clear hbg1; rintro e w5 ⟨rfl, hb5⟩
             have H5 : Hid (IxL Ix w w5 s F2 l0) := H4.out.keep X hb5
             have hli1 := hli w5 H5.out
             clear hb5 H4 hli)
          | (go_at_call 18; refine hli1.mono ?_; clear hli1; rintro e w6 ⟨rfl, hb6⟩
             have H6 : Hid (IxL Ix w w6 s F2 l0) := H5.out.keep X hb6
             clear hb6 H5))
        go_roundg (K + 1 - 1)
        case rel => exact ⟨1, by omega, rfl, by go_num, H6⟩
        case measure => have := HGK.out; omega
    · have hkK' : k = K + 1 := by omega
      subst hkK'
      have hkn2 := fun w' (hb : IxL Ix w w' s F2 l0) => X.known hb.a
      rw [HK.out] at hkn2
      have hbg := fun w' (hb : IxL Ix w w' s F2 l0) => X.begin' hb.a ((K : Int) + 1) (by omega)
      rw [show bgV l0 ((K : Int) + 1) = 0 from if_neg (by rw [HK.out]; omega), show bgB l0 ((K : Int) + 1) = false from decide_eq_false (by rw [HK.out]; omega)] at hbg
      go_wp2_with (first
        | (go_at_call 12; refine hkn.mono ?_; clear hkn; rintro e w4 ⟨rfl, hb4⟩
           have H4 : Hid (IxL Ix w w4 s F2 l0) := H3.out.keep X hb4
           have hkn3 := hkn2 w4 H4.out
           clear hb4 H3)
        | (go_at_call 12; refine hkn3.mono ?_; clear hkn3; rintro e w5 ⟨rfl, hb5⟩
           have H5 : Hid (IxL Ix w w5 s F2 l0) := H4.out.keep X hb5
           have hbg1 := hbg w5 H5.out
           clear hb5 H4 hbg)
        | (go_at_call 11; refine hbg1.mono ?_; clear hbg1; rintro e w6 ⟨rfl, hb6⟩
           have H6 : Hid (IxL Ix w w6 s F2 l0) := H5.out.keep X hb6
           have hkn4 := hkn2 w6 H6.out
           clear hb6 H5 hkn2)
        | (go_at_call 12; refine hkn4.mono ?_; clear hkn4; rintro e w7 ⟨rfl, hb7⟩
           have H7 : Hid (IxL Ix w w7 s F2 l0) := H6.out.keep X hb7
           have hln1 := hln w7 H7.out.b
           clear hb7 H6 hln)
        | (go_at_call 19; refine hln1.mono ?_; clear hln1; rintro e w' ⟨rfl, rfl⟩))
      go_ret
      exact ⟨rfl, H7.out.b⟩

end Go.Proofs.Ytehomchhflhmbaa.indexFinds
