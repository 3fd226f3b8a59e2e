/- The walk: Any kids of any level: their page, or that they may not be; there and back. -/
import Derived.Test.YtaeooehilncokaaYr
import Derived.WalkKit
import Derived.ProofKit
import Derived.OpenShut
import Derived.ShutString
import Derived.ChangeOld
import Derived.Below
namespace Go.Proofs.Ytaeooehilncokaa.cellInners
open Go.ChangeShapes Go.WideShapes Go.ChangeAt Go.RowKit
open Go.Proofs.Ytaeooehilncokaa.Oct
set_option linter.unusedVariables false


set_option maxHeartbeats 4000000 in
set_option maxRecDepth 100000 in
theorem walk (a0 : Int) (a1 : Option Addr) (cap1 : Nat) (l1 : List C4) (w : World) (w0 : -9223372036854775808 ≤ a0 ∧ a0 ≤ 9223372036854775807) (w1 : RowC w a1 cap1 l1) :
    Calls Try.prog 5 #[.int .i64 a0, .slice a1 l1.length cap1] w fun e w' => e = .returned (.bool true) ∧ Below w.heap.size w w' := by
  have hm := Nat.le_trans w1.2.1 w1.2.2.1
  unfold maxLen at hm
  have HR : Hid (RowC w a1 cap1 l1) := w1
  obtain ⟨E, hE⟩ : ∃ E, layE true a0 l1 = E := ⟨_, rfl⟩
  obtain ⟨Z, hZ⟩ : ∃ Z, layZ true a0 l1 = Z := ⟨_, rfl⟩
  have BZ : Hid (Bys Z) := by rw [← hZ]; exact layZ_bys _ _ _
  have hEb : E = 0 ∨ E = 1 := by
    rw [← hE]; unfold layE; split
    · exact .inl rfl
    · exact .inr rfl
  have C1 : Hid (∀ w2, Below w.heap.size w w2 → Calls Try.prog 16 #[.int .i64 a0, .slice a1 l1.length cap1] w2 fun e w' => ∃ g c, e = .returned (.tuple #[.slice g Z.length c, .int .i64 E]) ∧ Hid (Row w' g c Z) ∧ Hid (Below w2.heap.size w2 w')) := fun w2 hb => by
    refine (innerMk_v a0 (by omega) l1 a1 cap1 _ w2 (HR.out.below hb) rfl E hE Z hZ _ rfl).mono ?_
    rintro e w' ⟨g, c, rfl, ho, hb'⟩
    exact ⟨g, c, rfl, (ho.row' BZ.out).2, hb'⟩
  have C2 : Hid (∀ w2, Below w.heap.size w w2 → Calls Try.prog 17 #[.int .i64 a0, .slice a1 l1.length cap1] w2 fun e w' => ∃ g c, e = .returned (.tuple #[.slice g Z.length c, .int .i64 E]) ∧ Hid (Row w' g c Z) ∧ Hid (Below w2.heap.size w2 w')) := fun w2 hb => by
    refine (rinner_v a0 l1 a1 cap1 _ w2 (HR.out.below hb) rfl E hE Z hZ _ rfl).mono ?_
    rintro e w' ⟨g, c, rfl, ho, hb'⟩
    exact ⟨g, c, rfl, (ho.row' BZ.out).2, hb'⟩
  have C3 : Hid (E = 0 → ∀ a c w2, Row w2 a c Z → Calls Try.prog 18 #[.slice a Z.length c] w2 fun e w' => ∃ g c, e = .returned (.tuple #[.int .i64 a0, .slice g l1.length c, .int .i64 0]) ∧ Hid (RowC w' g c l1) ∧ Hid (Below w2.heap.size w2 w')) := fun h0 a c w2 hr => by
    have hB : layB true a0 l1 = true := by
      cases h : layB true a0 l1
      · rw [← hE, (lay_no h).1] at h0; exact absurd h0 (by decide)
      · rfl
    obtain ⟨r1, r2, r3⟩ := re_lay hB
    rw [hZ] at r1 r2 r3
    refine (kids_v a c _ Z w2 hr rfl 0 r1 l1 r2 _ rfl a0 r3).mono ?_
    rintro e w' ⟨g, c, rfl, ho, hb'⟩
    exact ⟨g, c, rfl, (ho.row' HR.out.1).2.1, hb'⟩
  have CS : Hid (∀ (g1 g2 : Option Addr) (c1 c2 : Nat) (w2 : World), Row w2 g1 c1 Z → Row w2 g2 c2 Z → Calls Try.prog 13 #[.slice g1 Z.length c1, .slice g2 Z.length c2] w2 fun e w' => e = .returned (.bool true) ∧ Hid (Below w2.heap.size w2 w')) := fun g1 g2 c1 c2 w2 h1 h2 => by
    have := same_any g1 g2 c1 c2 Z Z w2 h1 h2
    rw [same_self] at this
    exact this
  have CE : Hid (∀ (g1 g2 : Option Addr) (c1 c2 : Nat) (w2 : World), RowC w2 g1 c1 l1 → RowC w2 g2 c2 l1 → Calls Try.prog 19 #[.slice g1 l1.length c1, .slice g2 l1.length c2] w2 fun e w' => e = .returned (.bool true) ∧ Hid (Below w2.heap.size w2 w')) := fun g1 g2 c1 c2 w2 h1 h2 => kidSame_v g1 g2 c1 c2 _ l1 w2 h1 h2 rfl
  clear hE hZ w1
  by_cases hbig : (200 : Int) < l1.length
  · clear C1 C2 C3 CS CE hEb BZ
    go_enter Try.func5, Try.ntmps5
    go_wp2_with fail
    refine (awake_any _).mono ?_
    rintro e wa ⟨rfl, hb⟩
    have HB : Hid (Below w.heap.size w wa) := hb
    clear hb
    go_wp2
    go_ret
    exact ⟨rfl, HB.out⟩
  · have hsm : (l1.length : Int) ≤ 200 := by omega
    clear hbig
    obtain ⟨N, hN⟩ : ∃ N, l1.length = N := ⟨_, rfl⟩
    obtain ⟨M, hM⟩ : ∃ M, Z.length = M := ⟨_, rfl⟩
    rw [hN] at C1 C2 C3 CE hsm ⊢
    rw [hM] at C1 C2 C3 CS
    clear hN hM hm
    go_enter Try.func5, Try.ntmps5
    go_wp2_with fail
    refine (awake_any _).mono ?_
    rintro e wa ⟨rfl, hb⟩
    have HB : Hid (Below w.heap.size w wa) := hb
    clear hb
    go_wp2_with fail
    refine (C1.out _ HB.out).mono ?_
    rintro e w2 ⟨g1, c1, rfl, HR1, hb⟩
    have HB2 : Hid (Below w.heap.size w w2) := HB.out.trans (hb.out.mono HB.out.size)
    go_wp2_with fail
    refine (C2.out _ HB2.out).mono ?_
    rintro e w3 ⟨g2, c2, rfl, HR2, hb3⟩
    have HB3 : Hid (Below w.heap.size w w3) := HB2.out.trans (hb3.out.mono HB2.out.size)
    have HR13 : Hid (Row w3 g1 c1 Z) := HR1.out.below hb3.out
    go_wp2_with fail
    refine (CS.out _ _ _ _ _ HR13.out HR2.out).mono ?_
    rintro e w4 ⟨rfl, hb4⟩
    have HB4 : Hid (Below w.heap.size w w4) := HB3.out.trans (hb4.out.mono HB3.out.size)
    have HR14 : Hid (Row w4 g1 c1 Z) := HR13.out.below hb4.out
    rcases hEb with e0 | e1
    · have C3' := C3.out e0
      have C3h : Hid _ := C3'
      subst e0
      clear C3 C3' C1 C2 CS
      go_wp2_with fail
      refine (C3h.out _ _ _ HR14.out).mono ?_
      rintro e w5 ⟨g5, c5, rfl, HR5, hb5⟩
      have HB5 : Hid (Below w.heap.size w w5) := HB4.out.trans (hb5.out.mono HB4.out.size)
      go_wp2_with fail
      refine (CE.out _ _ _ _ _ HR5.out (HR.out.below HB5.out)).mono ?_
      rintro e w6 ⟨rfl, hb6⟩
      have HB6 : Hid (Below w.heap.size w w6) := HB5.out.trans (hb6.out.mono HB5.out.size)
      go_wp2
      go_ret
      exact ⟨rfl, HB6.out⟩
    · subst e1
      clear C3 C1 C2 CS CE
      go_wp2
      go_ret
      exact ⟨rfl, HB4.out⟩

end Go.Proofs.Ytaeooehilncokaa.cellInners
