/- The walk: Bits load if they may be, as the document says; the bits of what was loaded are they. -/
import Derived.Test.YtdmahobldghojaaSj
import Derived.WalkKit
import Derived.ProofKit
import Derived.OpenShut
import Derived.ShutString
import Derived.ChangeOld
import Derived.Below
namespace Go.Proofs.Ytdmahobldghojaa.spaceLoads
open Go.ChangeShapes Go.WideShapes Go.ChangeAt Go.RowKit
open Go.Proofs.Ytdmahobldghojaa.Oct
set_option linter.unusedVariables false


set_option maxHeartbeats 4000000 in
set_option maxRecDepth 100000 in
theorem walk {Sp : World → Nat → (Nat → Prop) → List Int → Prop} (X : SpC Sp) (a0 : Int) (a1 : Option Addr) (cap1 : Nat) (l1 : List Int) (w : World) (w0 : -9223372036854775808 ≤ a0 ∧ a0 ≤ 9223372036854775807) (w1 : Row w a1 cap1 l1) (n1 : a1 = none → cap1 = 0) :
    Calls Try.prog 5 #[.int .i64 a0, .slice a1 l1.length cap1] w fun e w' => e = .returned (.bool true) ∧ Below w.heap.size w w' := by
  have HR : Hid (Row w a1 cap1 l1) := w1
  have HN : Hid (a1 = none → cap1 = 0) := n1
  clear w1 n1
  go_enter Try.func5, Try.ntmps5
  go_wp2_with fail
  refine (awake10 X w).mono ?_
  rintro x w1 ⟨rfl, hb1⟩
  have HB1 : Hid (Below w.heap.size w w1) := hb1
  have hlen0 : l1.length ≤ maxLen := Nat.le_trans HR.out.2.1 HR.out.2.2.1
  unfold maxLen at hlen0
  clear hb1
  by_cases hbig : 200 < a0
  · go_wp2
    go_ret
    exact ⟨rfl, HB1.out⟩
  by_cases hlen : 200 < l1.length
  · go_wp2
    go_ret
    exact ⟨rfl, HB1.out⟩
  clear hlen0
  have hl := X.load a0 a1 cap1 l1 w1 w0 (HR.out.below HB1.out) HN.out (by omega)
  go_wp2_with fail
  refine hl.mono ?_
  clear hl
  rintro x w2 hx2
  obtain ⟨hb2, hx2⟩ := hx2
  have HB2 : Hid (Below w.heap.size w w2) := HB1.out.trans (hb2.mono HB1.out.size)
  have hr := rLoadSpace_any a0 a1 cap1 l1 w2 (HR.out.below HB2.out) (by omega)
  clear hb2 HB1
  obtain ⟨z, hz⟩ : ∃ z, ldE l1 a0 = z := ⟨_, rfl⟩
  rcases hx2 with ⟨hne, rfl⟩ | ⟨h0, s, F, rfl, hs, hF⟩
  · rw [hz] at hne ⊢
    have hz0 : (z == 0) = false := by simpa using hne
    have hz1 : (z != 0) = true := by simpa using hne
    have HZ : Hid (ldE l1 a0 = z ∧ z ≠ 0) := ⟨hz, hne⟩
    clear hz hne
    go_wp2_with fail
    refine hr.mono ?_
    clear hr
    rintro x w3 hx3
    obtain ⟨hb3, hx3⟩ := hx3
    have HB3 : Hid (Below w.heap.size w w3) := HB2.out.trans (hb3.mono HB2.out.size)
    clear hb3
    rcases hx3 with ⟨-, rfl⟩ | ⟨h0, -⟩
    rotate_left
    · exact absurd (HZ.out.1.symm.trans h0) HZ.out.2
    rw [HZ.out.1]
    go_wp2
    go_ret
    exact ⟨rfl, HB3.out⟩
  · have HE : Hid (ldE l1 a0 = 0) := h0
    have hok : (8 ≤ a0 ∧ a0 ≤ 4096) ∧ ldOk l1 a0.toNat = true := by
      unfold ldE at h0
      split at h0
      · next h =>
        split at h0
        · next h' => exact ⟨h, h'⟩
        · omega
      · omega
    have HOK : Hid (ldOk l1 a0.toNat = true) := hok.2
    have HS : Hid (Sp w2 s F (ldS l1 a0.toNat)) := hs
    clear h0 hz hs hF hok
    go_wp2_with fail
    refine hr.mono ?_
    clear hr
    rintro x w3 hx3
    obtain ⟨hb3, hx3⟩ := hx3
    have HB3 : Hid (Below w.heap.size w w3) := HB2.out.trans (hb3.mono HB2.out.size)
    have hbt := X.bits (X.below HS.out hb3)
    have hnb : ((ldS l1 a0.toNat).length + 7) / 8 = l1.length := by
      have := HOK.out
      unfold ldOk at this
      rw [Bool.and_eq_true] at this
      rw [ldS_len]
      exact (of_decide_eq_true this.1).symm
    rw [hnb, bitL_ldS HR.out.1 HOK.out] at hbt
    clear hb3 hnb HS HOK
    rcases hx3 with ⟨hne, -⟩ | ⟨-, m, G, rfl, -, -⟩
    · exact absurd HE.out hne
    go_wp2_with (first | (go_at_call 28; refine hbt.mono ?_; clear hbt; rintro e w4 ⟨g, c, rfl, ho4, hb4⟩; have HB4 : Hid (Below w.heap.size w w4) := HB3.out.trans (hb4.mono HB3.out.size); have hsm := same_any _ _ _ _ l1 l1 w4 (ho4.row' HR.out.1).2 (HR.out.below HB4.out); rw [show sameB l1 l1 = true by simp [sameB]] at hsm; clear ho4 hb4) | (go_at_call 27; refine hsm.mono ?_; clear hsm; rintro e w5 ⟨rfl, hb5⟩; have HB5 : Hid (Below w.heap.size w w5) := HB4.out.trans (hb5.mono HB4.out.size); clear hb5))
    go_ret
    exact ⟨rfl, HB5.out⟩

end Go.Proofs.Ytdmahobldghojaa.spaceLoads
