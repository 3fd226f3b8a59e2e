/- The walk: Of any two rows of bytes super.Choose answers what the document does: the superblock, its place, the error. -/
import Derived.Test.YtoadkdjmbhflnaaUo
import Derived.WalkKit
import Derived.ProofKit
import Derived.OpenShut
import Derived.ShutString
import Derived.ChangeOld
import Derived.Below
namespace Go.Proofs.Ytoadkdjmbhflnaa.superChooses
open Go.ChangeShapes Go.WideShapes Go.ChangeAt Go.RowKit
open Go.Proofs.Ytoadkdjmbhflnaa.Oct
set_option linter.unusedVariables false


set_option maxHeartbeats 4000000 in
set_option maxRecDepth 100000 in
theorem walk (a0 : Option Addr) (cap0 : Nat) (l0 : List Int) (a1 : Option Addr) (cap1 : Nat) (l1 : List Int) (w : World) (w0 : Row w a0 cap0 l0) (n0 : a0 = none → cap0 = 0) (w1 : Row w a1 cap1 l1) (n1 : a1 = none → cap1 = 0) :
    Calls Try.prog 5 #[.slice a0 l0.length cap0, .slice a1 l1.length cap1] w fun e w' => e = .returned (.bool true) ∧ Below w.heap.size w w' := by
  have hm0 := Nat.le_trans w0.2.1 w0.2.2.1
  have hm1 := Nat.le_trans w1.2.1 w1.2.2.1
  unfold maxLen at hm0 hm1
  obtain ⟨S, hS⟩ : ∃ S, chS l0 l1 = S := ⟨_, rfl⟩
  obtain ⟨P, hP⟩ : ∃ P, chP l0 l1 = P := ⟨_, rfl⟩
  obtain ⟨E, hE⟩ : ∃ E, chE l0 l1 = E := ⟨_, rfl⟩
  have C1 : Hid (∀ w2, Below w.heap.size w w2 → Calls Try.prog 9 #[.slice a0 l0.length cap0, .slice a1 l1.length cap1] w2 fun e w' => e = .returned (.tuple #[spV S, .int .i64 P, .int .i64 E]) ∧ Below w2.heap.size w2 w') := fun w2 hb => choose_v a0 a1 cap0 cap1 _ _ l0 l1 w2 (w0.below hb) rfl (w1.below hb) rfl S hS P hP E hE
  have C2 : Hid (∀ w2, Below w.heap.size w w2 → Calls Try.prog 16 #[.slice a0 l0.length cap0, .slice a1 l1.length cap1] w2 fun e w' => e = .returned (.tuple #[spV S, .int .i64 P, .int .i64 E]) ∧ Below w2.heap.size w2 w') := fun w2 hb => rchoose_v a0 a1 cap0 cap1 _ _ l0 l1 w2 (w0.below hb) rfl (w1.below hb) rfl S hS P hP E hE
  have hEb : 0 ≤ E ∧ E ≤ 8 := by
    rw [← hE]; unfold chE; split <;> omega
  clear hS hP hE w0 w1 n0 n1
  dsimp only [spV] at C1 C2
  by_cases hbig : (2000 : Int) < l0.length ∨ (2000 : Int) < l1.length
  · clear C1 C2
    rcases hbig with hbig | hbig
    · go_enter Try.func5, Try.ntmps5
      go_wp2_with (go_at_call 7; refine (awake_any _).mono ?_; rintro e w1 ⟨rfl, hb1⟩; have HB1 : Hid (Below w.heap.size w w1) := hb1; clear hb1)
      go_ret
      exact ⟨rfl, HB1.out⟩
    · by_cases hb2 : (2000 : Int) < l0.length
      all_goals
        go_enter Try.func5, Try.ntmps5
        go_wp2_with (go_at_call 7; refine (awake_any _).mono ?_; rintro e w1 ⟨rfl, hb1⟩; have HB1 : Hid (Below w.heap.size w w1) := hb1; clear hb1)
        go_ret
        exact ⟨rfl, HB1.out⟩
  · have hs1 : ¬ (2000 : Int) < l0.length := fun h => hbig (.inl h)
    have hs2 : ¬ (2000 : Int) < l1.length := fun h => hbig (.inr h)
    clear hbig
    go_enter Try.func5, Try.ntmps5
    go_wp2_with fail
    refine (awake_any _).mono ?_
    rintro e w1 ⟨rfl, hb1⟩
    have HB1 : Hid (Below w.heap.size w w1) := hb1
    clear hb1
    go_wp2_with fail
    refine (C1.out _ HB1.out).mono ?_
    rintro e w2 ⟨rfl, hb2⟩
    have HB2 : Hid (Below w.heap.size w w2) := HB1.out.trans (hb2.mono HB1.out.size)
    clear hb2
    go_wp2_with fail
    refine (C2.out _ (HB2.out.alloc HB2.out.size _)).mono ?_
    rintro e w3 ⟨rfl, hb3⟩
    have HB3 : Hid (Below w.heap.size w w3) := (HB2.out.alloc HB2.out.size _).trans (hb3.mono (HB2.out.alloc HB2.out.size _).size)
    have X3 : Hid (Sl8 (w3.alloc (.cells #[.int .i64 S.g, .int .i64 S.p, .int .i64 S.r, .int .i64 S.h, .int .i64 S.b, .int .i64 S.l, .int .i64 S.s, .int .i64 S.f] 28)) w2.heap.size S) := ((sl8_new w2 S 28).below hb3).below ((Below.refl _ _).alloc (Nat.le_refl _) _)
    clear hb3 C1 C2
    obtain ⟨k0, k1, k2, k3, k4, k5, k6, k7⟩ := X3.out
    go_wp2
    go_ret
    exact ⟨rfl, HB3.out.alloc HB3.out.size _⟩

end Go.Proofs.Ytoadkdjmbhflnaa.superChooses
