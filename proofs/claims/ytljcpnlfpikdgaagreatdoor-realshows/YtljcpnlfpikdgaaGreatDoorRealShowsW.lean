/- The walk: Each number is shown as the document says, what is shown is read as that number, and two numbers are shown alike just if they have the same bits. -/
import Derived.Test.YtljcpnlfpikdgaaGreatDoorRows
import Derived.Test.YtljcpnlfpikdgaaGreatDoorTd
import Derived.Test.YtljcpnlfpikdgaaGreatDoorRl2
import Derived.Test.YtljcpnlfpikdgaaGreatDoorAk3
import Derived.Test.YtljcpnlfpikdgaaGreatDoorRi
import Derived.WalkKit
import Derived.ProofKit
import Derived.OpenShut
import Derived.ShutString
import Derived.ChangeOld
import Derived.Below
import Derived.LaidMore
import Derived.Lay
import Derived.SevenTiedAt
import Derived.Stop.Joined
namespace Go.Proofs.YtljcpnlfpikdgaaGreatDoor.realShows
open Go.ChangeShapes Go.WideShapes Go.ChangeAt Go.RowKit
open Go.Proofs.YtljcpnlfpikdgaaGreatDoor.Oct Go.Proofs.YtljcpnlfpikdgaaGreatDoor.Fl
open Go.ChangeMaps (open_string shut_string)
set_option linter.unusedVariables false

/-- What is kept. -/
def Al (v w : World) : Prop := Tab w ∧ Tz w ∧ Fi w ∧ Below v.heap.size v w

theorem Al.below {v w w' : World} (h : Al v w) (hb : Below w.heap.size w w') : Al v w' := ⟨h.1.below hb, h.2.1.below hb, h.2.2.1.below hb, h.2.2.2.trans (hb.mono h.2.2.2.size)⟩

theorem drew_below (w : World) : Below w.heap.size w w.drew := ⟨rfl, rfl, rfl, Nat.le_refl _, fun _ _ => rfl⟩

/-- What Show says of any number. -/
def tx (x : Nat) : ByteArray := if Nan x then ⟨#[110, 97, 110]⟩ else shw x

theorem tx_nan {x : Nat} (h : Nan x) : tx x = ⟨#[110, 97, 110]⟩ := by unfold tx; rw [if_pos h]
theorem tx_num {x : Nat} (h : ¬ Nan x) : tx x = shw x := by unfold tx; rw [if_neg h]

theorem nb_nb (x : Nat) : nb (nb x) = nb x := by
  by_cases h : Nan x
  · rw [nb_nan h]; exact nb_nan nan_can
  · rw [nb_num h, nb_num h]

theorem show_t (x : Nat) (w : World) (hl : x < 2 ^ 64) (ht : Tab w) (hz : Tz w) : Calls Tryz.prog 6 #[.float .f64 x] w fun e w' => e = .returned (.string (tx x)) ∧ Below w.heap.size w w' := by
  by_cases h : Nan x
  · rw [tx_nan h]
    refine (show_nan x w h).mono ?_
    rintro e w' ⟨rfl, rfl⟩
    exact ⟨rfl, Below.refl _ _⟩
  · rw [tx_num h]; exact show_any x w hl h ht hz

theorem rshow_t (x : Nat) (w : World) (hl : x < 2 ^ 64) : Calls Tryz.prog 8 #[.float .f64 x] w fun e w' => e = .returned (.string (tx x)) ∧ Below w.heap.size w w' := by
  by_cases h : Nan x
  · rw [tx_nan h]
    refine (rshow_nan x w h).mono ?_
    rintro e w' ⟨rfl, rfl⟩
    exact ⟨rfl, Below.refl _ _⟩
  · rw [tx_num h]; exact rshow_any x w hl h

theorem read_t (x : Nat) (w : World) (hl : x < 2 ^ 64) (ht : Tab w) (hz : Tz w) (hF : Fi w) : Calls Tryz.prog 7 #[.string (tx x)] w fun e w' => e = .returned (.tuple #[.float .f64 (nb x), .bool true]) ∧ Below w.heap.size w w' := by
  by_cases h : Nan x
  · rw [tx_nan h, nb_nan h]
    refine (read_nan_word w).mono ?_
    rintro e w' ⟨rfl, rfl⟩
    exact ⟨rfl, Below.refl _ _⟩
  · rw [tx_num h, nb_num h]; exact read_shw x w hl h ht hz hF

theorem tx_iff {x y : Nat} (w : World) (hx : x < 2 ^ 64) (hy : y < 2 ^ 64) (ht : Tab w) (hz : Tz w) (hF : Fi w) : tx x = tx y ↔ nb x = nb y := by
  constructor
  · intro h
    have c1 := read_t x w hx ht hz hF
    have c2 := read_t y w hy ht hz hF
    rw [h] at c1
    have := calls_one c1 c2 (by kernel_rfl)
    simpa using this
  · intro h
    by_cases hnx : Nan x
    · by_cases hny : Nan y
      · rw [tx_nan hnx, tx_nan hny]
      · rw [nb_nan hnx, nb_num hny] at h
        exact absurd (h ▸ nan_can) hny
    · by_cases hny : Nan y
      · rw [nb_num hnx, nb_nan hny] at h
        exact absurd (h ▸ nan_can) hnx
      · rw [nb_num hnx, nb_num hny] at h
        rw [h]
set_option maxHeartbeats 4000000 in
set_option maxRecDepth 100000 in
theorem walk (a0 : Nat) (a1 : Nat) (w : World) (w0 : (Lit.float .f64 a0).wf = true) (w1 : (Lit.float .f64 a1).wf = true) (hL : laidMetH Tryz.prog Rows.realShowsRow.laid w) :
    Calls Tryz.prog 3 #[.float .f64 a0, .float .f64 a1] w fun e w' => e = .returned (.bool true) ∧ Below w.heap.size w w' := by
  obtain ⟨hT, hZ, hF⟩ := shows_laid hL
  have hx := f64_wf w0
  have hy := f64_wf w1
  have hiff := tx_iff w hx hy hT hZ hF
  have HA0 : Hid (Al w w) := ⟨hT, hZ, hF, Below.refl _ w⟩
  have CS : Hid (∀ v, Al w v → Calls Tryz.prog 6 #[.float .f64 a0] v fun e w' => e = .returned (.string (tx a0)) ∧ Below v.heap.size v w') := fun v h => show_t a0 v hx h.1 h.2.1
  have CY : Hid (∀ v, Al w v → Calls Tryz.prog 6 #[.float .f64 a1] v fun e w' => e = .returned (.string (tx a1)) ∧ Below v.heap.size v w') := fun v h => show_t a1 v hy h.1 h.2.1
  have CD : Hid (∀ v, Calls Tryz.prog 8 #[.float .f64 a0] v fun e w' => e = .returned (.string (tx a0)) ∧ Below v.heap.size v w') := fun v => rshow_t a0 v hx
  have CR : Hid (∀ v, Al w v → Calls Tryz.prog 7 #[.string (tx a0)] v fun e w' => e = .returned (.tuple #[.float .f64 (nb a0), .bool true]) ∧ Below v.heap.size v w') := fun v h => read_t a0 v hx h.1 h.2.1 h.2.2.1
  have B1 : Hid (∀ v, Calls Tryz.prog 9 #[.float .f64 (nb a0)] v fun e w' => e = .returned (.int .u64 (nb a0 : Nat)) ∧ v = w') := fun v => by have := bits_any (nb a0) v; rwa [nb_nb] at this
  have B2 : Hid (∀ v, Calls Tryz.prog 9 #[.float .f64 a0] v fun e w' => e = .returned (.int .u64 (nb a0 : Nat)) ∧ v = w') := fun v => bits_any a0 v
  have B3 : Hid (∀ v, Calls Tryz.prog 9 #[.float .f64 a1] v fun e w' => e = .returned (.int .u64 (nb a1 : Nat)) ∧ v = w') := fun v => bits_any a1 v
  have hq : ((tx a0).toList == (tx a1).toList) = (((nb a0 : Nat) : Int) == ((nb a1 : Nat) : Int)) := by
    by_cases h : nb a0 = nb a1
    · rw [hiff.2 h, h]; simp
    · have h' : tx a0 ≠ tx a1 := fun e => h (hiff.1 e)
      have e1 : (((nb a0 : Nat) : Int) == ((nb a1 : Nat) : Int)) = false := by simp; omega
      rw [e1]
      refine Bool.eq_false_iff.2 fun e => h' ?_
      have e2 : (tx a0).toList = (tx a1).toList := by simpa using e
      rw [ByteArray.toList_eq, ByteArray.toList_eq] at e2
      exact ba_eq e2
  obtain ⟨s, hs⟩ : ∃ s, tx a0 = s := ⟨_, rfl⟩
  obtain ⟨t, ht⟩ : ∃ t, tx a1 = t := ⟨_, rfl⟩
  obtain ⟨p, hp⟩ : ∃ p, nb a0 = p := ⟨_, rfl⟩
  obtain ⟨q, hqq⟩ : ∃ q, nb a1 = q := ⟨_, rfl⟩
  rw [hs] at CS CD CR hq
  rw [ht] at CY hq
  rw [hp] at CR B1 B2 hq
  rw [hqq] at B3 hq
  clear hT hZ hF hL hiff hs ht hp hqq hx hy w0 w1
  go_enter Tryz.func3, Tryz.ntmps3
  go_wp2_with fail
  refine (awake_any _).mono ?_
  rintro e w1 ⟨rfl, hw1⟩
  have HA1 : Hid (Al w w1) := hw1 ▸ HA0.out.below (drew_below w)
  clear hw1 HA0
  go_wp2_with fail
  refine (CS.out _ HA1.out).mono ?_
  rintro e w2 ⟨rfl, hb⟩
  have HA2 : Hid (Al w w2) := HA1.out.below hb
  clear hb
  go_wp2_with fail
  refine (CR.out _ HA2.out).mono ?_
  rintro e w3 ⟨rfl, hb⟩
  have HA3 : Hid (Al w w3) := HA2.out.below hb
  clear hb
  go_wp2_with fail
  refine (CD.out _).mono ?_
  rintro e w4 ⟨rfl, hb⟩
  have HA4 : Hid (Al w w4) := HA3.out.below hb
  clear hb
  go_wp2_with fail
  refine (B1.out _).mono ?_
  rintro e w5 ⟨rfl, rfl⟩
  go_wp2_with fail
  refine (B2.out _).mono ?_
  rintro e w5 ⟨rfl, rfl⟩
  go_wp2_with fail
  refine (CY.out _ HA4.out).mono ?_
  rintro e w5 ⟨rfl, hb⟩
  have HA5 : Hid (Al w w5) := HA4.out.below hb
  clear hb
  go_wp2_with fail
  refine (B2.out _).mono ?_
  rintro e w6 ⟨rfl, rfl⟩
  go_wp2_with fail
  refine (B3.out _).mono ?_
  rintro e w6 ⟨rfl, rfl⟩
  go_wp2
  go_ret
  exact ⟨rfl, HA5.out.2.2.2⟩

end Go.Proofs.YtljcpnlfpikdgaaGreatDoor.realShows
