/-
  Show of every number.
-/
import Derived.Test.YtieldmakbokekaaGreatDoorHh
namespace Go.Proofs.YtieldmakbokekaaGreatDoor.Oct
open Go.RowKit
open Go.Proofs.YtieldmakbokekaaGreatDoor.Fl

theorem hxe_size (k : Int) (h0 : -3000 < k) (h1 : k < 3000) : (hxe k).size ≤ 22 := by
  have := Lib.itoa_length_le k (by omega) (by omega)
  unfold hxe
  split
  · simp [ByteArray.size]; omega
  · rw [ByteArray.size_append]; simp [ByteArray.size]; omega

theorem hxt_len (a : Nat) : (hxt a).length ≤ 13 := by
  unfold hxt Lib.trimRightB
  rw [List.length_reverse]
  refine Nat.le_trans (List.dropWhile_sublist _).length_le ?_
  simp [hx14]

theorem hxs_size (a : Nat) (h1 : a < 0x7ff0000000000000) : (hxs a).size ≤ 40 := by
  have hfb := fb_lt h1
  have hkr := fk_rg a
  have := hxe_size (fk a + (fb a / 4503599627370496 : Nat) - 1023) (by omega) (by omega)
  have h3 := hxt_len a
  have e1 : (⟨#[48, 120, 49]⟩ : ByteArray).size = 3 := rfl
  have e2 : (⟨#[112]⟩ : ByteArray).size = 1 := rfl
  have e3 : (⟨#[46]⟩ : ByteArray).size = 1 := rfl
  have e4 : (⟨#[]⟩ : ByteArray).size = 0 := rfl
  unfold hxs
  rw [ByteArray.size_append, ByteArray.size_append, ByteArray.size_append, e1, e2]
  split
  · rw [e4]; omega
  · rw [ByteArray.size_append, e3, sz_mk]; omega

set_option maxHeartbeats 1000000 in
theorem show_hex (x : Nat) (w : World) (hl : x < 2 ^ 64) (hx : x % 2 ^ 63 < 0x7ff0000000000000) (h0 : 0 < x % 2 ^ 63) (hw : whole x = false) (ht : Tab w) (hz : Tz w) :
    Calls Tryz.prog 6 #[.float .f64 x] w fun e w' => e = .returned (.string (sgn x ++ hxs (x % 2 ^ 63))) ∧ Below w.heap.size w w' := by
  have hn : ¬ Nan x := by rw [nan_iff]; omega
  have hni : decide (x % 2 ^ 63 = 0x7ff0000000000000) = false := decide_eq_false (by omega)
  have h1 := isnan_any x w
  rw [decide_eq_false hn] at h1
  have h2 := isinf_any x w hl
  rw [hni] at h2
  have h3 := isWhole_any x w hl hx
  rw [hw] at h3
  have h4 := sign_any x w hl
  have h5 := abs_any x w hl
  have h6 := hex_any (x % 2 ^ 63) w h0 hx ht hz
  have h8 := sgn_size x
  have h9 := hxs_size _ hx
  generalize hxs (x % 2 ^ 63) = s at *
  generalize x % 2 ^ 63 = y at *
  clear hx hn hni hw ht hz
  go_enter Tryz.func6, Tryz.ntmps6
  go_wp2_with fail
  refine h1.mono ?_
  rintro e w' ⟨rfl, rfl⟩
  go_wp2_with fail
  refine h2.mono ?_
  rintro e w' ⟨rfl, rfl⟩
  go_wp2_with fail
  refine h3.mono ?_
  rintro e w' ⟨rfl, rfl⟩
  go_wp2_with fail
  refine h4.mono ?_
  rintro e w' ⟨rfl, rfl⟩
  go_wp2_with fail
  refine h5.mono ?_
  rintro e w' ⟨rfl, rfl⟩
  go_wp2_with fail
  refine h6.mono ?_
  rintro e w' ⟨rfl, hb⟩
  have HB : Hid (Below w.heap.size w w') := hb
  clear hb h1 h2 h3 h4 h5 h6
  go_wp2_with fail
  go_ret
  exact ⟨rfl, HB.out⟩

end Go.Proofs.YtieldmakbokekaaGreatDoor.Oct
