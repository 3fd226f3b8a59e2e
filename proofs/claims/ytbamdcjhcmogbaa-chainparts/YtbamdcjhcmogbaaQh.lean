/-
  The walks of the document's Put.
-/
import Derived.Test.YtbamdcjhcmogbaaQg
namespace Go.Proofs.Ytbamdcjhcmogbaa.Oct
open Go.RowKit

theorem pow_eq (n : Nat) : (2 : Int) ^ (8 * n) = 256 ^ n := by
  rw [Int.pow_mul]; rfl

theorem wrap_pow {n X : Nat} (hn : n < 8) (h : X < 256 ^ n) : (X : Int) < wrap64 (2 ^ (8 * n)) := by
  rw [pow_eq]
  have : n = 0 ∨ n = 1 ∨ n = 2 ∨ n = 3 ∨ n = 4 ∨ n = 5 ∨ n = 6 ∨ n = 7 := by omega
  rcases this with rfl | rfl | rfl | rfl | rfl | rfl | rfl | rfl
  all_goals
    rw [IntWalk.wrap64_in _ (by decide)]
    omega

theorem byte_eq (X m : Nat) : ((X / 256 ^ m % 256 : Nat) : Int) = (X : Int) / 2 ^ (8 * m) % 256 := by
  rw [pow_eq, Int.natCast_emod, Int.natCast_ediv, Int.natCast_pow]; rfl

theorem fit_over {n X : Nat} (h1 : 1 ≤ n) (h8 : n ≤ 8) (hX : X ≤ 4611686018427387904) (h : fitB n X = false) : n < 8 ∧ wrap64 (2 ^ (8 * n)) ≤ (X : Int) := by
  have hge : 256 ^ n ≤ X := by
    by_cases hlt : X < 256 ^ n
    · rw [fit_yes hX hlt] at h; exact absurd h (by decide)
    · omega
  rw [pow_eq]
  have : n = 1 ∨ n = 2 ∨ n = 3 ∨ n = 4 ∨ n = 5 ∨ n = 6 ∨ n = 7 ∨ n = 8 := by omega
  rcases this with rfl | rfl | rfl | rfl | rfl | rfl | rfl | rfl
  case inr.inr.inr.inr.inr.inr.inr => omega
  all_goals
    rw [IntWalk.wrap64_in _ (by decide)]
    omega

set_option maxHeartbeats 1000000 in
theorem refput_yes (b off cap : Nat) (zs : List Int) (p n X : Nat) (w : World) (hr : Row w (some ⟨b, off, none⟩) cap zs) (hsz : zs.length ≤ 140737488355328) (h1 : 1 ≤ n) (h8 : n ≤ 8) (hp : p + n ≤ zs.length) (hX : X ≤ 4611686018427387904) (hXn : X < 256 ^ n) :
    Calls Try.prog 35 #[.slice (some ⟨b, off, none⟩) zs.length cap, .int .i64 p, .int .i64 n, .int .i64 X] w fun e w' => ∃ v, e = .returned (.tuple #[v, .bool true]) ∧ Own w.heap.size w' v (putL zs p n X) ∧ Below w.heap.size w w' := by
  have hi : insB zs.length p n = true := by simp [insB]; omega
  have hm : zs.length ≤ maxLen := Nat.le_trans hr.2.1 hr.2.2.1
  have hm' := hm
  unfold maxLen at hm'
  have hor : (n < 8 ∧ (X : Int) < wrap64 (2 ^ (8 * n))) ∨ 8 ≤ n := by
    by_cases h : n < 8
    · exact .inl ⟨h, wrap_pow h hXn⟩
    · exact .inr (by omega)
  clear hXn
  have hx0 : (0 : Int) ≤ X := by omega
  rcases hor with ⟨hn8, hxw⟩ | hn8
  all_goals
    go_enter Try.func35, Try.ntmps35
    go_wp2_with (first | (go_at_call 46; refine (lies_any _ _ _ _ _ _ hm).mono ?_; rintro e w' ⟨rfl, rfl⟩) | (go_at_call 42; refine (copy_any _ _ _ _ hr hsz).mono ?_; rintro e w1 ⟨v, rfl, hown1, hbel1⟩))
    obtain ⟨g, cap', rfl, hgb, _, _, _⟩ := own_at hown1 p (by omega)
    try clear hxw
    go_loopw [11] (fun i wr => ∃ k : Nat, k ≤ n ∧ i = .int .i64 k ∧ Own w.heap.size wr (.slice (some ⟨g, 0, none⟩) zs.length cap') (upto zs p n X k) ∧ Below w.heap.size w wr) (fun i _ => n - (intOf i).toNat)
    case atStart => exact ⟨0, Nat.zero_le _, rfl, by rw [upto_zero]; exact hown1, hbel1⟩
    case round =>
      clear hown1 hbel1
      obtain ⟨k, hk, rfl, hown, hbel⟩ := hrel
      by_cases hlt : k < n
      · obtain ⟨_, hc, hfr, hst⟩ := own_at' hown (p + k) (by rw [upto_len]; omega)
        obtain ⟨c, hcc⟩ : ∃ c : Int, (upto zs p n X k).getD (p + k) 0 = c := ⟨_, rfl⟩
        rw [hcc] at hc
        have hst' := hst ((X / 256 ^ (n - 1 - k) % 256 : Nat) : Int)
        rw [upto_next zs p n X k hlt, byte_eq] at hst'
        have HST : Hid _ := hst'
        clear hcc hst hst' hown
        go_wp2
        go_roundw
        case rel => exact ⟨k + 1, by omega, by go_num, HST.out, hbel.setCell hgb _⟩
        case measure => simp [intOf]; omega
      · have hkn : k = n := by omega
        subst hkn
        rw [upto_all] at hown
        go_wp2
        go_ret2
        exact ⟨_, rfl, hown, hbel⟩

set_option maxHeartbeats 1000000 in
theorem refput_no (a : Option Addr) (len cap : Nat) (p n x : Int) (w : World) (hm : len ≤ maxLen) (hi : (insB len p n && fitB n x) = false) :
    Calls Try.prog 35 #[.slice a len cap, .int .i64 p, .int .i64 n, .int .i64 x] w fun e w' => e = .returned (.tuple #[.slice none 0 0, .bool false]) ∧ w = w' := by
  cases hi1 : insB len p n
  · clear hi
    go_enter Try.func35, Try.ntmps35
    go_wp2_with (go_at_call 46; refine (lies_any _ _ _ _ _ _ hm).mono ?_; rintro e w' ⟨rfl, rfl⟩)
    go_ret2
    exact ⟨rfl, rfl⟩
  · rw [hi1, Bool.true_and] at hi
    have hv := insB_yes hi1
    by_cases hx0 : x < 0
    · clear hi
      go_enter Try.func35, Try.ntmps35
      go_wp2_with (go_at_call 46; refine (lies_any _ _ _ _ _ _ hm).mono ?_; rintro e w' ⟨rfl, rfl⟩)
      go_ret2
      exact ⟨rfl, rfl⟩
    · by_cases hx1 : 4611686018427387904 < x
      · clear hi
        go_enter Try.func35, Try.ntmps35
        go_wp2_with (go_at_call 46; refine (lies_any _ _ _ _ _ _ hm).mono ?_; rintro e w' ⟨rfl, rfl⟩)
        go_ret2
        exact ⟨rfl, rfl⟩
      · obtain ⟨X, rfl⟩ := Int.eq_ofNat_of_zero_le (show 0 ≤ x by omega)
        obtain ⟨n', rfl⟩ := Int.eq_ofNat_of_zero_le (show 0 ≤ n by omega)
        have hw : n' < 8 ∧ wrap64 (2 ^ (8 * n')) ≤ (X : Int) := fit_over (by omega) (by omega) (by omega) hi
        obtain ⟨hn8, hxw⟩ := hw
        clear hi
        go_enter Try.func35, Try.ntmps35
        go_wp2_with (go_at_call 46; refine (lies_any _ _ _ _ _ _ hm).mono ?_; rintro e w' ⟨rfl, rfl⟩)
        go_ret2
        exact ⟨rfl, rfl⟩
end Go.Proofs.Ytbamdcjhcmogbaa.Oct
