/-
  The document's Lines and Begin.
-/
import Derived.Test.YtehomchhflhmbaaXna
import Derived.Deep.LoopGhost
namespace Go.Proofs.Ytehomchhflhmbaa.Oct
open Go.RowKit

theorem nlC0 : nlC [] = 0 := rfl

set_option maxHeartbeats 1000000 in
theorem lines_any (a : Option Addr) (cap : Nat) (zs : List Int) (w : World) (hr : Row w a cap zs) (n : Nat) (hn : zs.length = n) :
    Calls Try.prog 19 #[.slice a n cap] w fun e w' => e = .returned (.int .i64 (nlC zs : Int)) ∧ w' = w := by
  have hc1 := hr.2.1
  have hc2 := hr.2.2.1
  unfold maxLen at hc2
  rw [hn] at hc1
  have HR : Hid (Row w a cap zs ∧ zs.length = n) := ⟨hr, hn⟩
  clear hr hn
  go_enter Try.func19, Try.ntmps19
  go_wp2_with fail
  go_loopg [3, 4] n (fun gh vn vi wr => ∃ k c : Nat, k ≤ n ∧ c ≤ k ∧ gh = n - k ∧ vi = .int .i64 (k : Int) ∧ vn = .int .i64 (c : Int) ∧ Hid (c = nlC (zs.take k)) ∧ wr = w)
  case atStart => exact ⟨0, 0, Nat.zero_le _, Nat.le_refl _, rfl, rfl, rfl, rfl, rfl⟩
  case round =>
    obtain ⟨k, c, hk, hck, hgk, rfl, rfl, hcn, rfl⟩ := hrel
    have HGK : Hid (gk = n - k) := hgk
    clear hgk
    by_cases hkn : k < n
    · obtain ⟨b, off, rfl⟩ := HR.out.1.some' (by have := HR.out.2; omega)
      have hce := HR.out.1.cells k (by have := HR.out.2; omega)
      have hsn := nlC_snoc zs k (by have := HR.out.2; omega)
      obtain ⟨z, hz⟩ : ∃ z, zs.getD k 0 = z := ⟨_, rfl⟩
      rw [hz] at hce hsn
      have hkc : k < cap := by omega
      by_cases h10 : z = 10
      · subst h10
        go_wp2_with fail
        go_roundg (n - (k + 1))
        case rel => exact ⟨k + 1, c + 1, by omega, by omega, rfl, by go_num, by go_num, by rw [hsn, hcn.out]; rfl, rfl⟩
        case measure => have := HGK.out; omega
      · rw [if_neg h10] at hsn
        have HS : Hid (nlC (zs.take (k + 1)) = nlC (zs.take k) + 0) := hsn
        clear hsn hz
        go_wp2_with fail
        go_roundg (n - (k + 1))
        case rel => exact ⟨k + 1, c, by omega, by omega, rfl, by go_num, rfl, by rw [HS.out, hcn.out]; rfl, rfl⟩
        case measure => have := HGK.out; omega
    · have hkn' : k = n := by omega
      subst hkn'
      go_wp2_with fail
      go_ret
      exact ⟨by rw [show c = nlC zs by rw [hcn.out, List.take_of_length_le (Nat.le_of_eq HR.out.2)]]; rfl, rfl⟩

set_option maxHeartbeats 1000000 in
theorem rbegin_any (a : Option Addr) (cap : Nat) (zs : List Int) (w : World) (hr : Row w a cap zs) (n : Nat) (hn : zs.length = n) (q : Int) (hq : -9223372036854775808 ≤ q ∧ q ≤ 9223372036854775807) :
    Calls Try.prog 25 #[.slice a n cap, .int .i64 q] w fun e w' => e = .returned (.tuple #[.int .i64 (bgV zs q), .bool (bgB zs q)]) ∧ w' = w := by
  have hc1 := hr.2.1
  have hc2 := hr.2.2.1
  unfold maxLen at hc2
  rw [hn] at hc1
  have HR : Hid (Row w a cap zs ∧ zs.length = n) := ⟨hr, hn⟩
  clear hr hn
  by_cases h0 : q = 0
  · subst h0
    go_enter Try.func25, Try.ntmps25
    go_wp2_with fail
    go_ret2
    exact ⟨by rw [show bgV zs 0 = 0 from if_neg (by omega), show bgB zs 0 = true from decide_eq_true (by omega)]; rfl, rfl⟩
  · go_enter Try.func25, Try.ntmps25
    go_wp2_with fail
    go_loopg [6, 7] n (fun gh vn vi wr => ∃ k c : Nat, k ≤ n ∧ c ≤ k ∧ gh = n - k ∧ vi = .int .i64 (k : Int) ∧ vn = .int .i64 (c : Int) ∧ Hid (c = nlC (zs.take k)) ∧ Hid (¬ (1 ≤ q ∧ q ≤ c)) ∧ wr = w)
    case atStart => exact ⟨0, 0, Nat.zero_le _, Nat.le_refl _, rfl, rfl, rfl, rfl, by show ¬ _; omega, rfl⟩
    case round =>
      obtain ⟨k, c, hk, hck, hgk, rfl, rfl, hcn, hnq, rfl⟩ := hrel
      have HGK : Hid (gk = n - k) := hgk
      clear hgk
      by_cases hkn : k < n
      · obtain ⟨b, off, rfl⟩ := HR.out.1.some' (by have := HR.out.2; omega)
        have hce := HR.out.1.cells k (by have := HR.out.2; omega)
        have hsn := nlC_snoc zs k (by have := HR.out.2; omega)
        have hend := ends_at zs k (by have := HR.out.2; omega)
        obtain ⟨z, hz⟩ : ∃ z, zs.getD k 0 = z := ⟨_, rfl⟩
        rw [hz] at hce hsn hend
        have hkc : k < cap := by omega
        by_cases h10 : z = 10
        · subst h10
          have he := hend rfl
          rw [← hcn.out] at he
          have HS : Hid (nlC (zs.take (k + 1)) = nlC (zs.take k) + 1 ∧ (endsF 0 zs).getD c 0 = (k : Int) + 1) := ⟨hsn, he⟩
          clear hsn hz hend he
          by_cases hqc : q = (c : Int) + 1
          · subst hqc
            go_wp2_with fail
            go_ret2
            have e2 := nlC_take_le zs (k + 1)
            have e1 := HS.out.1
            have e3 := hcn.out
            exact ⟨by rw [show bgV zs ((c : Int) + 1) = (k : Int) + 1 from by unfold bgV; rw [if_pos (by omega), show ((c : Int) + 1).toNat - 1 = c by omega]; exact HS.out.2, show bgB zs ((c : Int) + 1) = true from decide_eq_true (by omega)]; rfl, rfl⟩
          · go_wp2_with fail
            go_roundg (n - (k + 1))
            case rel => exact ⟨k + 1, c + 1, by omega, by omega, rfl, by go_num, by go_num, by rw [HS.out.1, hcn.out]; rfl, by have := hnq.out; show ¬ _; omega, rfl⟩
            case measure => have := HGK.out; omega
        · rw [if_neg h10] at hsn
          have HS : Hid (nlC (zs.take (k + 1)) = nlC (zs.take k) + 0) := hsn
          clear hsn hz hend
          go_wp2_with fail
          go_roundg (n - (k + 1))
          case rel => exact ⟨k + 1, c, by omega, by omega, rfl, by go_num, rfl, by rw [HS.out, hcn.out]; rfl, hnq, rfl⟩
          case measure => have := HGK.out; omega
      · have hkn' : k = n := by omega
        subst hkn'
        go_wp2_with fail
        go_ret2
        have e1 : c = nlC zs := by rw [hcn.out, List.take_of_length_le (Nat.le_of_eq HR.out.2)]
        have e2 := hnq.out
        exact ⟨by rw [show bgV zs q = 0 from if_neg (by omega), show bgB zs q = false from decide_eq_false (by omega)]; rfl, rfl⟩
end Go.Proofs.Ytehomchhflhmbaa.Oct
