/-
  The landed chain: its small functions.
-/
import Derived.Test.YtbamdcjhcmogbaaKg
import Derived.Test.YtbamdcjhcmogbaaRn
namespace Go.Proofs.Ytbamdcjhcmogbaa.Oct.Chs
open Go.RowKit

set_option maxHeartbeats 400000 in
theorem within_v (n a b : Int) (B : Bool) (h : decide (a ≤ n ∧ n ≤ b) = B) (w : World) :
    Calls Try.prog 29 #[.int .i64 n, .int .i64 a, .int .i64 b] w fun e w' => e = .returned (.bool B) ∧ w = w' := by
  subst h
  by_cases h1 : a ≤ n
  · by_cases h2 : n ≤ b
    · rw [decide_eq_true (show a ≤ n ∧ n ≤ b from ⟨h1, h2⟩)]
      go_enter Try.func29, Try.ntmps29
      go_wp2
      go_ret
      exact ⟨rfl, rfl⟩
    · rw [decide_eq_false (show ¬ (a ≤ n ∧ n ≤ b) from fun h => h2 h.2)]
      go_enter Try.func29, Try.ntmps29
      go_wp2
      go_ret
      exact ⟨rfl, rfl⟩
  · rw [decide_eq_false (show ¬ (a ≤ n ∧ n ≤ b) from fun h => h1 h.1)]
    go_enter Try.func29, Try.ntmps29
    go_wp2
    go_ret
    exact ⟨rfl, rfl⟩

set_option maxHeartbeats 1000000 in
theorem noughts_v (b off cap n : Nat) (zs : List Int) (w : World) (h : Row w (some ⟨b, off, none⟩) cap zs) (hn : zs.length = n) (V : Bool) (hV : nouB zs = V) :
    Calls Try.prog 25 #[.slice (some ⟨b, off, none⟩) n cap] w fun e w' => e = .returned (.bool V) ∧ w = w' := by
  subst hn
  have hm := Nat.le_trans h.2.1 h.2.2.1
  unfold maxLen at hm
  have HCE : Hid (∀ i, i < zs.length → w.cell? ⟨b, off + i, none⟩ = some (.int .u8 (zs.getD i 0))) := h.cells
  have HBY : Hid (Bys zs) := h.1
  have HV : Hid (nouB zs = V) := hV
  clear hV h
  go_enter Try.func25, Try.ntmps25
  go_wp2_with fail
  go_loop [7] (fun i => ∃ k : Nat, k ≤ zs.length ∧ i = .int .i64 k ∧ Hid (∀ j, j < k → zs.getD j 0 = 0)) (fun i => zs.length - (intOf i).toNat)
  case atStart => exact ⟨0, Nat.zero_le _, rfl, fun j hj => by omega⟩
  case round =>
    obtain ⟨k, hk, rfl, HK⟩ := hrel
    by_cases hlt : k < zs.length
    · have hc := HCE.out k hlt
      obtain ⟨x, hx⟩ : ∃ x, zs.getD k 0 = x := ⟨_, rfl⟩
      rw [hx] at hc
      by_cases h0 : x = 0
      · subst h0
        have HX : Hid (zs.getD k 0 = 0) := hx
        clear hx
        go_wp2
        go_round
        case rel => exact ⟨k + 1, by omega, by go_num, fun j hj => by
          by_cases e : j = k
          · rw [e]; exact HX.out
          · exact HK.out j (by omega)⟩
        case measure => simp [intOf]; omega
      · have e : V = false := by rw [← HV.out]; exact nouB_no hlt (by rw [hx]; exact h0)
        have h0b : (x != 0) = true := by simpa using h0
        subst e
        clear hx h0
        go_wp2
        go_ret
        exact ⟨rfl, rfl⟩
    · have e : V = true := by rw [← HV.out]; exact nouB_iff.2 fun j hj => HK.out j (by omega)
      subst e
      go_wp2
      go_ret
      exact ⟨rfl, rfl⟩

theorem Need_v (n : Int) (w : World) (h0 : -9223372036854775808 ≤ n) (h1 : n ≤ 9223372036854775807) : Calls Try.prog 10 #[.int .i64 n] w fun e w' => e = .returned (.int .i64 (nedI n)) ∧ w = w' := by
  by_cases h : n < 1
  · have HE : Hid (nedI n = 0) := if_pos h
    go_enter Try.func10, Try.ntmps10
    go_wp2
    go_ret
    exact ⟨by rw [HE.out]; rfl, rfl⟩
  · have HE : Hid (nedI n = (n - 1) / 244 + 1) := if_neg h
    obtain ⟨m, rfl⟩ : ∃ m : Nat, n = m + 1 := ⟨(n - 1).toNat, by omega⟩
    have hm : m ≤ 9223372036854775806 := by omega
    have e1 : ((m : Int) + 1 - 1) = m := by omega
    have e2 : IntKind.i64.wrap ((m : Int) / 244 + 1) = (m : Int) / 244 + 1 := by
      simp only [IntKind.wrap, IntKind.signed, IntKind.bits]
      simp
      omega
    rw [e1] at HE
    clear h h0 h1
    go_enter Try.func10, Try.ntmps10
    go_wp2
    go_ret
    exact ⟨by rw [HE.out]; rfl, rfl⟩

/-- The page behind the one at i. -/
theorem behind_v (pa : Option Addr) (pcap : Nat) (pg : List Int) (i : Nat) (w : World) (hp : RowI w pa pcap pg) (hi : i < pg.length) (X : Int) (hX : nxt pg i = X) :
    Calls Try.prog 31 #[.slice pa pg.length pcap, .int .i64 i] w fun e w' => e = .returned (.int .i64 X) ∧ w = w' := by
  have hpl : pg.length ≤ maxLen := Nat.le_trans hp.1 hp.2.1
  unfold maxLen at hpl
  by_cases h : i + 1 < pg.length
  · obtain ⟨pb, po, rfl, c1⟩ := hp.at' (i + 1) h
    have e : pg.getD (i + 1) 0 = X := by rw [← hX]; exact (if_pos h).symm
    rw [e] at c1
    have hne : ((i : Int) == (pg.length : Int) - 1) = false := by simp; omega
    clear e hp hX
    go_enter Try.func31, Try.ntmps31
    go_wp2
    go_ret
    exact ⟨rfl, rfl⟩
  · have e : X = 0 := by rw [← hX]; exact if_neg h
    subst e
    have he : (i : Int) = (pg.length : Int) - 1 := by omega
    have hne : ((i : Int) == (pg.length : Int) - 1) = true := by simp; omega
    clear hp hX
    go_enter Try.func31, Try.ntmps31
    go_wp2
    go_ret
    exact ⟨rfl, rfl⟩

/-- May a chain's page have these numbers. -/
def hfB (P : Pg) (X : Int) : Bool := decide (P.kind = 5) && (decide (P.level = 0) && (if X = 0 then decide (1 ≤ P.count ∧ P.count ≤ 244) else decide (2 ≤ X ∧ X ≤ 4095) && decide (P.count = 244)))

set_option maxHeartbeats 1000000 in
theorem headFits_v (P : Pg) (g : Option Addr) (n c : Nat) (X : Int) (w : World) (V : Bool) (hV : hfB P X = V) :
    Calls Try.prog 24 #[.agg #[.int .i64 P.kind, .int .i64 P.level, .int .i64 P.count, .slice g n c], .int .i64 X] w fun e w' => e = .returned (.bool V) ∧ Below w.heap.size w w' := by
  obtain ⟨kind, level, count, body⟩ := P
  unfold hfB at hV
  dsimp only at hV ⊢
  by_cases h1 : kind = 5
  rotate_left
  · rw [decide_eq_false h1] at hV
    have e : V = false := hV.symm
    subst e
    have b1 : (kind != 5) = true := by simpa using h1
    clear h1 hV
    go_enter Try.func24, Try.ntmps24
    go_wp2
    go_ret
    exact ⟨rfl, (Below.refl _ _).alloc (Nat.le_refl _) _⟩
  subst h1
  by_cases h2 : level = 0
  rotate_left
  · rw [decide_eq_false h2] at hV
    have e : V = false := hV.symm
    subst e
    have b1 : (level != 0) = true := by simpa using h2
    clear h2 hV
    go_enter Try.func24, Try.ntmps24
    go_wp2
    go_ret
    exact ⟨rfl, (Below.refl _ _).alloc (Nat.le_refl _) _⟩
  subst h2
  by_cases h3 : X = 0
  · subst h3
    rw [if_pos rfl] at hV
    have c1 := fun w => within_v count 1 244 V hV w
    clear hV
    go_enter Try.func24, Try.ntmps24
    go_wp2_with (go_at_call 29; refine (c1 _).mono ?_; rintro e w1 ⟨rfl, rfl⟩)
    go_ret
    exact ⟨rfl, (Below.refl _ _).alloc (Nat.le_refl _) _⟩
  · rw [if_neg h3] at hV
    have b3 : (X == 0) = false := by simpa using h3
    have c1 := fun w => within_v X 2 4095 _ rfl w
    cases h4 : decide (2 ≤ X ∧ X ≤ 4095)
    · rw [h4] at hV c1
      have e : V = false := hV.symm
      subst e
      clear hV h4 h3
      go_enter Try.func24, Try.ntmps24
      go_wp2_with (go_at_call 29; refine (c1 _).mono ?_; rintro e w1 ⟨rfl, rfl⟩)
      go_ret
      exact ⟨rfl, (Below.refl _ _).alloc (Nat.le_refl _) _⟩
    · rw [h4] at hV c1
      have e : (count == 244) = V := by rw [← hV]; rfl
      clear hV h4 h3
      go_enter Try.func24, Try.ntmps24
      go_wp2_with (go_at_call 29; refine (c1 _).mono ?_; rintro e w1 ⟨rfl, rfl⟩)
      go_ret
      exact ⟨by first | rfl | rw [e], (Below.refl _ _).alloc (Nat.le_refl _) _⟩
end Go.Proofs.Ytbamdcjhcmogbaa.Oct.Chs
