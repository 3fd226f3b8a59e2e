/-
  device.New, Load; made, Pages, has, Ops, Dead, Image.
-/
import Derived.Test.YtojckbhbnalkeaaGc
namespace Go.Proofs.Ytojckbhbnalkeaa.Oct
open Go.RowKit

theorem new_no (n : Int) (w : World) (h : aB n = false) : Calls Try.prog 8 #[.int .i64 n] w fun e w' => e = .returned (.tuple #[.pointer none, .int .i64 1]) ∧ w = w' := by
  go_enter Try.func8, Try.ntmps8
  go_wp2_with (go_at_call 23; refine (allowed_any _ _).mono ?_; rintro e w' ⟨rfl, rfl⟩)
  go_ret2
  exact ⟨rfl, rfl⟩

theorem made_own {B g N : Nat} {w : World} (h : w.ownsRow B 5 1 (.slice (some ⟨g, 0, none⟩) N N) N (madeCells (Value.int .u8 0).cells (N * 1)).toList) : Own B w (.slice (some ⟨g, 0, none⟩) N N) (List.replicate N 0) := by
  unfold Own
  rw [show (Value.int .u8 0).cells = #[Value.int .u8 0] from rfl, toList_madeCells_one, Nat.mul_one] at h
  rw [List.length_replicate, List.map_replicate]
  exact h

theorem bys_rep (n : Nat) : Bys (List.replicate n 0) := fun z hz => by rw [(List.mem_replicate.1 hz).2]; omega

set_option maxHeartbeats 1000000 in
theorem new_yes (n : Nat) (w : World) (h8 : 8 ≤ n) (h4 : n ≤ 4096) :
    Calls Try.prog 8 #[.int .i64 n] w fun e w' => ∃ p F, e = .returned (.tuple #[.pointer (some ⟨p, 0, none⟩), .int .i64 0]) ∧ Dev w' p F (newD (List.replicate (n * 256) 0)) ∧ Below w.heap.size w w' ∧ ∀ k, F k → w.heap.size ≤ k := by
  obtain ⟨i0, hi0, hz0, hz1, hz2⟩ := info_parts info5
  have ha : aB n = true := by simp [aB]; omega
  have c1 : ∀ (ad : Addr) (cap : Nat) (w1 : World), Row w1 (some ad) cap (List.replicate (n * 256) 0) → Calls Try.prog 24 #[.slice (some ad) (n * 256) cap] w1 fun e w' => ∃ p F, e = .returned (.pointer (some ⟨p, 0, none⟩)) ∧ Dev w' p F (newD (List.replicate (n * 256) 0)) ∧ Below w1.heap.size w1 w' ∧ ∀ k, F k → w1.heap.size ≤ k := fun ad cap w1 hr => by
    have := holding_any ad cap _ w1 hr n (by simp) h8 h4
    rwa [List.length_replicate] at this
  have hm : n * 256 ≤ maxLen := by unfold maxLen; omega
  have hk : ((n : Int) * 256) = ((n * 256 : Nat) : Int) := by omega
  obtain ⟨N, hN⟩ : ∃ N, n * 256 = N := ⟨_, rfl⟩
  have h8' : 2048 ≤ N := by omega
  have h4' : N ≤ 1048576 := by omega
  rw [hN] at c1 hk hm
  have HN : Hid (n * 256 = N) := hN
  clear hN
  rw [show n * 256 = N from HN.out]
  go_enter Try.func8, Try.ntmps8
  go_wp2_with (first | (go_at_call 23; refine (allowed_any _ _).mono ?_; rintro e w' ⟨rfl, rfl⟩) | (at_make; refine wpList_make_full _ rfl _ _ 31 rfl w.heap.size 5 i0 (.int .u8 0) 1 Try.underlying31 hi0 hz0 hz1 .i64 .i64 _ _ N rfl rfl rfl rfl (by rw [hz2]; omega) hm (Nat.le_refl _) ?_; intro w1 hown1 hgrow1))
  have hb1 : Below w.heap.size w w1 := (Below.refl _ w).grown hgrow1 (Nat.le_refl _) (by simp)
  have hrow : Row w1 (some ⟨w.heap.size, 0, none⟩) N (List.replicate N 0) := by
    exact ((made_own hown1).row' (bys_rep _)).2
  refine (c1 _ _ _ hrow).mono ?_
  clear c1 hown1 hgrow1 hrow
  rintro e w2 ⟨p, F, rfl, hd, hb2, hF⟩
  have s1 := hb1.size
  have HD : Hid (Dev w2 p F (newD (List.replicate N 0))) := hd
  have HB : Hid (Below w.heap.size w w2) := hb1.trans (hb2.mono s1)
  clear hd hb1 hb2
  go_wp2
  go_ret2
  exact ⟨p, F, rfl, HD.out, HB.out, fun k hk => Nat.le_trans s1 (hF k hk)⟩

theorem made_any {w : World} {p : Nat} {F : Nat → Prop} {D : Dv} (h : Dev w p F D) : Calls Try.prog 31 #[.pointer (some ⟨p, 0, none⟩)] w fun e w' => e = .returned (.bool true) ∧ w = w' := by
  obtain ⟨ok, _, gN, gL, cN, cL, vS, vO, f, hc, _⟩ := h
  have c0 := hc.at.1
  have hl : 0 < D.now.length := by have := ok.now; have := ok.n8; omega
  clear ok hc
  go_enter Try.func31, Try.ntmps31
  go_wp2
  go_ret
  exact ⟨rfl, rfl⟩

theorem pages_any {w : World} {p : Nat} {F : Nat → Prop} {D : Dv} (h : Dev w p F D) : Calls Try.prog 49 #[.pointer (some ⟨p, 0, none⟩)] w fun e w' => e = .returned (.int .i64 D.n) ∧ w = w' := by
  have hm := made_any h
  obtain ⟨ok, _, gN, gL, cN, cL, vS, vO, f, hc, _⟩ := h
  have c0 := hc.at.1
  have e : (D.now.length : Int) / 256 = D.n := by have := ok.now; omega
  have hl : D.now.length ≤ 1048576 := by have := ok.now; have := ok.n4; omega
  clear ok hc
  go_enter Try.func49, Try.ntmps49
  go_wp2_with (go_at_call 31; refine hm.mono ?_; rintro e w' ⟨rfl, rfl⟩)
  go_ret
  exact ⟨rfl, rfl⟩

def hasB (D : Dv) (pg : Int) : Bool := decide (0 ≤ pg ∧ pg < D.n)

theorem has_any {w : World} {p : Nat} {F : Nat → Prop} {D : Dv} (h : Dev w p F D) (pg : Int) : Calls Try.prog 32 #[.pointer (some ⟨p, 0, none⟩), .int .i64 pg] w fun e w' => e = .returned (.bool (hasB D pg)) ∧ w = w' := by
  have hm := pages_any h
  have ht : ∀ (b : Bool), b = hasB D pg → Ending.returned (.bool b) = .returned (.bool (hasB D pg)) := fun b h => by rw [h]
  clear h
  by_cases h0 : 0 ≤ pg
  · by_cases h1 : pg < D.n
    · go_enter Try.func32, Try.ntmps32
      go_wp2_with (go_at_call 49; refine hm.mono ?_; rintro e w' ⟨rfl, rfl⟩)
      go_ret
      exact ⟨ht _ (by simp [hasB]; omega), rfl⟩
    · go_enter Try.func32, Try.ntmps32
      go_wp2_with (go_at_call 49; refine hm.mono ?_; rintro e w' ⟨rfl, rfl⟩)
      go_ret
      exact ⟨ht _ (by simp [hasB]; omega), rfl⟩
  · go_enter Try.func32, Try.ntmps32
    go_wp2_with (go_at_call 49; refine hm.mono ?_; rintro e w' ⟨rfl, rfl⟩)
    go_ret
    exact ⟨ht _ (by simp [hasB]; omega), rfl⟩

end Go.Proofs.Ytojckbhbnalkeaa.Oct
