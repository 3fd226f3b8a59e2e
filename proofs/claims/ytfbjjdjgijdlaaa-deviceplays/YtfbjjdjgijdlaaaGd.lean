/-
  device.New, Load; made, Pages, has, Ops, Dead, Image.
-/
import Derived.Test.YtfbjjdjgijdlaaaGc
namespace Go.Proofs.Ytfbjjdjgijdlaaa.Oct
open Go.RowKit

theorem new_no (n : Int) (w : World) (h : aB n = false) : Calls Try.prog 10 #[.int .i64 n] w fun e w' => e = .returned (.tuple #[.pointer none, .int .i64 1]) ∧ w = w' := by
  go_enter Try.func10, Try.ntmps10
  go_wp2_with (go_at_call 35; refine (allowed_any _ _).mono ?_; rintro e w' ⟨rfl, rfl⟩)
  go_ret2
  exact ⟨rfl, rfl⟩

theorem made_own {B g N : Nat} {w : World} (h : w.ownsRow B 5 1 (.slice (some ⟨g, 0, none⟩) N N) N (madeCells (Value.int .u8 0).cells (N * 1)).toList) : Own B w (.slice (some ⟨g, 0, none⟩) N N) (List.replicate N 0) := by
  unfold Own
  rw [show (Value.int .u8 0).cells = #[Value.int .u8 0] from rfl, toList_madeCells_one, Nat.mul_one] at h
  rw [List.length_replicate, List.map_replicate]
  exact h

theorem bys_rep (n : Nat) : Bys (List.replicate n 0) := fun z hz => by rw [(List.mem_replicate.1 hz).2]; omega

set_option maxHeartbeats 1000000 in
theorem new_yes (n : Nat) (w : World) (h8 : 8 ≤ n) (h4 : n ≤ 4096) :
    Calls Try.prog 10 #[.int .i64 n] w fun e w' => ∃ p F, e = .returned (.tuple #[.pointer (some ⟨p, 0, none⟩), .int .i64 0]) ∧ Dev w' p F (newD (List.replicate (n * 256) 0)) ∧ Below w.heap.size w w' ∧ ∀ k, F k → w.heap.size ≤ k := by
  obtain ⟨i0, hi0, hz0, hz1, hz2⟩ := info_parts info5
  have ha : aB n = true := by simp [aB]; omega
  have c1 : ∀ (ad : Addr) (cap : Nat) (w1 : World), Row w1 (some ad) cap (List.replicate (n * 256) 0) → Calls Try.prog 36 #[.slice (some ad) (n * 256) cap] w1 fun e w' => ∃ p F, e = .returned (.pointer (some ⟨p, 0, none⟩)) ∧ Dev w' p F (newD (List.replicate (n * 256) 0)) ∧ Below w1.heap.size w1 w' ∧ ∀ k, F k → w1.heap.size ≤ k := fun ad cap w1 hr => by
    have := holding_any ad cap _ w1 hr n (by simp) h8 h4
    rwa [List.length_replicate] at this
  have hm : n * 256 ≤ maxLen := by unfold maxLen; omega
  have hk : ((n : Int) * 256) = ((n * 256 : Nat) : Int) := by omega
  obtain ⟨N, hN⟩ : ∃ N, n * 256 = N := ⟨_, rfl⟩
  have h8' : 2048 ≤ N := by omega
  have h4' : N ≤ 1048576 := by omega
  rw [hN] at c1 hk hm
  have HN : Hid (n * 256 = N) := hN
  clear hN
  rw [show n * 256 = N from HN.out]
  go_enter Try.func10, Try.ntmps10
  go_wp2_with (first | (go_at_call 35; refine (allowed_any _ _).mono ?_; rintro e w' ⟨rfl, rfl⟩) | (at_make; refine wpList_make_full _ rfl _ _ 28 rfl w.heap.size 5 i0 (.int .u8 0) 1 Try.underlying28 hi0 hz0 hz1 .i64 .i64 _ _ N rfl rfl rfl rfl (by rw [hz2]; omega) hm (Nat.le_refl _) ?_; intro w1 hown1 hgrow1))
  have hb1 : Below w.heap.size w w1 := (Below.refl _ w).grown hgrow1 (Nat.le_refl _) (by simp)
  have hrow : Row w1 (some ⟨w.heap.size, 0, none⟩) N (List.replicate N 0) := by
    exact ((made_own hown1).row' (bys_rep _)).2
  refine (c1 _ _ _ hrow).mono ?_
  clear c1 hown1 hgrow1 hrow
  rintro e w2 ⟨p, F, rfl, hd, hb2, hF⟩
  have s1 := hb1.size
  have HD : Hid (Dev w2 p F (newD (List.replicate N 0))) := hd
  have HB : Hid (Below w.heap.size w w2) := hb1.trans (hb2.mono s1)
  clear hd hb1 hb2
  go_wp2
  go_ret2
  exact ⟨p, F, rfl, HD.out, HB.out, fun k hk => Nat.le_trans s1 (hF k hk)⟩

theorem load_no (a : Option Addr) (n cap : Nat) (w : World) (hn : n ≤ maxLen) (h : (decide (n % 256 = 0) && aB ((n / 256 : Nat) : Int)) = false) :
    Calls Try.prog 33 #[.slice a n cap] w fun e w' => e = .returned (.tuple #[.pointer none, .int .i64 1]) ∧ w = w' := by
  unfold maxLen at hn
  by_cases h0 : n % 256 = 0
  · have h1 : aB ((n / 256 : Nat) : Int) = false := by simpa [h0] using h
    have e1 : ((n : Int) % 256) = 0 := by omega
    obtain ⟨m, hm⟩ : ∃ m, n / 256 = m := ⟨_, rfl⟩
    have e2 : ((n : Int) / 256) = (m : Int) := by omega
    rw [hm] at h1
    clear h h0 hm
    go_enter Try.func33, Try.ntmps33
    go_wp2_with (go_at_call 35; refine (allowed_any _ _).mono ?_; rintro e w' ⟨rfl, rfl⟩)
    go_ret2
    exact ⟨rfl, rfl⟩
  · have e1 : ¬ ((n : Int) % 256) = 0 := by omega
    clear h h0
    go_enter Try.func33, Try.ntmps33
    go_wp2_with (go_at_call 35; refine (allowed_any _ _).mono ?_; rintro e w' ⟨rfl, rfl⟩)
    go_ret2
    exact ⟨rfl, rfl⟩

theorem load_yes (ad : Addr) (cap : Nat) (zs : List Int) (w : World) (h : Row w (some ad) cap zs) (n : Nat) (hl : zs.length = n * 256) (h8 : 8 ≤ n) (h4 : n ≤ 4096) :
    Calls Try.prog 33 #[.slice (some ad) zs.length cap] w fun e w' => ∃ p F, e = .returned (.tuple #[.pointer (some ⟨p, 0, none⟩), .int .i64 0]) ∧ Dev w' p F (newD zs) ∧ Below w.heap.size w w' ∧ ∀ k, F k → w.heap.size ≤ k := by
  have c1 := holding_any ad cap zs w h n hl h8 h4
  have ha : aB n = true := by simp [aB]; omega
  have e1 : ((zs.length : Int) % 256) = 0 := by omega
  have e2 : ((zs.length : Int) / 256) = n := by omega
  clear h hl
  go_enter Try.func33, Try.ntmps33
  go_wp2_with (first | (go_at_call 35; refine (allowed_any _ _).mono ?_; rintro e w' ⟨rfl, rfl⟩) | (go_at_call 36; refine c1.mono ?_; rintro e w' ⟨p, F, rfl, hd, hb, hF⟩))
  go_ret2
  exact ⟨_, _, rfl, hd, hb, hF⟩

theorem made_any {w : World} {p : Nat} {F : Nat → Prop} {D : Dv} (h : Dev w p F D) : Calls Try.prog 37 #[.pointer (some ⟨p, 0, none⟩)] w fun e w' => e = .returned (.bool true) ∧ w = w' := by
  obtain ⟨ok, _, gN, gL, cN, cL, vS, vO, f, hc, _⟩ := h
  have c0 := hc.at.1
  have hl : 0 < D.now.length := by have := ok.now; have := ok.n8; omega
  clear ok hc
  go_enter Try.func37, Try.ntmps37
  go_wp2
  go_ret
  exact ⟨rfl, rfl⟩

theorem pages_any {w : World} {p : Nat} {F : Nat → Prop} {D : Dv} (h : Dev w p F D) : Calls Try.prog 30 #[.pointer (some ⟨p, 0, none⟩)] w fun e w' => e = .returned (.int .i64 D.n) ∧ w = w' := by
  have hm := made_any h
  obtain ⟨ok, _, gN, gL, cN, cL, vS, vO, f, hc, _⟩ := h
  have c0 := hc.at.1
  have e : (D.now.length : Int) / 256 = D.n := by have := ok.now; omega
  have hl : D.now.length ≤ 1048576 := by have := ok.now; have := ok.n4; omega
  clear ok hc
  go_enter Try.func30, Try.ntmps30
  go_wp2_with (go_at_call 37; refine hm.mono ?_; rintro e w' ⟨rfl, rfl⟩)
  go_ret
  exact ⟨rfl, rfl⟩

def hasB (D : Dv) (pg : Int) : Bool := decide (0 ≤ pg ∧ pg < D.n)

theorem has_any {w : World} {p : Nat} {F : Nat → Prop} {D : Dv} (h : Dev w p F D) (pg : Int) : Calls Try.prog 38 #[.pointer (some ⟨p, 0, none⟩), .int .i64 pg] w fun e w' => e = .returned (.bool (hasB D pg)) ∧ w = w' := by
  have hm := pages_any h
  have ht : ∀ (b : Bool), b = hasB D pg → Ending.returned (.bool b) = .returned (.bool (hasB D pg)) := fun b h => by rw [h]
  clear h
  by_cases h0 : 0 ≤ pg
  · by_cases h1 : pg < D.n
    · go_enter Try.func38, Try.ntmps38
      go_wp2_with (go_at_call 30; refine hm.mono ?_; rintro e w' ⟨rfl, rfl⟩)
      go_ret
      exact ⟨ht _ (by simp [hasB]; omega), rfl⟩
    · go_enter Try.func38, Try.ntmps38
      go_wp2_with (go_at_call 30; refine hm.mono ?_; rintro e w' ⟨rfl, rfl⟩)
      go_ret
      exact ⟨ht _ (by simp [hasB]; omega), rfl⟩
  · go_enter Try.func38, Try.ntmps38
    go_wp2_with (go_at_call 30; refine hm.mono ?_; rintro e w' ⟨rfl, rfl⟩)
    go_ret
    exact ⟨ht _ (by simp [hasB]; omega), rfl⟩

theorem ops_any {w : World} {p : Nat} {F : Nat → Prop} {D : Dv} (h : Dev w p F D) : Calls Try.prog 29 #[.pointer (some ⟨p, 0, none⟩)] w fun e w' => e = .returned (.int .i64 D.ops) ∧ w = w' := by
  have hm := made_any h
  obtain ⟨ok, _, gN, gL, cN, cL, vS, vO, f, hc, _⟩ := h
  have c0 := hc.at.2.2.2.2.2.1
  clear ok hc
  go_enter Try.func29, Try.ntmps29
  go_wp2_with (go_at_call 37; refine hm.mono ?_; rintro e w' ⟨rfl, rfl⟩)
  go_ret
  exact ⟨rfl, rfl⟩

theorem dead_any {w : World} {p : Nat} {F : Nat → Prop} {D : Dv} (h : Dev w p F D) : Calls Try.prog 18 #[.pointer (some ⟨p, 0, none⟩)] w fun e w' => e = .returned (.bool D.dead) ∧ w = w' := by
  have hm := made_any h
  obtain ⟨ok, _, gN, gL, cN, cL, vS, vO, f, hc, _⟩ := h
  have c0 := hc.at.2.2.2.2.2.2.1
  clear ok hc
  go_enter Try.func18, Try.ntmps18
  go_wp2_with (go_at_call 37; refine hm.mono ?_; rintro e w' ⟨rfl, rfl⟩)
  go_ret
  exact ⟨rfl, rfl⟩

theorem image_any {w : World} {p : Nat} {F : Nat → Prop} {D : Dv} (h : Dev w p F D) : Calls Try.prog 31 #[.pointer (some ⟨p, 0, none⟩)] w fun e w' => ∃ g c, e = .returned (.slice (some ⟨g, 0, none⟩) D.now.length c) ∧ Own w.heap.size w' (.slice (some ⟨g, 0, none⟩) D.now.length c) D.now ∧ Below w.heap.size w w' := by
  have hm := made_any h
  obtain ⟨ok, _, gN, gL, cN, cL, vS, vO, f, hc, _⟩ := h
  have c0 := hc.at.1
  have cl := clone_some ⟨gN, 0, none⟩ cN D.now w (hc.now.row' ok.bnow).2 (by have := ok.now; have := ok.n4; omega)
  clear ok hc
  go_enter Try.func31, Try.ntmps31
  go_wp2_with (first | (go_at_call 37; refine hm.mono ?_; rintro e w' ⟨rfl, rfl⟩) | (go_at_call 41; refine cl.mono ?_; rintro e w' ⟨g, c, rfl, ho, hb⟩))
  go_ret
  exact ⟨g, c, rfl, ho, hb⟩
end Go.Proofs.Ytfbjjdjgijdlaaa.Oct
