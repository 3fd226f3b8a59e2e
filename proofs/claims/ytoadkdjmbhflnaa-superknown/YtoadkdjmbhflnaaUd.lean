/-
  super.Check.
-/
import Derived.Test.YtoadkdjmbhflnaaUc
namespace Go.Proofs.Ytoadkdjmbhflnaa.Oct
open Go.RowKit

theorem Below.drewN {B : Nat} {a w : World} (h : Below B a w) (n : Nat) : Below B a (w.drewN n) := ⟨h.os, h.tape, h.output, h.size, h.block⟩

/-- A block's fields are gone through: so far. -/
structure Chk (w wr : World) (S : Sp) (B F k : Nat) : Prop where
  yes : ∀ j, j < k → fitS S j = true
  sl : Sl8 wr B S
  fd : Fds wr F B
  bel : Below w.heap.size w wr

theorem Chk.next {w wr : World} {S : Sp} {B F k : Nat} (h : Chk w wr S B F k) (hf : fitS S k = true) (n : Nat) : Chk w (wr.drewN n) S B F (k + 1) where
  yes := fun j hj => by
    by_cases e : j = k
    · rw [e]; exact hf
    · exact h.yes j (by omega)
  sl := h.sl.same rfl
  fd := h.fd.same rfl
  bel := Below.drewN h.bel n

theorem Chk.alloc {w wr : World} {S : Sp} {B F k : Nat} (h : Chk w wr S B F k) (o : Obj) : Chk w (wr.alloc o) S B F k where
  yes := h.yes
  sl := h.sl.below ((Below.refl _ _).alloc (Nat.le_refl _) _)
  fd := h.fd.below ((Below.refl _ _).alloc (Nat.le_refl _) _)
  bel := h.bel.alloc h.bel.size _

theorem Chk.p {w wr : World} {S : Sp} {B F k : Nat} (h : Chk w wr S B F k) (hk : 1 < k) : 8 ≤ S.p ∧ S.p ≤ 4096 := of_decide_eq_true (h.yes 1 hk)

set_option maxHeartbeats 2000000 in
theorem check_v (S : Sp) (w : World) (E : Int) (hE : enE S = E) :
    Calls Try.prog 14 #[spV S] w fun e w' => e = .returned (.int .i64 E) ∧ Below w.heap.size w w' := by
  have HN : Hid (∀ k, k < 8 → fitS S k = false → E = 1) := fun k hk h => by rw [← hE]; unfold enE; rw [okS_no hk h]; rfl
  have HY : Hid ((∀ k, k < 8 → fitS S k = true) → E = 0) := fun h => by rw [← hE]; unfold enE; rw [okS_all.2 h]; rfl
  clear hE
  dsimp only [spV]
  go_enter Try.func14, Try.ntmps14
  go_wp2_with fail
  refine (fields_any _ _).mono ?_
  rintro e w1 ⟨rfl, hfd, hb, -⟩
  have HC : Hid (∃ F, F = w.heap.size + 1 + 1 ∧ Chk w w1 S (w.heap.size + 1) F 0) := by
    refine ⟨_, rfl, fun j hj => by omega, ?_, ?_, ?_⟩
    · have := (sl8_new (w.alloc (.cells #[.int .i64 S.g, .int .i64 S.p, .int .i64 S.r, .int .i64 S.h, .int .i64 S.b, .int .i64 S.l, .int .i64 S.s, .int .i64 S.f] 28)) S 52).below hb
      simpa using this
    · simpa using hfd
    · exact (((Below.refl _ w).alloc (Nat.le_refl _) _).alloc (by simp) _).trans (hb.mono (by simp; omega))
  clear hb hfd
  obtain ⟨F, hF, hC⟩ := HC.out
  clear HC
  have HC : Hid (Chk w w1 S (w.heap.size + 1) F 0) := hC
  clear hC
  go_wp2_with fail
  rw [← hF]
  clear hF
  go_loopw [12] (fun i wr => ∃ k : Nat, k ≤ 8 ∧ i = .int .i64 k ∧ Chk w wr S (w.heap.size + 1) F k) (fun i _ => 8 - (intOf i).toNat)
  case atStart => exact ⟨0, Nat.zero_le _, rfl, HC.out⟩
  case round =>
    obtain ⟨k, hk, rfl, hch⟩ := hrel
    clear HC
    by_cases hlt : k < 8
    · obtain ⟨c0, c1, c2⟩ := hch.fd k hlt
      obtain ⟨fk, hfk⟩ : ∃ fk, ff k = fk := ⟨_, rfl⟩
      have hfs : fk = 40 ∨ fk = 41 ∨ fk = 42 ∨ fk = 43 ∨ fk = 44 ∨ fk = 45 ∨ fk = 46 ∨ fk = 47 := by
        rw [← hfk]
        rcases eight hlt with rfl | rfl | rfl | rfl | rfl | rfl | rfl | rfl <;> simp [ff]
      have C : ∀ (o : Obj), Calls Try.prog fk #[.pointer (some ⟨w.heap.size + 1, 0, none⟩)] (wr.alloc o) fun e w' => e = .returned (.bool (fitS S k)) ∧ ∃ n, w' = (wr.alloc o).drewN n := fun o => by
        rw [← hfk]
        exact fit_any _ S _ (hch.sl.below ((Below.refl _ _).alloc (Nat.le_refl _) _)) hlt hch.p
      rw [hfk] at c2
      obtain ⟨q, hq⟩ : ∃ q, wdS k = q := ⟨_, rfl⟩
      rw [hq] at c0
      have HCH : Hid (Chk w wr S (w.heap.size + 1) F k) := hch
      have HCC : Hid _ := C
      clear hch C hfk hq
      cases hv : fitS S k
      · have hE := HN.out k hlt hv
        rw [hv] at HCC
        clear HN HY
        subst hE
        rcases hfs with rfl | rfl | rfl | rfl | rfl | rfl | rfl | rfl
        all_goals
         go_wp2_with fail
         refine (HCC.out _).mono ?_
         rintro e w2 ⟨rfl, n, rfl⟩
         go_wp2
         go_ret
         exact ⟨rfl, Below.drewN (HCH.out.bel.alloc HCH.out.bel.size _) n⟩
      · rw [hv] at HCC
        rcases hfs with rfl | rfl | rfl | rfl | rfl | rfl | rfl | rfl
        all_goals
         go_wp2_with fail
         refine (HCC.out _).mono ?_
         rintro e w2 ⟨rfl, n, rfl⟩
         go_wp2
         go_roundw
         case rel => exact ⟨k + 1, by omega, by go_num, (HCH.out.alloc _).next hv n⟩
         case measure => simp [intOf]; omega
    · have hk8 : k = 8 := by omega
      subst hk8
      have hE := HY.out hch.yes
      clear HN HY
      subst hE
      have HB : Hid (Below w.heap.size w wr) := hch.bel
      clear hch
      go_wp2
      go_ret
      exact ⟨rfl, HB.out⟩

theorem check_any (S : Sp) (w : World) : Calls Try.prog 14 #[spV S] w fun e w' => e = .returned (.int .i64 (enE S)) ∧ Below w.heap.size w w' := check_v S w _ rfl
end Go.Proofs.Ytoadkdjmbhflnaa.Oct
