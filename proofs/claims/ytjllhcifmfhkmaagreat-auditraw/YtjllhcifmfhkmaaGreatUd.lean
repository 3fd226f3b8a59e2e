/-
  super.Check.
-/
import Derived.Test.YtjllhcifmfhkmaaGreatRn
namespace Go.Proofs.YtjllhcifmfhkmaaGreat.Oct
open Go.RowKit

/-- A block's fields are gone through: so far. -/
structure Chk (w wr : World) (S : Sp) (B F k : Nat) : Prop where
  yes : ∀ j, j < k → fitS S j = true
  sl : Sl8 wr B S
  fd : Fds wr F B
  bel : Below w.heap.size w wr

theorem Chk.next {w wr : World} {S : Sp} {B F k : Nat} (h : Chk w wr S B F k) (hf : fitS S k = true) (n : Nat) : Chk w (wr.drewN n) S B F (k + 1) where
  yes := fun j hj => by
    by_cases e : j = k
    · rw [e]; exact hf
    · exact h.yes j (by omega)
  sl := h.sl.same rfl
  fd := h.fd.same rfl
  bel := Below.drewN h.bel n

theorem Chk.alloc {w wr : World} {S : Sp} {B F k : Nat} (h : Chk w wr S B F k) (o : Obj) : Chk w (wr.alloc o) S B F k where
  yes := h.yes
  sl := h.sl.below ((Below.refl _ _).alloc (Nat.le_refl _) _)
  fd := h.fd.below ((Below.refl _ _).alloc (Nat.le_refl _) _)
  bel := h.bel.alloc h.bel.size _

theorem Chk.p {w wr : World} {S : Sp} {B F k : Nat} (h : Chk w wr S B F k) (hk : 1 < k) : 8 ≤ S.p ∧ S.p ≤ 4096 := of_decide_eq_true (h.yes 1 hk)

set_option maxHeartbeats 2000000 in
theorem check_v (S : Sp) (w : World) (E : Int) (hE : enE S = E) :
    Calls Tryz.prog 27 #[spV S] w fun e w' => e = .returned (.int .i64 E) ∧ Below w.heap.size w w' := by
  have HN : Hid (∀ k, k < 8 → fitS S k = false → E = 1) := fun k hk h => by rw [← hE]; unfold enE; rw [okS_no hk h]; rfl
  have HY : Hid ((∀ k, k < 8 → fitS S k = true) → E = 0) := fun h => by rw [← hE]; unfold enE; rw [okS_all.2 h]; rfl
  clear hE
  dsimp only [spV]
  go_enter Tryz.func27, Tryz.ntmps27
  go_wp2_with fail
  refine (fields_any _ _).mono ?_
  rintro e w1 ⟨rfl, hfd, hb, -⟩
  have HC : Hid (∃ F, F = w.heap.size + 1 + 1 ∧ Chk w w1 S (w.heap.size + 1) F 0) := by
    refine ⟨_, rfl, fun j hj => by omega, ?_, ?_, ?_⟩
    · have := (sl8_new (w.alloc (.cells #[.int .i64 S.g, .int .i64 S.p, .int .i64 S.r, .int .i64 S.h, .int .i64 S.b, .int .i64 S.l, .int .i64 S.s, .int .i64 S.f] 28)) S 110).below hb
      simpa using this
    · simpa using hfd
    · exact (((Below.refl _ w).alloc (Nat.le_refl _) _).alloc (by simp) _).trans (hb.mono (by simp; omega))
  clear hb hfd
  obtain ⟨F, hF, hC⟩ := HC.out
  clear HC
  have HC : Hid (Chk w w1 S (w.heap.size + 1) F 0) := hC
  clear hC
  go_wp2_with fail
  rw [← hF]
  clear hF
  go_loopw [12] (fun i wr => ∃ k : Nat, k ≤ 8 ∧ i = .int .i64 k ∧ Chk w wr S (w.heap.size + 1) F k) (fun i _ => 8 - (intOf i).toNat)
  case atStart => exact ⟨0, Nat.zero_le _, rfl, HC.out⟩
  case round =>
    obtain ⟨k, hk, rfl, hch⟩ := hrel
    clear HC
    by_cases hlt : k < 8
    · obtain ⟨c0, c1, c2⟩ := hch.fd k hlt
      obtain ⟨fk, hfk⟩ : ∃ fk, ff k = fk := ⟨_, rfl⟩
      have hfs : fk = 79 ∨ fk = 80 ∨ fk = 81 ∨ fk = 82 ∨ fk = 83 ∨ fk = 84 ∨ fk = 85 ∨ fk = 86 := by
        rw [← hfk]
        rcases eight hlt with rfl | rfl | rfl | rfl | rfl | rfl | rfl | rfl <;> simp [ff]
      have C : ∀ (o : Obj), Calls Tryz.prog fk #[.pointer (some ⟨w.heap.size + 1, 0, none⟩)] (wr.alloc o) fun e w' => e = .returned (.bool (fitS S k)) ∧ ∃ n, w' = (wr.alloc o).drewN n := fun o => by
        rw [← hfk]
        exact fit_any _ S _ (hch.sl.below ((Below.refl _ _).alloc (Nat.le_refl _) _)) hlt hch.p
      rw [hfk] at c2
      obtain ⟨q, hq⟩ : ∃ q, wdS k = q := ⟨_, rfl⟩
      rw [hq] at c0
      have HCH : Hid (Chk w wr S (w.heap.size + 1) F k) := hch
      have HCC : Hid _ := C
      clear hch C hfk hq
      cases hv : fitS S k
      · have hE := HN.out k hlt hv
        rw [hv] at HCC
        clear HN HY
        subst hE
        rcases hfs with rfl | rfl | rfl | rfl | rfl | rfl | rfl | rfl
        all_goals
         go_wp2_with fail
         refine (HCC.out _).mono ?_
         rintro e w2 ⟨rfl, n, rfl⟩
         go_wp2
         go_ret
         exact ⟨rfl, Below.drewN (HCH.out.bel.alloc HCH.out.bel.size _) n⟩
      · rw [hv] at HCC
        rcases hfs with rfl | rfl | rfl | rfl | rfl | rfl | rfl | rfl
        all_goals
         go_wp2_with fail
         refine (HCC.out _).mono ?_
         rintro e w2 ⟨rfl, n, rfl⟩
         go_wp2
         go_roundw
         case rel => exact ⟨k + 1, by omega, by go_num, (HCH.out.alloc _).next hv n⟩
         case measure => simp [intOf]; omega
    · have hk8 : k = 8 := by omega
      subst hk8
      have hE := HY.out hch.yes
      clear HN HY
      subst hE
      have HB : Hid (Below w.heap.size w wr) := hch.bel
      clear hch
      go_wp2
      go_ret
      exact ⟨rfl, HB.out⟩

theorem check_any (S : Sp) (w : World) : Calls Tryz.prog 27 #[spV S] w fun e w' => e = .returned (.int .i64 (enE S)) ∧ Below w.heap.size w w' := check_v S w _ rfl
end Go.Proofs.YtjllhcifmfhkmaaGreat.Oct

/-
  super's noughts, and the document's.
-/
namespace Go.Proofs.YtjllhcifmfhkmaaGreat.Oct
open Go.RowKit

set_option maxHeartbeats 1000000 in
theorem noughts_v (b off cap n : Nat) (zs : List Int) (w : World) (h : Row w (some ⟨b, off, none⟩) cap zs) (hn : zs.length = n) (V : Bool) (hV : nouB zs = V) :
    Calls Tryz.prog 104 #[.slice (some ⟨b, off, none⟩) n cap] w fun e w' => e = .returned (.bool V) ∧ w = w' := by
  subst hn
  have hm := Nat.le_trans h.2.1 h.2.2.1
  unfold maxLen at hm
  have HCE : Hid (∀ i, i < zs.length → w.cell? ⟨b, off + i, none⟩ = some (.int .u8 (zs.getD i 0))) := h.cells
  have HBY : Hid (Bys zs) := h.1
  have HV : Hid (nouB zs = V) := hV
  clear hV h
  go_enter Tryz.func104, Tryz.ntmps104
  go_wp2_with fail
  go_loop [7] (fun i => ∃ k : Nat, k ≤ zs.length ∧ i = .int .i64 k ∧ Hid (∀ j, j < k → zs.getD j 0 = 0)) (fun i => zs.length - (intOf i).toNat)
  case atStart => exact ⟨0, Nat.zero_le _, rfl, fun j hj => by omega⟩
  case round =>
    obtain ⟨k, hk, rfl, HK⟩ := hrel
    by_cases hlt : k < zs.length
    · have hc := HCE.out k hlt
      obtain ⟨x, hx⟩ : ∃ x, zs.getD k 0 = x := ⟨_, rfl⟩
      rw [hx] at hc
      by_cases h0 : x = 0
      · subst h0
        have HX : Hid (zs.getD k 0 = 0) := hx
        clear hx
        go_wp2
        go_round
        case rel => exact ⟨k + 1, by omega, by go_num, fun j hj => by
          by_cases e : j = k
          · rw [e]; exact HX.out
          · exact HK.out j (by omega)⟩
        case measure => simp [intOf]; omega
      · have e : V = false := by rw [← HV.out]; exact nouB_no hlt (by rw [hx]; exact h0)
        have h0b : (x != 0) = true := by simpa using h0
        subst e
        clear hx h0
        go_wp2
        go_ret
        exact ⟨rfl, rfl⟩
    · have e : V = true := by rw [← HV.out]; exact nouB_iff.2 fun j hj => HK.out j (by omega)
      subst e
      go_wp2
      go_ret
      exact ⟨rfl, rfl⟩

end Go.Proofs.YtjllhcifmfhkmaaGreat.Oct

/-
  super's body of a superblock.
-/
namespace Go.Proofs.YtjllhcifmfhkmaaGreat.Oct
open Go.RowKit

/-- A body on its way: k numbers are laid. -/
structure Bod (w wr : World) (S : Sp) (B F k : Nat) (g : Option Addr) (c : Nat) : Prop where
  own : Own w.heap.size wr (.slice g 248 c) (shS S k)
  sl : Sl8 wr B S
  fd : Fds wr F B
  bel : Below w.heap.size w wr

theorem own_keepB {base : Nat} {w w1 : World} {v : Value} {zs : List Int} (h : Own base w v zs) (k : Below w.heap.size w w1) : Own base w1 v zs := by
  obtain ⟨h1, h2 | ⟨g, cap, cur, e, hg, hc, r⟩⟩ := h
  · exact ⟨h1, .inl h2⟩
  · have hl : g < w.heap.size := by
      by_cases hl : g < w.heap.size
      · exact hl
      · rw [Array.getElem?_eq_none (by omega)] at hc
        cases hc
    exact ⟨h1, .inr ⟨g, cap, cur, e, hg, (k.block g hl).trans hc, r⟩⟩

end Go.Proofs.YtjllhcifmfhkmaaGreat.Oct
