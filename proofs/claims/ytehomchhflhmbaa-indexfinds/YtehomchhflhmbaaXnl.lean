/-
  The landed index: Step, Cut.
-/
import Derived.Test.YtehomchhflhmbaaXnk
import Derived.Deep.RegionWith
namespace Go.Proofs.Ytehomchhflhmbaa.Oct
open Go.RowKit

section
variable {w w' : World} {s : Nat} {v : Value} {F G : Nat → Prop} {b : List Int}

/-- A new row, and a new number seen, laid where the old ones were. -/
theorem IxM.laid (h : IxM w s v F b) {w1 : World} {v' : Value} {b' : List Int} (hc : Ch w.heap.size (fun k => v.ownBlock = some k) w w1) (ho : OwI 0 w1 v' (endsF 0 b')) (hm : Mine w v v') (hl : b'.length ≤ 1000000) :
    ∃ F', Ixl ((w1.setCell ⟨s, 2, none⟩ v').setCell ⟨s, 1, none⟩ (.int .i64 b'.length)) s F' b' ∧ Step F F' w ((w1.setCell ⟨s, 2, none⟩ v').setCell ⟨s, 1, none⟩ (.int .i64 b'.length)) := by
  have hsl := heap_lt h.cells
  have hc1 : w1.heap[s]? = some (.cells #[.bool true, .int .i64 b.length, v] 44 (0, 0)) := (hc.block s hsl (fun e => (h.own s e).2 rfl)).trans h.cells
  have hc2 := setCell_heap w1 s 2 v' _ _ _ hc1
  have hc3 := setCell_heap _ s 1 (.int .i64 b'.length) _ _ _ hc2
  have hne : ∀ g, v'.ownBlock = some g → ¬ g = s := fun g hg e => by
    rcases hm g hg with h' | h'
    · exact (h.own g h').2 e
    · omega
  refine ⟨fun k => k = s ∨ v'.ownBlock = some k, ⟨v', ?_, .inl rfl, ?_, hc3, fun g hg => ⟨.inr hg, hne g hg⟩, hl⟩, ?_, ?_⟩
  · intro k hk
    rw [size_setCell, size_setCell]
    rcases hk with rfl | hk
    · exact Nat.lt_of_lt_of_le hsl hc.size
    · exact (ho.lt k hk).2
  · refine ho.keep (fun g hg => ?_)
    rw [Below.heap_setCell _ ⟨s, 1, none⟩ _ g (fun e => hne g hg e), Below.heap_setCell _ ⟨s, 2, none⟩ _ g (fun e => hne g hg e)]
  · exact ((hc.mono (Nat.le_refl _) (fun k _ hk => (h.own k hk).1)).setCell (p := ⟨s, 2, none⟩) (.inr h.fs) _).setCell (p := ⟨s, 1, none⟩) (.inr h.fs) _
  · rintro k (rfl | hk)
    · exact .inl h.fs
    · rcases hm k hk with h' | h'
      · exact .inl (h.own k h').1
      · exact .inr h'

theorem icut (h : Ixl w s F b) (p : Int) (hp : -9223372036854775808 ≤ p ∧ p ≤ 9223372036854775807) : Calls Try.prog 16 #[.pointer (some ⟨s, 0, none⟩), .int .i64 p] w fun e w' => e = .returned (.tuple #[]) ∧ ∃ F', Ixl w' s F' (cutL b p) ∧ Step F F' w w' := by
  obtain ⟨v, h⟩ := h
  have hrd := ready_any h
  obtain ⟨s0, s1, s2, s3⟩ := h.at
  have hlen := h.len
  have hnl := nlC_le b
  by_cases hp0 : 0 ≤ p ∧ p ≤ (b.length : Int)
  · have ha := ahead_any h.row (endsF_pair 0 b) (by rw [ends_len]; omega) (fun z hz => by have := ends_in (b := b) (Nat.le_refl _) z hz; omega) p hp
    obtain ⟨j, rfl⟩ : ∃ j : Nat, p = (j : Int) := ⟨p.toNat, by omega⟩
    have HE : Hid (cutL b (j : Int) = b.take j ∧ j ≤ b.length) := ⟨by unfold cutL; rw [if_pos hp0, Int.toNat_natCast], by omega⟩
    have HM : Hid (IxM w s v F b) := h
    obtain ⟨n, hn⟩ : ∃ n, b.length = n := ⟨_, rfl⟩
    rw [hn] at s1 hp0 hlen
    have hz2 := s3 2
    have hz1 := s3 1
    clear h hn hnl s3
    go_enter Try.func16, Try.ntmps16
    go_wp2_with (first
      | (go_at_call 20; refine hrd.mono ?_; clear hrd; rintro e w1 ⟨rfl, rfl⟩)
      | (go_at_call 23; refine ha.mono ?_; clear ha; rintro e w1 ⟨r, v', rfl, ho, hr1, hr2, hr3, hmn, -, rfl⟩
         obtain ⟨e1, e2, -⟩ := upto_nl HE.out.2 hr1 hr2 hr3
         rw [e2] at ho
         have HL : Hid _ := HM.out.laid (b' := b.take j) (Ch.refl _ _ _) ho (fun g hg => .inl (hmn g hg)) (by rw [List.length_take]; have := HM.out.len; omega)
         obtain ⟨a', c', rfl, -⟩ := ho.row
         clear ho hr1 hr2 hr3 hmn e1 e2))
    refine bodyPost_end (v := .tuple #[]) ?_ ?_ ?_
    · exact results_none rfl _ _ _
    · rfl
    have e3 : (b.take j).length = j := by rw [List.length_take]; have := HE.out.2; omega
    have := HL.out
    rw [e3] at this
    rw [HE.out.1]
    exact ⟨rfl, this⟩
  · have HE : Hid (cutL b p = b) := by show _ = _; unfold cutL; rw [if_neg hp0]
    have HM : Hid (Ixl w s F b) := ⟨v, h⟩
    obtain ⟨n, hn⟩ : ∃ n, b.length = n := ⟨_, rfl⟩
    rw [hn] at s1 hp0 hlen
    clear h hn hnl s3
    rcases (by omega : p < 0 ∨ (0 ≤ p ∧ (n : Int) < p)) with hq | hq
    all_goals (
      clear hp0
      go_enter Try.func16, Try.ntmps16
      go_wp2_with (go_at_call 20; refine hrd.mono ?_; clear hrd; rintro e w1 ⟨rfl, rfl⟩)
      refine bodyPost_ret (results_none rfl _ _ _) rfl ?_
      exact ⟨rfl, F, by rw [HE.out]; exact HM.out, Step.refl _ _⟩)

set_option maxHeartbeats 2000000 in
theorem istep (h : Ixl w s F b) (a : Option Addr) (cap : Nat) (zs : List Int) (n : Nat) (hr : Row w a cap zs) (hn : zs.length = n) (hap : zs = [] ∨ Apart F a) (hl : b.length + n ≤ 1000000) : Calls Try.prog 9 #[.pointer (some ⟨s, 0, none⟩), .slice a n cap] w fun e w' => e = .returned (.tuple #[]) ∧ ∃ F', Ixl w' s F' (b ++ zs) ∧ Step F F' w w' := by
  obtain ⟨v, h⟩ := h
  have hrd := ready_any h
  obtain ⟨s0, s1, s2, s3⟩ := h.at
  have hlen := h.len
  have hnl := nlC_le b
  have hw := withTens_any (w := w.drew) (h.row.keep (fun _ _ => rfl) : OwI 0 w.drew v (endsF 0 b)) (Nat.zero_le _) a cap zs (hr.below (Below.refl _ w).drew) n hn (hap.imp id (fun g x hx e => g x hx (h.own _ e).1)) b.length (by omega) (by rw [ends_len]; omega)
  have HM : Hid (IxM w s v F b) := h
  have HX : Hid ((b ++ zs).length = b.length + n ∧ b.length + n ≤ 1000000 ∧ endsF 0 (b ++ zs) = endsF 0 b ++ endsF b.length zs) := ⟨by rw [List.length_append, hn], hl, by rw [endsF_app, Int.zero_add]⟩
  have hc1 := hr.2.1
  have hc2 := hr.2.2.1
  unfold maxLen at hc2
  rw [hn] at hc1
  obtain ⟨m, hm⟩ : ∃ m, b.length = m := ⟨_, rfl⟩
  rw [hm] at s1 hlen hw hl
  rw [hm] at HX
  have HS : Hid _ := s3
  have hsl := heap_lt h.cells
  have hne := fun k hk => (h.own k hk).2
  obtain ⟨a0, c0, rfl, -⟩ := h.row.row
  clear h hm hr hn hap s3 hnl
  go_enter Try.func9, Try.ntmps9
  go_wp2_with (go_at_call 20; refine hrd.mono ?_; clear hrd; rintro e w0 ⟨rfl, rfl⟩)
  go_region_with (
       go_at_call 21; refine hw.mono ?_; clear hw; rintro e w1 ⟨v', rfl, ho, hch, hmi⟩
       have hch1 : Ch w0.heap.size (fun k => (Value.slice a0 (endsF 0 b).length c0).ownBlock = some k) w0 w1 := ⟨hch.os, hch.tape, hch.output, hch.size, hch.block⟩
       have t21 := (hch1.cell (p := ⟨s, 1, none⟩) hsl (fun e => hne s e rfl)).trans s1
       have t22 := (hch1.cell (p := ⟨s, 2, none⟩) hsl (fun e => hne s e rfl)).trans s2
       have z1 := (hch1.frozen (p := ⟨s, 1, none⟩) hsl (fun e => hne s e rfl)).trans (HS.out 1)
       have z2 := (hch1.frozen (p := ⟨s, 2, none⟩) hsl (fun e => hne s e rfl)).trans (HS.out 2)
       rw [← HX.out.2.2] at ho
       have HL : Hid _ := HM.out.laid (b' := b ++ zs) hch1 ho (fun g hg => hmi g hg) (by rw [HX.out.1]; exact HX.out.2.1)
       obtain ⟨a', c', rfl, -⟩ := ho.row
       clear ho hch hmi hch1)
  all_goals (try go_wp2)
  all_goals (
    refine bodyPost_end (v := .tuple #[]) ?_ ?_ ?_
    · exact results_none rfl _ _ _
    · rfl
    have := HL.out
    rw [HX.out.1] at this
    exact ⟨rfl, this⟩)
end
end Go.Proofs.Ytehomchhflhmbaa.Oct
