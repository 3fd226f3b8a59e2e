/-
  The landed index in memory: New, Seen, Known, Begin, Line.
-/
import Derived.Test.YtehomchhflhmbaaXnj
namespace Go.Proofs.Ytehomchhflhmbaa.Oct
open Go.RowKit

/-- The landed index in memory, that has seen b. -/
structure IxM (w : World) (s : Nat) (v : Value) (F : Nat → Prop) (b : List Int) : Prop where
  lt : ∀ k, F k → k < w.heap.size
  fs : F s
  row : OwI 0 w v (endsF 0 b)
  cells : w.heap[s]? = some (.cells #[.bool true, .int .i64 b.length, v] 44 (0, 0))
  own : ∀ g, v.ownBlock = some g → F g ∧ ¬ g = s
  len : b.length ≤ 1000000
def Ixl (w : World) (s : Nat) (F : Nat → Prop) (b : List Int) : Prop := ∃ v, IxM w s v F b

section
variable {w w' : World} {s : Nat} {v : Value} {F G : Nat → Prop} {b : List Int}

theorem IxM.keep (h : IxM w s v F b) (hs : w.heap.size ≤ w'.heap.size) (k : ∀ g, F g → w'.heap[g]? = w.heap[g]?) : IxM w' s v F b :=
  { h with lt := fun g hg => Nat.lt_of_lt_of_le (h.lt g hg) hs, cells := (k s h.fs).trans h.cells, row := h.row.keep (fun g hg => k g (h.own g hg).1) }
theorem Ixl.ch (h : Ixl w s F b) (hc : Ch w.heap.size G w w') (hd : ∀ k, F k → ¬ G k) : Ixl w' s F b :=
  h.imp fun _ h => h.keep hc.size (fun g hg => hc.block g (h.lt g hg) (hd g hg))

/-- What a walk wants. -/
theorem IxM.at (h : IxM w s v F b) : w.cell? ⟨s, 0, none⟩ = some (.bool true) ∧ w.cell? ⟨s, 1, none⟩ = some (.int .i64 b.length) ∧ w.cell? ⟨s, 2, none⟩ = some v ∧ (∀ i, w.frozen? ⟨s, i, none⟩ = false) := by
  refine ⟨?_, ?_, ?_, fun i => ?_⟩
  · rw [cell_of_row w s _ _ _ (0, 0) h.cells]; rfl
  · rw [cell_of_row w s _ _ _ (0, 0) h.cells]; rfl
  · rw [cell_of_row w s _ _ _ (0, 0) h.cells]; rfl
  · simp [World.frozen?, h.cells]

theorem ends_len (b : List Int) : (endsF 0 b).length = nlC b := endsF_len 0 b
theorem ends_in {b : List Int} {L : Nat} (h : b.length ≤ L) : ∀ z ∈ endsF 0 b, 0 ≤ z ∧ z ≤ (L : Int) := fun z hz => by have := endsF_in hz; omega

theorem ready_any (h : IxM w s v F b) : Calls Try.prog 20 #[.pointer (some ⟨s, 0, none⟩)] w fun e w' => e = .returned (.bool true) ∧ w' = w := by
  obtain ⟨s0, s1, s2, -⟩ := h.at
  clear h
  go_enter Try.func20, Try.ntmps20
  go_wp2
  go_ret
  exact ⟨rfl, rfl⟩

theorem inew (w : World) : Calls Try.prog 8 #[] w fun e w' => ∃ s F, e = .returned (.pointer (some ⟨s, 0, none⟩)) ∧ Ixl w' s F [] ∧ Below w.heap.size w w' ∧ ∀ k, F k → w.heap.size ≤ k := by
  go_enter Try.func8, Try.ntmps8
  go_wp2
  go_ret
  refine ⟨w.heap.size, fun k => k = w.heap.size, rfl, ⟨.slice none 0 0, fun k hk => by subst hk; simp, rfl, owI_nil _ _, heap_alloc_new w _, fun g hg => absurd hg (by simp [Value.ownBlock]), by simp⟩, (Below.refl _ w).alloc (Nat.le_refl _) _, fun k hk => Nat.le_of_eq hk.symm⟩

theorem iseen (h : Ixl w s F b) : Calls Try.prog 13 #[.pointer (some ⟨s, 0, none⟩)] w fun e w' => e = .returned (.int .i64 (b.length : Int)) ∧ Below w.heap.size w w' := by
  obtain ⟨v, h⟩ := h
  have hrd := ready_any h
  obtain ⟨s0, s1, s2, -⟩ := h.at
  clear h
  go_enter Try.func13, Try.ntmps13
  go_wp2_with (go_at_call 20; refine hrd.mono ?_; clear hrd; rintro e w1 ⟨rfl, rfl⟩)
  go_ret
  exact ⟨rfl, Below.refl _ _⟩

theorem iknown (h : Ixl w s F b) : Calls Try.prog 12 #[.pointer (some ⟨s, 0, none⟩)] w fun e w' => e = .returned (.int .i64 (nlC b : Int)) ∧ Below w.heap.size w w' := by
  obtain ⟨v, h⟩ := h
  have hrd := ready_any h
  obtain ⟨s0, s1, s2, -⟩ := h.at
  obtain ⟨a, c, rfl, hr⟩ := h.row.row
  rw [ends_len] at s2
  clear h hr
  go_enter Try.func12, Try.ntmps12
  go_wp2_with (go_at_call 20; refine hrd.mono ?_; clear hrd; rintro e w1 ⟨rfl, rfl⟩)
  go_ret
  exact ⟨rfl, Below.refl _ _⟩

theorem ibegin (h : Ixl w s F b) (k : Int) (hk : -9223372036854775808 ≤ k ∧ k ≤ 9223372036854775807) : Calls Try.prog 11 #[.pointer (some ⟨s, 0, none⟩), .int .i64 k] w fun e w' => e = .returned (.tuple #[.int .i64 (bgV b k), .bool (bgB b k)]) ∧ Below w.heap.size w w' := by
  obtain ⟨v, h⟩ := h
  have hrd := ready_any h
  obtain ⟨s0, s1, s2, -⟩ := h.at
  obtain ⟨a, c, rfl, hr⟩ := h.row.row
  have h1 := hr.1
  have h2 := hr.2.1
  unfold maxLen at h2
  rw [ends_len] at s2 h1
  by_cases hk0 : k < 0
  · have HE : Hid (bgV b k = 0 ∧ bgB b k = false) := ⟨by unfold bgV; rw [if_neg (by omega)], by unfold bgB; exact decide_eq_false (by omega)⟩
    clear h hr
    go_enter Try.func11, Try.ntmps11
    go_wp2_with (go_at_call 20; refine hrd.mono ?_; clear hrd; rintro e w1 ⟨rfl, rfl⟩)
    go_ret2
    exact ⟨by rw [HE.out.1, HE.out.2]; rfl, Below.refl _ _⟩
  · by_cases hk1 : (nlC b : Int) < k
    · have HE : Hid (bgV b k = 0 ∧ bgB b k = false) := ⟨by unfold bgV; rw [if_neg (by omega)], by unfold bgB; exact decide_eq_false (by omega)⟩
      clear h hr
      go_enter Try.func11, Try.ntmps11
      go_wp2_with (go_at_call 20; refine hrd.mono ?_; clear hrd; rintro e w1 ⟨rfl, rfl⟩)
      go_ret2
      exact ⟨by rw [HE.out.1, HE.out.2]; rfl, Below.refl _ _⟩
    · by_cases hk2 : k = 0
      · subst hk2
        have HE : Hid (bgV b 0 = 0 ∧ bgB b 0 = true) := ⟨by unfold bgV; rw [if_neg (by omega)], by unfold bgB; exact decide_eq_true (by omega)⟩
        clear h hr
        go_enter Try.func11, Try.ntmps11
        go_wp2_with (go_at_call 20; refine hrd.mono ?_; clear hrd; rintro e w1 ⟨rfl, rfl⟩)
        go_ret2
        exact ⟨by rw [HE.out.1, HE.out.2]; rfl, Below.refl _ _⟩
      · obtain ⟨j, rfl⟩ : ∃ j : Nat, k = ((j + 1 : Nat) : Int) := ⟨k.toNat - 1, by omega⟩
        have hjn : j < nlC b := by omega
        obtain ⟨g, off, rfl, hc⟩ := hr.at2 (by rw [ends_len]; omega)
        have hcj := hc j (by rw [ends_len]; omega)
        obtain ⟨z, hz⟩ : ∃ z, (endsF 0 b).getD j 0 = z := ⟨_, rfl⟩
        rw [hz] at hcj
        have HE : Hid (bgV b ((j + 1 : Nat) : Int) = z ∧ bgB b ((j + 1 : Nat) : Int) = true) := ⟨by unfold bgV; rw [if_pos (by omega), Int.toNat_natCast, Nat.add_sub_cancel]; exact hz, by unfold bgB; exact decide_eq_true (by omega)⟩
        have hlen := h.len
        have hnl := nlC_le b
        clear h hr hc hz
        go_enter Try.func11, Try.ntmps11
        go_wp2_with (go_at_call 20; refine hrd.mono ?_; clear hrd; rintro e w1 ⟨rfl, rfl⟩)
        go_ret2
        exact ⟨by rw [HE.out.1, HE.out.2]; rfl, Below.refl _ _⟩

/-- How many of the places are not above one. -/
theorem upto_nl {b : List Int} {p r : Nat} (hp : p ≤ b.length) (hr : r ≤ (endsF 0 b).length) (h1 : ∀ i, i < r → (endsF 0 b).getD i 0 ≤ (p : Int)) (h2 : ∀ i, r ≤ i → i < (endsF 0 b).length → (p : Int) < (endsF 0 b).getD i 0) :
    r = nlC (b.take p) ∧ (endsF 0 b).take r = endsF 0 (b.take p) ∧ (endsF 0 b).drop r = endsF (p : Int) (b.drop p) := by
  have hs := endsF_upto 0 b p hp
  rw [Int.zero_add] at hs
  have hl := endsF_len 0 (b.take p)
  have hl2 := congrArg List.length hs
  rw [List.length_append] at hl2
  have hr' : r = (endsF 0 (b.take p)).length := by
    rcases Nat.lt_trichotomy r (endsF 0 (b.take p)).length with hlt | heq | hgt
    · have := h2 r (Nat.le_refl _) (by omega)
      rw [hs, app_at, if_pos hlt] at this
      have hm := endsF_in (List.getElem_mem hlt)
      rw [List.getD_eq_getElem?_getD, List.getElem?_eq_getElem hlt, Option.getD_some] at this
      rw [List.length_take] at hm
      omega
    · exact heq
    · have := h1 (endsF 0 (b.take p)).length hgt
      rw [hs, app_at, if_neg (by omega), Nat.sub_self] at this
      have hlt : 0 < (endsF (p : Int) (b.drop p)).length := by omega
      have hm := endsF_in (List.getElem_mem hlt)
      rw [List.getD_eq_getElem?_getD, List.getElem?_eq_getElem hlt, Option.getD_some] at this
      omega
  refine ⟨by rw [hr', hl]; rfl, ?_, ?_⟩
  · rw [hs, hr', List.take_left]
  · rw [hs, hr', List.drop_left]

theorem iline (h : Ixl w s F b) (p : Int) (hp : -9223372036854775808 ≤ p ∧ p ≤ 9223372036854775807) : Calls Try.prog 18 #[.pointer (some ⟨s, 0, none⟩), .int .i64 p] w fun e w' => e = .returned (.tuple #[.int .i64 (liV b p), .bool (liB b p)]) ∧ Below w.heap.size w w' := by
  obtain ⟨v, h⟩ := h
  have hrd := ready_any h
  obtain ⟨s0, s1, s2, -⟩ := h.at
  have hlen := h.len
  obtain ⟨a, c, rfl, hr⟩ := h.row.row
  by_cases hp0 : 0 ≤ p ∧ p ≤ (b.length : Int)
  · have hnl := nlC_le b
    have hu := upTo_any hr (endsF_pair 0 b) (by rw [ends_len]; omega) _ rfl p hp (fun z hz => by have := ends_in (b := b) (Nat.le_refl _) z hz; omega)
    obtain ⟨j, rfl⟩ : ∃ j : Nat, p = (j : Int) := ⟨p.toNat, by omega⟩
    have HE : Hid (∀ r : Nat, r ≤ (endsF 0 b).length → (∀ i, i < r → (endsF 0 b).getD i 0 ≤ (j : Int)) → (∀ i, r ≤ i → i < (endsF 0 b).length → (j : Int) < (endsF 0 b).getD i 0) → (liV b j : Int) = r ∧ liB b j = true) := by
      intro r h1 h2 h3
      obtain ⟨e, -, -⟩ := upto_nl (by omega) h1 h2 h3
      exact ⟨by unfold liV; rw [if_pos hp0, Int.toNat_natCast, e], by unfold liB; exact decide_eq_true hp0⟩
    obtain ⟨n, hn⟩ : ∃ n, b.length = n := ⟨_, rfl⟩
    rw [hn] at s1 hp0 hlen
    clear h hr hn
    go_enter Try.func18, Try.ntmps18
    go_wp2_with (first
      | (go_at_call 20; refine hrd.mono ?_; clear hrd; rintro e w1 ⟨rfl, rfl⟩)
      | (go_at_call 22; refine hu.mono ?_; clear hu; rintro e w1 ⟨r, rfl, hr1, hr2, hr3, rfl⟩; have HF : Hid _ := HE.out r hr1 hr2 hr3; clear hr1 hr2 hr3))
    go_ret2
    exact ⟨by rw [HF.out.1, HF.out.2]; rfl, Below.refl _ _⟩
  · have HE : Hid (liV b p = 0 ∧ liB b p = false) := ⟨by unfold liV; rw [if_neg hp0], by unfold liB; exact decide_eq_false hp0⟩
    obtain ⟨n, hn⟩ : ∃ n, b.length = n := ⟨_, rfl⟩
    rw [hn] at s1 hp0 hlen
    clear h hr hn
    rcases (by omega : p < 0 ∨ (0 ≤ p ∧ (n : Int) < p)) with hq | hq
    all_goals (
      clear hp0
      go_enter Try.func18, Try.ntmps18
      go_wp2_with (go_at_call 20; refine hrd.mono ?_; clear hrd; rintro e w1 ⟨rfl, rfl⟩)
      go_ret2
      exact ⟨by rw [HE.out.1, HE.out.2]; rfl, Below.refl _ _⟩)
end
end Go.Proofs.Ytehomchhflhmbaa.Oct
