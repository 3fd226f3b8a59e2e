/-
  The landed space: state, Used, Own, Give.
-/
import Derived.Test.YtdmahobldghojaaLd
namespace Go.Proofs.Ytdmahobldghojaa.Oct.Sps
open Go.RowKit

section
variable {w w' : World} {s a ca b cb : Nat} {F : Nat → Prop} {S : List Int}

theorem state_any (h : SpX w s a ca b cb F S) (p : Int) : Calls Try.prog 39 #[.pointer (some ⟨s, 0, none⟩), .int .i64 p] w fun e w' => e = .returned (.int .i64 (stN S p)) ∧ Below w.heap.size w w' := by
  by_cases hp : inB S p = true
  · obtain ⟨h0, h1⟩ : 0 ≤ p ∧ p < (S.length : Int) := by unfold inB at hp; simpa using hp
    obtain ⟨k, rfl⟩ := Int.eq_ofNat_of_zero_le h0
    have hk : k < S.length := by omega
    have h3 := h.ok.at k
    rw [stN_in hk]
    have hc : S.getD k 0 = 0 ∨ S.getD k 0 = 1 ∨ S.getD k 0 = 2 ∨ S.getD k 0 = 3 := by omega
    rcases hc with hc | hc | hc | hc
    · rw [hc]; exact state_0 h k hk hc
    · rw [hc]; exact state_1 h k hk hc
    · rw [hc]; exact state_2 h k hk hc
    · rw [hc]; exact state_3 h k hk hc
  · have hp' : inB S p = false := by simpa using hp
    have e : stN S p = 4 := by unfold stN; rw [if_neg hp]
    rw [e]
    exact state_no h p hp'

theorem stN_cases (h : SpOk S) (p : Int) : (inB S p = true ∧ stN S p = S.getD p.toNat 0 ∧ (stN S p = 0 ∨ stN S p = 1 ∨ stN S p = 2 ∨ stN S p = 3)) ∨ (inB S p = false ∧ stN S p = 4) := by
  by_cases hp : inB S p = true
  · have e : stN S p = S.getD p.toNat 0 := by unfold stN; rw [if_pos hp]
    refine .inl ⟨hp, e, ?_⟩
    have := h.at p.toNat
    omega
  · exact .inr ⟨by simpa using hp, by unfold stN; rw [if_neg hp]⟩

theorem isB_in (p z : Int) : isB S p z = (inB S p && (S.getD p.toNat 0 == z)) := by unfold isB inB; rw [Bool.and_assoc]

theorem used_any (h : Spa w s F S) (p : Int) : Calls Try.prog 26 #[.pointer (some ⟨s, 0, none⟩), .int .i64 p] w fun e w' => e = .returned (.bool (inB S p && !isB S p 0)) ∧ Below w.heap.size w w' := by
  obtain ⟨a, ca, b, cb, h⟩ := h
  have hs := state_any h p
  rw [isB_in]
  rcases stN_cases h.ok p with ⟨e1, e2, e3⟩ | ⟨e1, e2⟩
  · rw [e1, ← e2]
    rcases e3 with e3 | e3 | e3 | e3
    · rw [e3] at hs ⊢
      have HE : Hid ((true && !(true && ((0 : Int) == 0))) = false) := rfl
      obtain ⟨r, hr⟩ : ∃ r, (true && !(true && ((0 : Int) == 0))) = r := ⟨_, rfl⟩
      rw [hr] at HE ⊢
      clear h e1 e2 e3 hr
      go_enter Try.func26, Try.ntmps26
      go_wp2_with (go_at_call 39; refine hs.mono ?_; rintro e w' ⟨rfl, hb⟩)
      go_ret
      exact ⟨by rw [HE.out]; rfl, hb⟩
    all_goals
      rw [e3] at hs ⊢
      clear h e1 e2 e3
      go_enter Try.func26, Try.ntmps26
      go_wp2_with (go_at_call 39; refine hs.mono ?_; rintro e w' ⟨rfl, hb⟩)
      go_ret
      exact ⟨rfl, hb⟩
  · rw [e2] at hs
    rw [e1]
    clear h e1 e2
    go_enter Try.func26, Try.ntmps26
    go_wp2_with (go_at_call 39; refine hs.mono ?_; rintro e w' ⟨rfl, hb⟩)
    go_ret
    exact ⟨rfl, hb⟩

theorem own_any (h : Spa w s F S) (p : Int) : Calls Try.prog 24 #[.pointer (some ⟨s, 0, none⟩), .int .i64 p] w fun e w' => e = .returned (.bool (isB S p 2)) ∧ Below w.heap.size w w' := by
  obtain ⟨a, ca, b, cb, h⟩ := h
  have hs := state_any h p
  rw [isB_in]
  rcases stN_cases h.ok p with ⟨e1, e2, e3⟩ | ⟨e1, e2⟩
  · rw [e1, ← e2]
    rcases e3 with e3 | e3 | e3 | e3
    all_goals
      rw [e3] at hs ⊢
      clear h e1 e2 e3
      go_enter Try.func24, Try.ntmps24
      go_wp2_with (go_at_call 39; refine hs.mono ?_; rintro e w' ⟨rfl, hb⟩)
      go_ret
      exact ⟨rfl, hb⟩
  · rw [e2] at hs
    rw [e1]
    clear h e1 e2
    go_enter Try.func24, Try.ntmps24
    go_wp2_with (go_at_call 39; refine hs.mono ?_; rintro e w' ⟨rfl, hb⟩)
    go_ret
    exact ⟨rfl, hb⟩

/-- A page is given up. -/
theorem SpX.drop (h : SpX w s a ca b cb F S) {k : Nat} (hk : k < S.length) {z : Int} (hz : 0 ≤ z ∧ z ≤ 3) (hu : usB z = false) (hl : laB z = laB (S.getD k 0)) (hn : Own 0 w' (.slice (some ⟨b, 0, none⟩) ((S.length + 7) / 8) cb) ((bitL S).set (k / 8) (bits .andNot .u8 ((bitL S).getD (k / 8) 0) (2 ^ (k % 8) % 256)))) (hc : Ch w.heap.size (fun x => x = b) w w') : SpX w' s a ca b cb F (S.set k z) :=
  h.next' hc.size (fun g hg hb => hc.block g (h.lt g hg) hb) (by rw [List.length_set]) (h.ok.set k hz.1 hz.2) (lasL_set hk hl) (by rw [bitL_drop hk hu]; exact hn)
theorem SpX.take (h : SpX w s a ca b cb F S) {k : Nat} (hk : k < S.length) (h0 : S.getD k 0 = 0) (hn : Own 0 w' (.slice (some ⟨b, 0, none⟩) ((S.length + 7) / 8) cb) ((bitL S).set (k / 8) (bits .or .u8 ((bitL S).getD (k / 8) 0) (2 ^ (k % 8) % 256)))) (hc : Ch w.heap.size (fun x => x = b) w w') : SpX w' s a ca b cb F (S.set k 2) :=
  h.next' hc.size (fun g hg hb => hc.block g (h.lt g hg) hb) (by rw [List.length_set]) (h.ok.set k (by omega) (by omega)) (lasL_set hk (by rw [h0]; rfl)) (by rw [bitL_take hk]; exact hn)
theorem step_of {x : Nat} (hx : F x) (hc : Ch w.heap.size (fun k => k = x) w w') : Step F F w w' := Step.of (hc.mono (Nat.le_refl _) (fun _ _ e => e ▸ hx))
end
end Go.Proofs.Ytdmahobldghojaa.Oct.Sps
