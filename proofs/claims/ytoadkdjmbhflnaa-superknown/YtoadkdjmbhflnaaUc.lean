/-
  What may stand in a superblock, number by number.
-/
import Derived.Test.YtoadkdjmbhflnaaUb
namespace Go.Proofs.Ytoadkdjmbhflnaa.Oct
open Go.RowKit

set_option maxHeartbeats 400000 in
theorem within_any (n a b : Int) (w : World) :
    Calls Try.prog 58 #[.int .i64 n, .int .i64 a, .int .i64 b] w fun e w' => e = .returned (.bool (decide (a ≤ n ∧ n ≤ b))) ∧ w = w' := by
  by_cases h1 : a ≤ n
  · by_cases h2 : n ≤ b
    · rw [decide_eq_true (show a ≤ n ∧ n ≤ b from ⟨h1, h2⟩)]
      go_enter Try.func58, Try.ntmps58
      go_wp2
      go_ret
      exact ⟨rfl, rfl⟩
    · rw [decide_eq_false (show ¬ (a ≤ n ∧ n ≤ b) from fun h => h2 h.2)]
      go_enter Try.func58, Try.ntmps58
      go_wp2
      go_ret
      exact ⟨rfl, rfl⟩
  · rw [decide_eq_false (show ¬ (a ≤ n ∧ n ≤ b) from fun h => h1 h.1)]
    go_enter Try.func58, Try.ntmps58
    go_wp2
    go_ret
    exact ⟨rfl, rfl⟩

theorem within_q {P : Program} {f : FuncId} {args : Array Value} {w : World} {v : Value} (h : Calls P f args w fun e w' => e = .returned v ∧ w = w') : Calls P f args w fun e w' => e = .returned v ∧ w' = w :=
  h.mono fun _ _ ⟨a, b⟩ => ⟨a, b.symm⟩

theorem within_v (n a b : Int) (B : Bool) (h : decide (a ≤ n ∧ n ≤ b) = B) (w : World) :
    Calls Try.prog 58 #[.int .i64 n, .int .i64 a, .int .i64 b] w fun e w' => e = .returned (.bool B) ∧ w = w' := by
  subst h
  exact within_any n a b w

set_option maxHeartbeats 400000 in
theorem leads_v (B : Nat) (S : Sp) (n : Int) (V : Bool) (w : World) (h : Sl8 w B S) (hp : 8 ≤ S.p ∧ S.p ≤ 4096) (hV : ldB S.p n = V) :
    Calls Try.prog 59 #[.pointer (some ⟨B, 0, none⟩), .int .i64 n] w fun e w' => e = .returned (.bool V) ∧ w = w' := by
  obtain ⟨_, h1, _⟩ := h
  obtain ⟨P, hP⟩ : ∃ P, S.p = P := ⟨_, rfl⟩
  rw [hP] at h1 hp hV
  clear hP
  by_cases hn : n = 0
  · rw [show ldB P n = true from decide_eq_true (.inl hn)] at hV
    subst hn hV
    go_enter Try.func59, Try.ntmps59
    go_wp2
    go_ret
    exact ⟨rfl, rfl⟩
  · have e : ldB P n = decide (2 ≤ n ∧ n ≤ P - 1) := by unfold ldB; simp [hn]
    rw [e] at hV
    have hnb : (n == 0) = false := by simpa using hn
    have c := within_v n 2 (P - 1) V hV w
    clear e hV
    go_enter Try.func59, Try.ntmps59
    go_wp2_with fail
    refine c.mono ?_
    clear c
    rintro e w1 ⟨rfl, rfl⟩
    go_wp2
    go_ret
    exact ⟨rfl, rfl⟩

set_option maxHeartbeats 400000 in
theorem genFits_any (B : Nat) (S : Sp) (w : World) (h : Sl8 w B S) :
    Calls Try.prog 40 #[.pointer (some ⟨B, 0, none⟩)] w fun e w' => e = .returned (.bool (fitS S 0)) ∧ ∃ n, w' = w.drewN n := by
  obtain ⟨h0, h1, h2, h3, h4, h5, h6, h7⟩ := h
  have hV : decide (1 ≤ S.g ∧ S.g ≤ 1152921504606846976) = fitS S 0 := rfl
  obtain ⟨V, hv⟩ : ∃ V, fitS S 0 = V := ⟨_, rfl⟩
  rw [hv] at hV ⊢
  have c := within_v S.g 1 (1152921504606846976) V hV w
  clear hv hV
  go_enter Try.func40, Try.ntmps40
  go_wp2_with fail
  refine c.mono ?_
  clear c
  rintro e w1 ⟨rfl, rfl⟩
  go_wp2
  go_ret
  exact ⟨rfl, 0, rfl⟩

set_option maxHeartbeats 400000 in
theorem pagesFit_any (B : Nat) (S : Sp) (w : World) (h : Sl8 w B S) :
    Calls Try.prog 41 #[.pointer (some ⟨B, 0, none⟩)] w fun e w' => e = .returned (.bool (fitS S 1)) ∧ ∃ n, w' = w.drewN n := by
  obtain ⟨h0, h1, h2, h3, h4, h5, h6, h7⟩ := h
  have hV : decide (8 ≤ S.p ∧ S.p ≤ 4096) = fitS S 1 := rfl
  obtain ⟨V, hv⟩ : ∃ V, fitS S 1 = V := ⟨_, rfl⟩
  rw [hv] at hV ⊢
  have c := within_v S.p 8 (4096) V hV w
  clear hv hV
  go_enter Try.func41, Try.ntmps41
  go_wp2_with fail
  refine c.mono ?_
  clear c
  rintro e w1 ⟨rfl, rfl⟩
  go_wp2
  go_ret
  exact ⟨rfl, 0, rfl⟩

set_option maxHeartbeats 400000 in
theorem rootFits_any (B : Nat) (S : Sp) (w : World) (h : Sl8 w B S) (hp : 8 ≤ S.p ∧ S.p ≤ 4096) :
    Calls Try.prog 42 #[.pointer (some ⟨B, 0, none⟩)] w fun e w' => e = .returned (.bool (fitS S 2)) ∧ ∃ n, w' = w.drewN n := by
  have hV : ldB S.p S.r = fitS S 2 := rfl
  obtain ⟨V, hv⟩ : ∃ V, fitS S 2 = V := ⟨_, rfl⟩
  rw [hv] at hV ⊢
  have c := leads_v B S S.r V w h hp hV
  clear hv hV hp
  obtain ⟨h0, h1, h2, h3, h4, h5, h6, h7⟩ := h
  go_enter Try.func42, Try.ntmps42
  go_wp2_with fail
  refine c.mono ?_
  clear c
  rintro e w1 ⟨rfl, rfl⟩
  go_wp2
  go_ret
  exact ⟨rfl, 0, rfl⟩

set_option maxHeartbeats 1000000 in
theorem heightFits_any (B : Nat) (S : Sp) (w : World) (h : Sl8 w B S) :
    Calls Try.prog 43 #[.pointer (some ⟨B, 0, none⟩)] w fun e w' => e = .returned (.bool (fitS S 3)) ∧ ∃ n, w' = w.drewN n := by
  obtain ⟨h0, h1, h2, h3, h4, h5, h6, h7⟩ := h
  have hV : fitS S 3 = decide ((0 ≤ S.h ∧ S.h ≤ 32) ∧ (S.h = 0 ↔ S.r = 0)) := rfl
  obtain ⟨x, hx⟩ : ∃ x, S.h = x := ⟨_, rfl⟩
  obtain ⟨r, hr⟩ : ∃ r, S.r = r := ⟨_, rfl⟩
  rw [hx, hr] at hV
  rw [hx] at h3
  rw [hr] at h2
  rw [hV]
  clear hV hx hr
  by_cases hin : 0 ≤ x ∧ x ≤ 32
  · have c := within_v x 0 32 true (decide_eq_true hin)
    by_cases hx0 : x = 0
    · by_cases hr0 : r = 0
      · rw [decide_eq_true (show (0 ≤ x ∧ x ≤ 32) ∧ (x = 0 ↔ r = 0) from ⟨hin, by simp [hx0, hr0]⟩)]
        subst hx0 hr0
        go_enter Try.func43, Try.ntmps43
        go_wp2_with fail
        go_quiet ((go_at_call 58; exact Calls.quiet_of_same (within_q (c _))))
        go_wp2
        go_ret
        exact ⟨rfl, _, rfl⟩
      · rw [decide_eq_false (show ¬ ((0 ≤ x ∧ x ≤ 32) ∧ (x = 0 ↔ r = 0)) from fun h => hr0 (h.2.1 hx0))]
        have hrb : (r == 0) = false := by simpa using hr0
        subst hx0
        go_enter Try.func43, Try.ntmps43
        go_wp2_with fail
        go_quiet ((go_at_call 58; exact Calls.quiet_of_same (within_q (c _))))
        go_wp2
        go_ret
        exact ⟨rfl, _, rfl⟩
    · have hxb : (x == 0) = false := by simpa using hx0
      by_cases hr0 : r = 0
      · rw [decide_eq_false (show ¬ ((0 ≤ x ∧ x ≤ 32) ∧ (x = 0 ↔ r = 0)) from fun h => hx0 (h.2.2 hr0))]
        subst hr0
        go_enter Try.func43, Try.ntmps43
        go_wp2_with fail
        go_quiet ((go_at_call 58; exact Calls.quiet_of_same (within_q (c _))))
        go_wp2
        go_ret
        exact ⟨rfl, _, rfl⟩
      · rw [decide_eq_true (show (0 ≤ x ∧ x ≤ 32) ∧ (x = 0 ↔ r = 0) from ⟨hin, by simp [hx0, hr0]⟩)]
        have hrb : (r == 0) = false := by simpa using hr0
        go_enter Try.func43, Try.ntmps43
        go_wp2_with fail
        go_quiet ((go_at_call 58; exact Calls.quiet_of_same (within_q (c _))))
        go_wp2
        go_ret
        exact ⟨rfl, _, rfl⟩
  · rw [decide_eq_false (show ¬ ((0 ≤ x ∧ x ≤ 32) ∧ (x = 0 ↔ r = 0)) from fun h => hin h.1)]
    have c := within_v x 0 32 false (decide_eq_false hin)
    clear hin
    go_enter Try.func43, Try.ntmps43
    go_wp2_with fail
    go_quiet ((go_at_call 58; exact Calls.quiet_of_same (within_q (c _))))
    go_wp2
    go_ret
    exact ⟨rfl, _, rfl⟩

set_option maxHeartbeats 1000000 in
theorem bytesFit_any (B : Nat) (S : Sp) (w : World) (h : Sl8 w B S) :
    Calls Try.prog 44 #[.pointer (some ⟨B, 0, none⟩)] w fun e w' => e = .returned (.bool (fitS S 4)) ∧ ∃ n, w' = w.drewN n := by
  obtain ⟨h0, h1, h2, h3, h4, h5, h6, h7⟩ := h
  have hV : fitS S 4 = decide ((0 ≤ S.b ∧ S.b ≤ 1048576) ∧ (S.b = 0 ↔ S.r = 0)) := rfl
  obtain ⟨x, hx⟩ : ∃ x, S.b = x := ⟨_, rfl⟩
  obtain ⟨r, hr⟩ : ∃ r, S.r = r := ⟨_, rfl⟩
  rw [hx, hr] at hV
  rw [hx] at h4
  rw [hr] at h2
  rw [hV]
  clear hV hx hr
  by_cases hin : 0 ≤ x ∧ x ≤ 1048576
  · have c := within_v x 0 1048576 true (decide_eq_true hin)
    by_cases hx0 : x = 0
    · by_cases hr0 : r = 0
      · rw [decide_eq_true (show (0 ≤ x ∧ x ≤ 1048576) ∧ (x = 0 ↔ r = 0) from ⟨hin, by simp [hx0, hr0]⟩)]
        subst hx0 hr0
        go_enter Try.func44, Try.ntmps44
        go_wp2_with fail
        go_quiet ((go_at_call 58; exact Calls.quiet_of_same (within_q (c _))))
        go_wp2
        go_ret
        exact ⟨rfl, _, rfl⟩
      · rw [decide_eq_false (show ¬ ((0 ≤ x ∧ x ≤ 1048576) ∧ (x = 0 ↔ r = 0)) from fun h => hr0 (h.2.1 hx0))]
        have hrb : (r == 0) = false := by simpa using hr0
        subst hx0
        go_enter Try.func44, Try.ntmps44
        go_wp2_with fail
        go_quiet ((go_at_call 58; exact Calls.quiet_of_same (within_q (c _))))
        go_wp2
        go_ret
        exact ⟨rfl, _, rfl⟩
    · have hxb : (x == 0) = false := by simpa using hx0
      by_cases hr0 : r = 0
      · rw [decide_eq_false (show ¬ ((0 ≤ x ∧ x ≤ 1048576) ∧ (x = 0 ↔ r = 0)) from fun h => hx0 (h.2.2 hr0))]
        subst hr0
        go_enter Try.func44, Try.ntmps44
        go_wp2_with fail
        go_quiet ((go_at_call 58; exact Calls.quiet_of_same (within_q (c _))))
        go_wp2
        go_ret
        exact ⟨rfl, _, rfl⟩
      · rw [decide_eq_true (show (0 ≤ x ∧ x ≤ 1048576) ∧ (x = 0 ↔ r = 0) from ⟨hin, by simp [hx0, hr0]⟩)]
        have hrb : (r == 0) = false := by simpa using hr0
        go_enter Try.func44, Try.ntmps44
        go_wp2_with fail
        go_quiet ((go_at_call 58; exact Calls.quiet_of_same (within_q (c _))))
        go_wp2
        go_ret
        exact ⟨rfl, _, rfl⟩
  · rw [decide_eq_false (show ¬ ((0 ≤ x ∧ x ≤ 1048576) ∧ (x = 0 ↔ r = 0)) from fun h => hin h.1)]
    have c := within_v x 0 1048576 false (decide_eq_false hin)
    clear hin
    go_enter Try.func44, Try.ntmps44
    go_wp2_with fail
    go_quiet ((go_at_call 58; exact Calls.quiet_of_same (within_q (c _))))
    go_wp2
    go_ret
    exact ⟨rfl, _, rfl⟩

set_option maxHeartbeats 400000 in
theorem linesFit_any (B : Nat) (S : Sp) (w : World) (h : Sl8 w B S) :
    Calls Try.prog 45 #[.pointer (some ⟨B, 0, none⟩)] w fun e w' => e = .returned (.bool (fitS S 5)) ∧ ∃ n, w' = w.drewN n := by
  obtain ⟨h0, h1, h2, h3, h4, h5, h6, h7⟩ := h
  have hV : decide (0 ≤ S.l ∧ S.l ≤ S.b) = fitS S 5 := rfl
  obtain ⟨V, hv⟩ : ∃ V, fitS S 5 = V := ⟨_, rfl⟩
  rw [hv] at hV ⊢
  have c := within_v S.l 0 (S.b) V hV
  clear hv hV
  go_enter Try.func45, Try.ntmps45
  go_wp2_with fail
  go_quiet ((go_at_call 58; exact Calls.quiet_of_same (within_q (c _))))
  go_wp2
  go_ret
  exact ⟨rfl, _, rfl⟩

set_option maxHeartbeats 400000 in
theorem stateFits_any (B : Nat) (S : Sp) (w : World) (h : Sl8 w B S) (hp : 8 ≤ S.p ∧ S.p ≤ 4096) :
    Calls Try.prog 46 #[.pointer (some ⟨B, 0, none⟩)] w fun e w' => e = .returned (.bool (fitS S 6)) ∧ ∃ n, w' = w.drewN n := by
  have hV : ldB S.p S.s = fitS S 6 := rfl
  obtain ⟨V, hv⟩ : ∃ V, fitS S 6 = V := ⟨_, rfl⟩
  rw [hv] at hV ⊢
  have c := leads_v B S S.s V w h hp hV
  clear hv hV hp
  obtain ⟨h0, h1, h2, h3, h4, h5, h6, h7⟩ := h
  go_enter Try.func46, Try.ntmps46
  go_wp2_with fail
  refine c.mono ?_
  clear c
  rintro e w1 ⟨rfl, rfl⟩
  go_wp2
  go_ret
  exact ⟨rfl, 0, rfl⟩

set_option maxHeartbeats 400000 in
theorem freeFits_any (B : Nat) (S : Sp) (w : World) (h : Sl8 w B S) (hp : 8 ≤ S.p ∧ S.p ≤ 4096) :
    Calls Try.prog 47 #[.pointer (some ⟨B, 0, none⟩)] w fun e w' => e = .returned (.bool (fitS S 7)) ∧ ∃ n, w' = w.drewN n := by
  have hV : ldB S.p S.f = fitS S 7 := rfl
  obtain ⟨V, hv⟩ : ∃ V, fitS S 7 = V := ⟨_, rfl⟩
  rw [hv] at hV ⊢
  have c := leads_v B S S.f V w h hp hV
  clear hv hV hp
  obtain ⟨h0, h1, h2, h3, h4, h5, h6, h7⟩ := h
  go_enter Try.func47, Try.ntmps47
  go_wp2_with fail
  refine c.mono ?_
  clear c
  rintro e w1 ⟨rfl, rfl⟩
  go_wp2
  go_ret
  exact ⟨rfl, 0, rfl⟩

/-- Each field is asked. -/
theorem fit_any (B : Nat) (S : Sp) (w : World) (h : Sl8 w B S) {k : Nat} (hk : k < 8) (hp : 1 < k → 8 ≤ S.p ∧ S.p ≤ 4096) :
    Calls Try.prog (ff k) #[.pointer (some ⟨B, 0, none⟩)] w fun e w' => e = .returned (.bool (fitS S k)) ∧ ∃ n, w' = w.drewN n := by
  rcases eight hk with rfl | rfl | rfl | rfl | rfl | rfl | rfl | rfl
  · exact genFits_any B S w h
  · exact pagesFit_any B S w h
  · exact rootFits_any B S w h (hp (by omega))
  · exact heightFits_any B S w h
  · exact bytesFit_any B S w h
  · exact linesFit_any B S w h
  · exact stateFits_any B S w h (hp (by omega))
  · exact freeFits_any B S w h (hp (by omega))
end Go.Proofs.Ytoadkdjmbhflnaa.Oct
