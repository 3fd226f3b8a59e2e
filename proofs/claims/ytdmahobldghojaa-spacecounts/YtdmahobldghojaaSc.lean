/-
  The document's space: Is, Count, Alloc, Give, Commit, Doubt, Abort.
-/
import Derived.Test.YtdmahobldghojaaSb
namespace Go.Proofs.Ytdmahobldghojaa.Oct
open Go.RowKit

section
variable {w w' : World} {m g c : Nat} {F : Nat → Prop} {S : List Int}

set_option maxHeartbeats 1000000 in
theorem rIs_any (h : RS w m F S) (p z : Int) : Calls Try.prog 25 #[.pointer (some ⟨m, 0, none⟩), .int .i64 p, .int .i64 z] w fun e w' => e = .returned (.bool (isB S p z)) ∧ w = w' := by
  obtain ⟨g, c, h⟩ := h
  obtain ⟨c0, l1, l2, hz, hc⟩ := h.at
  unfold maxLen at l2
  have hhi := h.ok.hi
  by_cases h0 : 0 ≤ p
  · by_cases h1 : p < (S.length : Int)
    · obtain ⟨i, rfl⟩ := Int.eq_ofNat_of_zero_le h0
      have c1 := hc i (by omega)
      have HE : Hid (isB S i z = (S.getD i 0 == z)) := by
        show _ = _
        unfold isB
        rw [decide_eq_true h0, decide_eq_true h1]
        rfl
      obtain ⟨v, hv⟩ : ∃ v, S.getD i 0 = v := ⟨_, rfl⟩
      rw [hv] at c1 HE
      clear hc hz hv h
      go_enter Try.func25, Try.ntmps25
      go_wp2
      go_ret
      exact ⟨by rw [HE.out]; rfl, rfl⟩
    · have HE : Hid (isB S p z = false) := by show _ = _; unfold isB; rw [decide_eq_false h1]; simp
      clear hc hz h
      go_enter Try.func25, Try.ntmps25
      go_wp2
      go_ret
      exact ⟨by rw [HE.out]; rfl, rfl⟩
  · have HE : Hid (isB S p z = false) := by show _ = _; unfold isB; rw [decide_eq_false h0]; simp
    clear hc hz h
    go_enter Try.func25, Try.ntmps25
    go_wp2
    go_ret
    exact ⟨by rw [HE.out]; rfl, rfl⟩

theorem cnt_step (S : List Int) (z : Int) (k : Nat) (h : k < S.length) : (S.take (k + 1)).count z = (S.take k).count z + if S.getD k 0 = z then 1 else 0 := by
  rw [take_snoc S k h, List.count_append, List.count_singleton]
  congr 1
  by_cases e : S.getD k 0 = z
  · rw [if_pos e, e]; simp
  · rw [if_neg e, if_neg (by simpa using e)]

set_option maxHeartbeats 1000000 in
theorem rCount_any (h : RS w m F S) (z : Int) : Calls Try.prog 23 #[.pointer (some ⟨m, 0, none⟩), .int .i64 z] w fun e w' => e = .returned (.int .i64 (S.count z)) ∧ w = w' := by
  obtain ⟨g, c, h⟩ := h
  obtain ⟨c0, l1, l2, hz, hc⟩ := h.at
  unfold maxLen at l2
  have hhi := h.ok.hi
  have HC : Hid (∀ i, i < S.length → w.cell? ⟨g, i, none⟩ = some (.int .i64 (S.getD i 0))) := hc
  clear hc hz h
  go_enter Try.func23, Try.ntmps23
  go_wp2
  go_loopw [5, 6] (fun n i wr => ∃ k : Nat, k ≤ S.length ∧ i = .int .i64 k ∧ n = .int .i64 ((S.take k).count z) ∧ wr = w) (fun _ i _ => S.length - (intOf i).toNat)
  case atStart => exact ⟨0, Nat.zero_le _, rfl, by simp, rfl⟩
  case round =>
    obtain ⟨k, hk, rfl, rfl, rfl⟩ := hrel
    by_cases hlt : k < S.length
    · have c1 := HC.out k hlt
      have hst := cnt_step S z k hlt
      have hle := List.count_le_length (a := z) (l := S.take k)
      rw [List.length_take] at hle
      obtain ⟨v, hv⟩ : ∃ v, S.getD k 0 = v := ⟨_, rfl⟩
      obtain ⟨n, hn⟩ : ∃ n, (S.take k).count z = n := ⟨_, rfl⟩
      rw [hv] at c1 hst
      rw [hn] at hle hst ⊢
      have hle' : n ≤ 4096 := by omega
      by_cases e : v = z
      · rw [if_pos e] at hst
        have HS : Hid _ := hst
        clear hst hv hn hle
        go_wp2
        go_roundw
        case rel => exact ⟨k + 1, by omega, by go_num, by rw [HS.out]; go_num, trivial⟩
        case measure => simp [intOf]; omega
      · rw [if_neg e] at hst
        have HS : Hid _ := hst
        have e' : (v == z) = false := by simpa using e
        clear hst hv hn hle
        go_wp2
        go_roundw
        case rel => exact ⟨k + 1, by omega, by go_num, by rw [HS.out]; rfl, trivial⟩
        case measure => simp [intOf]; omega
    · have hk' : k = S.length := by omega
      subst hk'
      rw [List.take_length]
      go_wp2
      go_ret
      exact ⟨rfl, rfl⟩
end
end Go.Proofs.Ytdmahobldghojaa.Oct
