/-
  The document's space: Alloc, Give, Commit, Doubt, Abort.
-/
import Derived.Test.YtdmahobldghojaaSc
namespace Go.Proofs.Ytdmahobldghojaa.Oct
open Go.RowKit

section
variable {w w' : World} {m g c : Nat} {F : Nat → Prop} {S : List Int}

set_option maxHeartbeats 1000000 in
theorem rAlloc_any (h : RS w m F S) : Calls Try.prog 15 #[.pointer (some ⟨m, 0, none⟩)] w fun e w' => e = .returned (.tuple #[.int .i64 (alN S), .int .i64 (alE S)]) ∧ RS w' m F (alL S) ∧ Ch w.heap.size F w w' := by
  obtain ⟨g, c, h⟩ := h
  obtain ⟨c0, l1, l2, hz, hc⟩ := h.at
  unfold maxLen at l2
  have hhi := h.ok.hi
  have HC : Hid (∀ i, i < S.length → w.cell? ⟨g, i, none⟩ = some (.int .i64 (S.getD i 0))) := hc
  have HZ : Hid (∀ i, w.frozen? ⟨g, i, none⟩ = false) := hz
  have HR : Hid (RSx w m g c F S) := h
  have hne := h.ne
  clear hc hz h
  go_enter Try.func15, Try.ntmps15
  go_wp2
  go_loopw [4] (fun i wr => ∃ k : Nat, k ≤ frI S ∧ i = .int .i64 k ∧ wr = w) (fun i _ => S.length - (intOf i).toNat)
  case atStart => exact ⟨0, Nat.zero_le _, rfl, rfl⟩
  case round =>
    obtain ⟨k, hk, rfl, rfl⟩ := hrel
    have hfl := frI_le S
    by_cases hlt : k < S.length
    · have c1 := HC.out k hlt
      by_cases e : k = frI S
      · have HE : Hid (alN S = k ∧ alE S = 0 ∧ alL S = S.set k 2) := by
          show _ ∧ _ ∧ _
          unfold alN alE alL
          rw [← e, if_pos hlt, if_pos hlt, if_pos hlt]
          exact ⟨rfl, rfl, rfl⟩
        rw [e, frI_at (by omega), ← e] at c1
        have z1 := HZ.out k
        clear hk hfl e
        go_wp2
        go_ret2
        rw [HE.out.1, HE.out.2.1, HE.out.2.2]
        exact ⟨rfl, ⟨_, _, HR.out.set k hlt (by omega) (by omega)⟩, Ch.set HR.out.fg _ _⟩
      · have hlk : k < frI S := by omega
        have hnz := frI_not hlk
        have HK : Hid (k < frI S) := hlk
        obtain ⟨v, hv⟩ : ∃ v, S.getD k 0 = v := ⟨_, rfl⟩
        rw [hv] at c1 hnz
        have e' : (v == 0) = false := by simpa using hnz
        clear hk hfl e hlk hv
        go_wp2
        go_roundw
        case rel => exact ⟨k + 1, by have := HK.out; omega, by go_num, trivial⟩
        case measure => simp [intOf]; omega
    · have HE : Hid (alN S = 0 ∧ alE S = 6 ∧ alL S = S) := by
        show _ ∧ _ ∧ _
        unfold alN alE alL
        rw [if_neg (by omega), if_neg (by omega), if_neg (by omega)]
        exact ⟨rfl, rfl, rfl⟩
      clear hk hfl
      go_wp2
      go_ret2
      rw [HE.out.1, HE.out.2.1, HE.out.2.2]
      exact ⟨rfl, ⟨_, _, HR.out⟩, Ch.refl _ _ _⟩

set_option maxHeartbeats 1000000 in
theorem rGive_any (h : RS w m F S) (p : Int) : Calls Try.prog 16 #[.pointer (some ⟨m, 0, none⟩), .int .i64 p] w fun e w' => e = .returned (.int .i64 (gvE S p)) ∧ RS w' m F (gvL S p) ∧ Ch w.heap.size F w w' := by
  obtain ⟨g, c, h⟩ := h
  obtain ⟨c0, l1, l2, hz, hc⟩ := h.at
  unfold maxLen at l2
  have hhi := h.ok.hi
  have HR : Hid (RSx w m g c F S) := h
  have hne := h.ne
  by_cases hb : gvB S p = true
  · have hb' : 2 ≤ p ∧ p < (S.length : Int) := by unfold gvB at hb; simpa using hb
    obtain ⟨b1, b2⟩ := hb'
    obtain ⟨i, rfl⟩ := Int.eq_ofNat_of_zero_le (show 0 ≤ p by omega)
    have hi : i < S.length := by omega
    have c1 := hc i hi
    have z1 := hz i
    obtain ⟨v, hv⟩ : ∃ v, S.getD i 0 = v := ⟨_, rfl⟩
    rw [hv] at c1
    by_cases e2 : v = 2
    · have HE : Hid (gvE S i = 0 ∧ gvL S i = S.set i 0) := by
        show _ ∧ _
        unfold gvE gvL
        rw [if_pos hb, if_pos hb, Int.toNat_natCast, hv, if_pos e2, if_pos e2]
        exact ⟨rfl, rfl⟩
      subst e2
      clear hc hz h hb hv
      go_enter Try.func16, Try.ntmps16
      go_wp2
      go_ret
      rw [HE.out.1, HE.out.2]
      exact ⟨rfl, ⟨_, _, HR.out.set i hi (by omega) (by omega)⟩, Ch.set HR.out.fg _ _⟩
    · have e2' : (v == 2) = false := by simpa using e2
      by_cases e1 : v = 1
      · have HE : Hid (gvE S i = 0 ∧ gvL S i = S.set i 3) := by
          show _ ∧ _
          unfold gvE gvL
          rw [if_pos hb, if_pos hb, Int.toNat_natCast, hv, if_neg e2, if_neg e2, if_pos e1, if_pos e1]
          exact ⟨rfl, rfl⟩
        subst e1
        clear hc hz h hb hv e2 e2'
        go_enter Try.func16, Try.ntmps16
        go_wp2
        go_ret
        rw [HE.out.1, HE.out.2]
        exact ⟨rfl, ⟨_, _, HR.out.set i hi (by omega) (by omega)⟩, Ch.set HR.out.fg _ _⟩
      · have e1' : (v == 1) = false := by simpa using e1
        have HE : Hid (gvE S i = 10 ∧ gvL S i = S) := by
          show _ ∧ _
          unfold gvE gvL
          rw [if_pos hb, if_pos hb, Int.toNat_natCast, hv, if_neg e2, if_neg e2, if_neg e1, if_neg e1]
          exact ⟨rfl, rfl⟩
        clear hc hz h hb hv e2 e1
        go_enter Try.func16, Try.ntmps16
        go_wp2
        go_ret
        rw [HE.out.1, HE.out.2]
        exact ⟨rfl, ⟨_, _, HR.out⟩, Ch.refl _ _ _⟩
  · have HE : Hid (gvE S p = 1 ∧ gvL S p = S) := by
      show _ ∧ _
      unfold gvE gvL
      rw [if_neg hb, if_neg hb]
      exact ⟨rfl, rfl⟩
    by_cases b1 : p < 2
    · clear hc hz h hb
      go_enter Try.func16, Try.ntmps16
      go_wp2
      go_ret
      rw [HE.out.1, HE.out.2]
      exact ⟨rfl, ⟨_, _, HR.out⟩, Ch.refl _ _ _⟩
    · have b2 : (S.length : Int) ≤ p := by
        unfold gvB at hb
        simp at hb
        omega
      clear hc hz h hb
      go_enter Try.func16, Try.ntmps16
      go_wp2
      go_ret
      rw [HE.out.1, HE.out.2]
      exact ⟨rfl, ⟨_, _, HR.out⟩, Ch.refl _ _ _⟩

/-- So far as k are turned. -/
def trK (o p : Int) (S : List Int) (k : Nat) : List Int := trS o p (S.take k) ++ S.drop k
theorem trK_len (o p : Int) (S : List Int) (k : Nat) : (trK o p S k).length = S.length := by
  simp [trK, trS_len]; omega
theorem trK_at {o p : Int} {S : List Int} {k : Nat} (h : k < S.length) : (trK o p S k).getD k 0 = S.getD k 0 := by
  unfold trK
  rw [app_at, if_neg (by rw [trS_len, List.length_take]; omega), trS_len, List.length_take, Nat.min_eq_left (by omega), Nat.sub_self, List.getD_eq_getElem?_getD, List.getElem?_drop, Nat.add_zero, ← List.getD_eq_getElem?_getD]
theorem trK_succ {o p : Int} {S : List Int} {k : Nat} (h : k < S.length) : trK o p S (k + 1) = (trK o p S k).set k (trZ o p (S.getD k 0)) := by
  unfold trK
  have hl : (trS o p (S.take k)).length = k := by rw [trS_len, List.length_take]; omega
  rw [List.set_append_right _ _ (by omega), hl, Nat.sub_self, List.drop_eq_getElem_cons h, List.set_cons_zero, take_snoc S k h]
  simp [trS]
theorem set_same {S : List Int} {k : Nat} (h : k < S.length) : S.set k (S.getD k 0) = S := by
  rw [List.getD_eq_getElem?_getD, List.getElem?_eq_getElem h, Option.getD_some, List.set_getElem_self]

set_option maxHeartbeats 1000000 in
theorem rturn_any (h : RS w m F S) (o p : Int) (ho : 0 ≤ o ∧ o ≤ 3) (hp : 0 ≤ p ∧ p ≤ 3) : Calls Try.prog 43 #[.pointer (some ⟨m, 0, none⟩), .int .i64 o, .int .i64 p] w fun e w' => e = .returned (.tuple #[]) ∧ RS w' m F (trS o p S) ∧ Ch w.heap.size F w w' := by
  obtain ⟨g, c, h⟩ := h
  have hhi := h.ok.hi
  have HO : Hid (SpOk S) := h.ok
  have HR : Hid (RSx w m g c F S) := h
  have hne := h.ne
  clear h
  go_enter Try.func43, Try.ntmps43
  go_wp2
  go_loopw [6] (fun i wr => ∃ k : Nat, k ≤ S.length ∧ i = .int .i64 k ∧ Hid (RSx wr m g c F (trK o p S k) ∧ Ch w.heap.size F w wr)) (fun i _ => S.length - (intOf i).toNat)
  case atStart => exact ⟨0, Nat.zero_le _, rfl, (by show _ ∧ _; exact ⟨HR.out, Ch.refl _ _ _⟩)⟩
  case round =>
    clear HR
    obtain ⟨k, hk, rfl, HI⟩ := hrel
    obtain ⟨c0, l1, l2, hz, hc⟩ := HI.out.1.at
    rw [trK_len] at c0 l1
    unfold maxLen at l2
    by_cases hlt : k < S.length
    · have c1 := hc k (by rw [trK_len]; exact hlt)
      rw [trK_at hlt] at c1
      have z1 := hz k
      have hv3 := HO.out.at k
      have HT : Hid (trK o p S (k + 1) = (trK o p S k).set k (trZ o p (S.getD k 0))) := trK_succ hlt
      have HK : Hid (k < (trK o p S k).length ∧ (trK o p S k).getD k 0 = S.getD k 0) := ⟨by rw [trK_len]; exact hlt, trK_at hlt⟩
      obtain ⟨v, hv⟩ : ∃ v, S.getD k 0 = v := ⟨_, rfl⟩
      rw [hv] at c1 hv3 HT HK
      clear hc hz hv
      by_cases e2 : v = 2
      · subst e2
        have HZ : Hid (trZ o p 2 = o) := by show _ = _; unfold trZ; rw [if_pos rfl]
        go_wp2
        go_roundw
        case rel => exact ⟨k + 1, by omega, by go_num, (by show _ ∧ _; rw [HT.out, HZ.out]; exact ⟨HI.out.1.set k HK.out.1 ho.1 ho.2, HI.out.2.setCell (.inr HI.out.1.fg) _⟩)⟩
        case measure => simp [intOf]; omega
      · have e2' : (v == 2) = false := by simpa using e2
        by_cases e3 : v = 3
        · subst e3
          have HZ : Hid (trZ o p 3 = p) := by show _ = _; unfold trZ; rw [if_neg (by omega), if_pos rfl]
          clear e2 e2'
          go_wp2
          go_roundw
          case rel => exact ⟨k + 1, by omega, by go_num, (by show _ ∧ _; rw [HT.out, HZ.out]; exact ⟨HI.out.1.set k HK.out.1 hp.1 hp.2, HI.out.2.setCell (.inr HI.out.1.fg) _⟩)⟩
          case measure => simp [intOf]; omega
        · have e3' : (v == 3) = false := by simpa using e3
          have HZ : Hid (trZ o p v = v) := by show _ = _; unfold trZ; rw [if_neg e2, if_neg e3]
          clear e2 e3
          go_wp2
          go_roundw
          case rel => exact ⟨k + 1, by omega, by go_num, (by show _ ∧ _; rw [HT.out, HZ.out, ← HK.out.2, set_same HK.out.1]; exact HI.out)⟩
          case measure => simp [intOf]; omega
    · have hk' : k = S.length := by omega
      subst hk'
      have HT : Hid (trK o p S S.length = trS o p S) := by show _ = _; simp [trK]
      clear hc hz
      go_wp2
      go_end0
      rw [← HT.out]
      exact ⟨rfl, ⟨_, _, HI.out.1⟩, HI.out.2⟩

theorem rCommit_any (h : RS w m F S) : Calls Try.prog 17 #[.pointer (some ⟨m, 0, none⟩)] w fun e w' => e = .returned (.tuple #[]) ∧ RS w' m F (trS 1 0 S) ∧ Ch w.heap.size F w w' := by
  have ht := rturn_any h 1 0 (by omega) (by omega)
  clear h
  go_enter Try.func17, Try.ntmps17
  go_wp2_with (go_at_call 43; refine ht.mono ?_; rintro e w1 ⟨rfl, h1, h2⟩)
  go_end0
  exact ⟨rfl, h1, h2⟩
theorem rDoubt_any (h : RS w m F S) : Calls Try.prog 19 #[.pointer (some ⟨m, 0, none⟩)] w fun e w' => e = .returned (.tuple #[]) ∧ RS w' m F (trS 1 3 S) ∧ Ch w.heap.size F w w' := by
  have ht := rturn_any h 1 3 (by omega) (by omega)
  clear h
  go_enter Try.func19, Try.ntmps19
  go_wp2_with (go_at_call 43; refine ht.mono ?_; rintro e w1 ⟨rfl, h1, h2⟩)
  go_end0
  exact ⟨rfl, h1, h2⟩
theorem rAbort_any (h : RS w m F S) : Calls Try.prog 21 #[.pointer (some ⟨m, 0, none⟩)] w fun e w' => e = .returned (.tuple #[]) ∧ RS w' m F (trS 0 1 S) ∧ Ch w.heap.size F w w' := by
  have ht := rturn_any h 0 1 (by omega) (by omega)
  clear h
  go_enter Try.func21, Try.ntmps21
  go_wp2_with (go_at_call 43; refine ht.mono ?_; rintro e w1 ⟨rfl, h1, h2⟩)
  go_end0
  exact ⟨rfl, h1, h2⟩
end
end Go.Proofs.Ytdmahobldghojaa.Oct
