/-
  The landed index's helpers: how many of a row that rises are not above a number; the part ahead; bytes 10 put behind; a row put behind, moved.
-/
import Derived.Test.YtehomchhflhmbaaXng
import Derived.Test.YtehomchhflhmbaaXna
namespace Go.Proofs.Ytehomchhflhmbaa.Oct
open Go.RowKit

theorem RowI.at2 {w : World} {a : Option Addr} {cap : Nat} {zs : List Int} (h : RowI w a cap zs) (h0 : 0 < zs.length) : ∃ b off, a = some ⟨b, off, none⟩ ∧ ∀ i, i < zs.length → w.cell? ⟨b, off + i, none⟩ = some (.int .i64 (zs.getD i 0)) := by
  rcases h.2.2 with h | h
  · rw [h] at h0; exact absurd h0 (by simp)
  · exact h

set_option maxHeartbeats 1000000 in
theorem upTo_any {w : World} {a : Option Addr} {cap : Nat} {L : List Int} (h : RowI w a cap L) (hp : L.Pairwise (· < ·)) (hl : L.length ≤ 1000000) (n : Nat) (hn : L.length = n) (t : Int) (_ht : -9223372036854775808 ≤ t ∧ t ≤ 9223372036854775807) (hv : ∀ z ∈ L, -9223372036854775808 ≤ z ∧ z ≤ 9223372036854775807) :
    Calls Try.prog 22 #[.slice a n cap, .int .i64 t] w fun e w' => ∃ r : Nat, e = .returned (.int .i64 r) ∧ r ≤ n ∧ (∀ i, i < r → L.getD i 0 ≤ t) ∧ (∀ i, r ≤ i → i < n → t < L.getD i 0) ∧ w' = w := by
  have hmono : ∀ i j, i < j → j < n → L.getD i 0 < L.getD j 0 := by
    intro i j hij hj
    rw [List.getD_eq_getElem?_getD, List.getElem?_eq_getElem (by omega), List.getD_eq_getElem?_getD, List.getElem?_eq_getElem (by omega)]
    exact List.pairwise_iff_getElem.1 hp i j (by omega) (by omega) hij
  have hwf : ∀ i, i < n → -9223372036854775808 ≤ L.getD i 0 ∧ L.getD i 0 ≤ 9223372036854775807 := by
    intro i hi
    rw [List.getD_eq_getElem?_getD, List.getElem?_eq_getElem (by omega)]
    exact hv _ (List.getElem_mem (by omega))
  have HA : Hid (∀ i, i < n → ∃ b off, a = some ⟨b, off, none⟩ ∧ w.cell? ⟨b, off + i, none⟩ = some (.int .i64 (L.getD i 0))) := by
    intro i hi
    obtain ⟨b, off, e, hc⟩ := h.at2 (by omega)
    exact ⟨b, off, e, hc i (by omega)⟩
  have HM : Hid _ := hmono
  have HW : Hid _ := hwf
  have h1 := h.1
  have h2 := h.2.1
  unfold maxLen at h2
  rw [hn] at h1 hl
  clear h hp hmono hwf hv
  go_enter Try.func22, Try.ntmps22
  go_wp2
  go_loopw [5, 6] (fun lo hi wr => ∃ i j : Nat, i ≤ j ∧ j ≤ n ∧ lo = .int .i64 i ∧ hi = .int .i64 j ∧ (∀ k, k < i → L.getD k 0 ≤ t) ∧ (∀ k, j ≤ k → k < n → t < L.getD k 0) ∧ wr = w) (fun lo hi _ => (intOf hi).toNat - (intOf lo).toNat)
  case atStart => exact ⟨0, n, Nat.zero_le _, Nat.le_refl _, rfl, rfl, fun k hk => absurd hk (Nat.not_lt_zero _), fun k h1 h2 => by omega, rfl⟩
  case round =>
    obtain ⟨i, j, hij, hj, rfl, rfl, hlo, hhi, rfl⟩ := hrel
    have HL : Hid _ := hlo
    have HH : Hid _ := hhi
    clear hlo hhi
    by_cases hlt : i < j
    · obtain ⟨m, hm⟩ : ∃ m, (i + j) / 2 = m := ⟨_, rfl⟩
      have hm1 : i ≤ m := by omega
      have hm2 : m < j := by omega
      obtain ⟨b, off, rfl, hc⟩ := HA.out m (by omega)
      have hwm := HW.out m (by omega)
      obtain ⟨v, hv⟩ : ∃ v, L.getD m 0 = v := ⟨_, rfl⟩
      rw [hv] at hc hwm
      have hmm : ((i : Int) + j) / 2 = (m : Int) := by omega
      have HV : Hid (L.getD m 0 = v) := hv
      clear hv
      by_cases hvt : v ≤ t
      · go_wp2
        go_roundw
        case rel => exact ⟨m + 1, j, by omega, hj, by go_num, rfl, fun k hk => by
            have hV := HV.out
            by_cases e : k = m
            · rw [e, hV]; exact hvt
            · have := HM.out k m (by omega) (by omega)
              omega, HH.out, trivial⟩
        case measure => simp [intOf]; omega
      · go_wp2
        go_roundw
        case rel => exact ⟨i, m, by omega, by omega, rfl, by go_num, HL.out, fun k h1 h2 => by
            have hV := HV.out
            by_cases e : k = m
            · rw [e, hV]; omega
            · have := HM.out m k (by omega) (by omega)
              omega, trivial⟩
        case measure => simp [intOf]; omega
    · have e : i = j := by omega
      subst e
      go_wp2
      go_ret
      exact ⟨i, rfl, hj, HL.out, HH.out, rfl⟩
end Go.Proofs.Ytehomchhflhmbaa.Oct
