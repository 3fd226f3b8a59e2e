/-
  The statements' Room: are deeds few and small?
-/
import Derived.Test.YtfbjjdjgijdlaaaGt
namespace Go.Proofs.Ytfbjjdjgijdlaaa.Oct
open Go.RowKit

def roomB (l : List Dd) (n : Int) : Bool := decide ((l.length : Int) ≤ n) && l.all fun d => decide (d.b.length ≤ 200)

theorem room_take {l : List Dd} {k : Nat} (hk : k < l.length) (h : (l.take k).all (fun d => decide (d.b.length ≤ 200)) = true) (hd : (l.getD k noDeed).b.length ≤ 200) : (l.take (k + 1)).all (fun d => decide (d.b.length ≤ 200)) = true := by
  rw [List.take_add_one, List.all_append, h]
  rw [List.getD_eq_getElem?_getD, List.getElem?_eq_getElem hk] at hd
  simp [List.getElem?_eq_getElem hk]
  exact hd

set_option maxHeartbeats 1000000 in
theorem room_any (a : Option Addr) (cap : Nat) (l : List Dd) (n : Int) (w : World) (h : IsDeeds w a cap l) :
    Calls Try.prog 20 #[.slice a l.length cap, .int .i64 n] w fun e w' => e = .returned (.bool (roomB l n)) ∧ w = w' := by
  obtain ⟨h1, h2, h3⟩ := h
  unfold maxLen at h2
  have ht : ∀ (b : Bool), b = roomB l n → Ending.returned (.bool b) = .returned (.bool (roomB l n)) := fun b h => by rw [h]
  by_cases hn : n < l.length
  · go_enter Try.func20, Try.ntmps20
    go_wp2
    go_ret
    exact ⟨ht _ (by simp [roomB]; omega), rfl⟩
  · have HA : Hid (l = [] ∨ ∃ b off, a = some ⟨b, off, none⟩ ∧ ∀ i, i < l.length → DeedAt w b (off + i * 5) (l.getD i noDeed)) := h3
    clear h3
    go_enter Try.func20, Try.ntmps20
    go_wp2
    go_loop [5] (fun i => ∃ k : Nat, k ≤ l.length ∧ i = .int .i64 k ∧ Hid ((l.take k).all (fun d => decide (d.b.length ≤ 200)) = true)) (fun i => l.length - (intOf i).toNat)
    case atStart => exact ⟨0, Nat.zero_le _, rfl, rfl⟩
    case round =>
      obtain ⟨k, hk, rfl, hall⟩ := hrel
      by_cases hlt : k < l.length
      · obtain ⟨b, off, rfl, hd⟩ := HA.out.resolve_left (by intro e; rw [e] at hlt; exact absurd hlt (by simp))
        have hdk := hd k hlt
        have c4 := hdk.c4
        have hbm : (l.getD k noDeed).b.length ≤ maxLen := Nat.le_trans hdk.row.2.1 hdk.row.2.2.1
        unfold maxLen at hbm
        clear hdk hd
        by_cases h200 : (l.getD k noDeed).b.length ≤ 200
        · have R : Hid ((l.take (k + 1)).all (fun d => decide (d.b.length ≤ 200)) = true) := room_take hlt hall.out h200
          obtain ⟨bl, hbl⟩ : ∃ bl, (l.getD k noDeed).b.length = bl := ⟨_, rfl⟩
          rw [hbl] at c4 h200 hbm
          clear hbl hall
          go_wp2
          go_round
          case rel => exact ⟨k + 1, by omega, by go_num, R⟩
          case measure => simp [intOf]; omega
        · have hf : roomB l n = false := by
            unfold roomB
            have : l.all (fun d => decide (d.b.length ≤ 200)) = false := by
              rw [List.all_eq_false]
              exact ⟨l[k], List.getElem_mem _, by rw [List.getD_eq_getElem?_getD, List.getElem?_eq_getElem hlt] at h200; simpa using h200⟩
            rw [this, Bool.and_false]
          obtain ⟨bl, hbl⟩ : ∃ bl, (l.getD k noDeed).b.length = bl := ⟨_, rfl⟩
          rw [hbl] at c4 h200 hbm
          have h200' : 200 < bl := by omega
          clear hbl hall h200
          go_wp2
          go_ret
          exact ⟨ht _ hf.symm, rfl⟩
      · have hf : roomB l n = true := by
          unfold roomB
          rw [Bool.and_eq_true]
          refine ⟨by simp; omega, ?_⟩
          have := hall.out
          rwa [List.take_of_length_le (by omega)] at this
        go_wp2
        go_ret
        exact ⟨ht _ hf.symm, rfl⟩

theorem room_len {l : List Dd} {n : Int} (h : roomB l n = true) : (l.length : Int) ≤ n := by
  unfold roomB at h
  rw [Bool.and_eq_true] at h
  exact of_decide_eq_true h.1
end Go.Proofs.Ytfbjjdjgijdlaaa.Oct
