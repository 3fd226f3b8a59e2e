/-
  A try: the small callees of octet.Get.
-/
import Derived.Test.YtbamdcjhcmogbaaQm
namespace Go.Proofs.Ytbamdcjhcmogbaa.Oct
open Go.RowKit

def insB (len : Nat) (at' n : Int) : Bool := decide (1 ≤ n ∧ n ≤ 8 ∧ 0 ≤ at' ∧ at' ≤ (len : Int) - n)

set_option maxHeartbeats 400000 in
theorem inside_any (a : Option Addr) (len cap : Nat) (at' n : Int) (w : World) (hm : len ≤ maxLen) :
    Calls Try.prog 40 #[.slice a len cap, .int .i64 at', .int .i64 n] w fun e w' => e = .returned (.bool (insB len at' n)) ∧ w = w' := by
  unfold maxLen at hm
  by_cases h1 : 1 ≤ n
  · by_cases h2 : n ≤ 8
    · by_cases h3 : 0 ≤ at'
      · by_cases h4 : at' ≤ (len : Int) - n
        · have hv : insB len at' n = true := by simp [insB]; omega
          rw [hv]; clear hv
          go_enter Try.func40, Try.ntmps40
          go_wp2
          go_ret
          exact ⟨rfl, rfl⟩
        · have hv : insB len at' n = false := by simp [insB]; omega
          rw [hv]; clear hv
          go_enter Try.func40, Try.ntmps40
          go_wp2
          go_ret
          exact ⟨rfl, rfl⟩
      · have hv : insB len at' n = false := by simp [insB]; omega
        rw [hv]; clear hv
        go_enter Try.func40, Try.ntmps40
        go_wp2
        go_ret
        exact ⟨rfl, rfl⟩
    · have hv : insB len at' n = false := by simp [insB]; omega
      rw [hv]; clear hv
      go_enter Try.func40, Try.ntmps40
      go_wp2
      go_ret
      exact ⟨rfl, rfl⟩
  · have hv : insB len at' n = false := by simp [insB]; omega
    rw [hv]; clear hv
    go_enter Try.func40, Try.ntmps40
    go_wp2
    go_ret
    exact ⟨rfl, rfl⟩

set_option maxHeartbeats 400000 in
theorem lies_any (a : Option Addr) (len cap : Nat) (at' n : Int) (w : World) (hm : len ≤ maxLen) :
    Calls Try.prog 46 #[.slice a len cap, .int .i64 at', .int .i64 n] w fun e w' => e = .returned (.bool (insB len at' n)) ∧ w = w' := by
  unfold maxLen at hm
  by_cases h1 : 1 ≤ n
  · by_cases h2 : n ≤ 8
    · by_cases h3 : 0 ≤ at'
      · by_cases h4 : at' ≤ (len : Int) - n
        · have hv : insB len at' n = true := by simp [insB]; omega
          rw [hv]; clear hv
          go_enter Try.func46, Try.ntmps46
          go_wp2
          go_ret
          exact ⟨rfl, rfl⟩
        · have hv : insB len at' n = false := by simp [insB]; omega
          rw [hv]; clear hv
          go_enter Try.func46, Try.ntmps46
          go_wp2
          go_ret
          exact ⟨rfl, rfl⟩
      · have hv : insB len at' n = false := by simp [insB]; omega
        rw [hv]; clear hv
        go_enter Try.func46, Try.ntmps46
        go_wp2
        go_ret
        exact ⟨rfl, rfl⟩
    · have hv : insB len at' n = false := by simp [insB]; omega
      rw [hv]; clear hv
      go_enter Try.func46, Try.ntmps46
      go_wp2
      go_ret
      exact ⟨rfl, rfl⟩
  · have hv : insB len at' n = false := by simp [insB]; omega
    rw [hv]; clear hv
    go_enter Try.func46, Try.ntmps46
    go_wp2
    go_ret
    exact ⟨rfl, rfl⟩

set_option maxHeartbeats 400000 in
theorem rnext_any (p : Addr) (b off len cap : Nat) (z : Int) (w : World) (hc : w.cell? p = some (.slice (some ⟨b, off, none⟩) (len + 1) cap)) (hf : w.frozen? p = false) (hz : w.cell? ⟨b, off, none⟩ = some (.int .u8 z)) (hl : len + 1 ≤ cap) (_hm : cap ≤ maxLen) :
    Calls Try.prog 48 #[.pointer (some p)] w fun e w' => e = .returned (.int .u8 z) ∧ ∃ o', (1 ≤ len → o' = off + 1) ∧ w' = w.setCell p (.slice (some ⟨b, o', none⟩) len (cap - 1)) := by
  go_enter Try.func48, Try.ntmps48
  go_wp2
  · go_ret
    exact ⟨rfl, off, by omega, by simp⟩
  · go_ret
    exact ⟨rfl, off + 1, fun _ => rfl, rfl⟩

set_option maxHeartbeats 400000 in
theorem refget_yes (b off cap : Nat) (zs : List Int) (p n : Nat) (w : World) (hz : ∀ i, i < zs.length → w.cell? ⟨b, off + i, none⟩ = some (.int .u8 (zs.getD i 0))) (hb : Bys zs) (hm : zs.length ≤ maxLen) (h1 : 1 ≤ n) (h8 : n ≤ 8) (hp : p + n ≤ zs.length) :
    Calls Try.prog 43 #[.slice (some ⟨b, off, none⟩) zs.length cap, .int .i64 p, .int .i64 n] w fun e w' => e = .returned (.tuple #[.int .i64 (capI (num zs p n)), .bool (capB (num zs p n))]) ∧ w = w' := by
  have hi : insB zs.length p n = true := by simp [insB]; omega
  have hm' := hm
  unfold maxLen at hm'
  go_enter Try.func43, Try.ntmps43
  go_wp2_with (go_at_call 46; refine (lies_any _ _ _ _ _ _ hm).mono ?_; rintro e w' ⟨rfl, rfl⟩)
  go_loop [8, 9] (fun x i => ∃ k : Nat, k ≤ n ∧ i = .int .i64 k ∧ x = .int .u64 (num zs p k)) (fun _ i => n - (intOf i).toNat)
  case atStart => exact ⟨0, Nat.zero_le _, rfl, rfl⟩
  case round =>
    obtain ⟨k, hk, rfl, rfl⟩ := hrel
    by_cases hlt : k < n
    · have hc := hz (p + k) (by omega)
      have hb7 := num_bd7 hb p k (by omega)
      have HB : Hid (Bys zs) := hb
      go_wp2
      go_round
      case rel => exact ⟨k + 1, by omega, by go_num, congrArg _ (num_or HB.out p k (by omega))⟩
      case measure => simp [intOf]; omega
    · have hkn : n = k := by omega
      subst hkn
      have hb0 := (num_bd hb p n).1
      by_cases hle : num zs p n ≤ 4611686018427387904
      · have hle' := hle
        go_wp2
        go_ret2
        exact ⟨by rw [(cap_yes hle').1, (cap_yes hle').2]; rfl, rfl⟩
      · have hle' := Int.not_le.1 hle
        go_wp2
        go_ret2
        exact ⟨by rw [(cap_no hle').1, (cap_no hle').2]; rfl, rfl⟩

set_option maxHeartbeats 400000 in
theorem refget_no (a : Option Addr) (len cap : Nat) (p n : Int) (w : World) (hm : len ≤ maxLen) (hi : insB len p n = false) :
    Calls Try.prog 43 #[.slice a len cap, .int .i64 p, .int .i64 n] w fun e w' => e = .returned (.tuple #[.int .i64 0, .bool false]) ∧ w = w' := by
  go_enter Try.func43, Try.ntmps43
  go_wp2_with (go_at_call 46; refine (lies_any _ _ _ _ _ _ hm).mono ?_; rintro e w' ⟨rfl, rfl⟩)
  go_ret2
  exact ⟨rfl, rfl⟩

set_option maxHeartbeats 400000 in
theorem get_no (a : Option Addr) (len cap : Nat) (p n : Int) (w : World) (hm : len ≤ maxLen) (hi : insB len p n = false) :
    Calls Try.prog 23 #[.slice a len cap, .int .i64 p, .int .i64 n] w fun e w' => e = .returned (.tuple #[.int .i64 0, .bool false]) ∧ w = w' := by
  go_enter Try.func23, Try.ntmps23
  go_wp2_with (go_at_call 40; refine (inside_any _ _ _ _ _ _ hm).mono ?_; rintro e w' ⟨rfl, rfl⟩)
  go_ret2
  exact ⟨rfl, rfl⟩

set_option maxHeartbeats 400000 in
theorem reader_any (v : Value) (a : Option Addr) (len cap : Nat) (w : World) (hv : v = .slice a len cap) :
    Calls Try.prog 41 #[v] w fun e w' => e = .returned (.func (Fn.func 48) #[] #[.pointer (some ⟨w.heap.size, 0, none⟩)]) ∧ w' = w.alloc (.cells #[.slice a len cap] 27) := by
  subst hv
  go_enter Try.func41, Try.ntmps41
  go_wp2
  go_ret
  exact ⟨rfl, rfl⟩

set_option maxHeartbeats 1000000 in
theorem get_yes (b off cap : Nat) (zs : List Int) (p n : Nat) (w : World) (hz : ∀ i, i < zs.length → w.cell? ⟨b, off + i, none⟩ = some (.int .u8 (zs.getD i 0))) (hb : Bys zs) (hl : zs.length ≤ cap) (hcap : cap ≤ maxLen) (h1 : 1 ≤ n) (h8 : n ≤ 8) (hp : p + n ≤ zs.length) :
    Calls Try.prog 23 #[.slice (some ⟨b, off, none⟩) zs.length cap, .int .i64 p, .int .i64 n] w fun e w' => e = .returned (.tuple #[.int .i64 (capI (num zs p n)), .bool (capB (num zs p n))]) ∧ Below w.heap.size w w' := by
  have hi : insB zs.length p n = true := by simp [insB]; omega
  have hm : zs.length ≤ maxLen := by omega
  have hm' := hcap
  unfold maxLen at hm'
  have hbl : b < w.heap.size := block_lt_of_cell (hz 0 (by omega))
  go_enter Try.func23, Try.ntmps23
  go_wp2_with (first | (go_at_call 40; refine (inside_any _ _ _ _ _ _ hm).mono ?_; rintro e w' ⟨rfl, rfl⟩) | (go_at_call 41; refine (reader_any _ _ _ _ _ rfl).mono ?_; rintro e w' ⟨rfl, rfl⟩))
  go_loopw [9, 23] (fun x i wr => ∃ k o c : Nat, k ≤ n ∧ i = .int .i64 k ∧ x = .int .u64 (num zs p k) ∧ wr.cell? ⟨w.heap.size, 0, none⟩ = some (.slice (some ⟨b, o, none⟩) (n - k) c) ∧ (k < n → o = off + (p + k) ∧ n - k ≤ c ∧ c ≤ cap) ∧ wr.frozen? ⟨w.heap.size, 0, none⟩ = false ∧ Below w.heap.size w wr) (fun _ i _ => n - (intOf i).toNat)
  case atStart => exact ⟨0, off + p, cap - p, Nat.zero_le _, rfl, rfl, by simp, fun _ => ⟨by omega, by omega, by omega⟩, by simp, (Below.refl _ _).alloc (Nat.le_refl _) _⟩
  case round =>
    obtain ⟨k, o, c, hk, rfl, rfl, hbox, hkn, hfr, hbel⟩ := hrel
    by_cases hlt : k < n
    · obtain ⟨ho, hc1, hc2⟩ := hkn hlt
      subst ho
      obtain ⟨m, hnm⟩ : ∃ m, n - k = m + 1 := ⟨n - k - 1, by omega⟩
      rw [hnm] at hbox hc1
      have HNM : Hid (n - k = m + 1) := hnm
      clear hnm
      have hc := (hbel.cell (p := ⟨b, off + (p + k), none⟩) hbl).trans (hz (p + k) (by omega))
      have hb7 := num_bd7 hb p k (by omega)
      have HB : Hid (Bys zs) := hb
      have hmx : c ≤ maxLen := by omega
      go_wp2_with (go_at_call 48; refine (rnext_any _ _ _ _ _ _ _ hbox hfr hc hc1 hmx).mono ?_; rintro e w1 ⟨rfl, o', ho', rfl⟩)
      go_roundw
      case rel => exact ⟨k + 1, o', c - 1, by omega, by go_num, congrArg _ (num_or HB.out p k (by omega)), (by rw [World.cell?_setCell_same _ _ _ hbox]; have := HNM.out; rw [show n - (k + 1) = m from by omega]), (fun h => ⟨by rw [ho' (by have := HNM.out; omega)]; omega, by have := HNM.out; omega, by omega⟩), (by rw [World.frozen?_setCell]; exact hfr), hbel.setCell (Nat.le_refl _) _⟩
      case measure => simp [intOf]; omega
    · have hkn : n = k := by omega
      subst hkn
      have hb0 := (num_bd hb p n).1
      by_cases hle : num zs p n ≤ 4611686018427387904
      · have hle' := hle
        go_wp2
        go_ret2
        exact ⟨by rw [(cap_yes hle').1, (cap_yes hle').2]; rfl, hbel⟩
      · have hle' := Int.not_le.1 hle
        go_wp2
        go_ret2
        exact ⟨by rw [(cap_no hle').1, (cap_no hle').2]; rfl, hbel⟩
end Go.Proofs.Ytbamdcjhcmogbaa.Oct
