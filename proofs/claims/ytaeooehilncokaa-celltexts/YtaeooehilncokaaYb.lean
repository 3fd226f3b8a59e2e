/-
  cell's small functions: noughts, within, the sorts of pages and of cells, takes.
-/
import Derived.Test.YtaeooehilncokaaYa
import Derived.Test.YtaeooehilncokaaZo
namespace Go.Proofs.Ytaeooehilncokaa.Oct
open Go.RowKit

theorem nouB_iff {zs : List Int} : nouB zs = true ↔ ∀ j, j < zs.length → zs.getD j 0 = 0 := by
  unfold nouB
  rw [List.all_eq_true]
  constructor
  · intro h j hj
    have := h (zs.getD j 0) (by rw [List.getD_eq_getElem?_getD, List.getElem?_eq_getElem hj]; exact List.getElem_mem hj)
    simpa using this
  · intro h z hz
    obtain ⟨j, hj, rfl⟩ := List.getElem_of_mem hz
    have := h j hj
    rw [List.getD_eq_getElem?_getD, List.getElem?_eq_getElem hj] at this
    simpa using this

theorem nouB_no {zs : List Int} {j : Nat} (hj : j < zs.length) (h : zs.getD j 0 ≠ 0) : nouB zs = false := by
  cases hn : nouB zs
  · rfl
  · exact absurd (nouB_iff.1 hn j hj) h

set_option maxHeartbeats 1000000 in
theorem noughts_v (b off cap n : Nat) (zs : List Int) (w : World) (h : Row w (some ⟨b, off, none⟩) cap zs) (hn : zs.length = n) (V : Bool) (hV : nouB zs = V) :
    Calls Try.prog 30 #[.slice (some ⟨b, off, none⟩) n cap] w fun e w' => e = .returned (.bool V) ∧ w = w' := by
  subst hn
  have hm := Nat.le_trans h.2.1 h.2.2.1
  unfold maxLen at hm
  have HCE : Hid (∀ i, i < zs.length → w.cell? ⟨b, off + i, none⟩ = some (.int .u8 (zs.getD i 0))) := h.cells
  have HBY : Hid (Bys zs) := h.1
  have HV : Hid (nouB zs = V) := hV
  clear hV h
  go_enter Try.func30, Try.ntmps30
  go_wp2_with fail
  go_loop [7] (fun i => ∃ k : Nat, k ≤ zs.length ∧ i = .int .i64 k ∧ Hid (∀ j, j < k → zs.getD j 0 = 0)) (fun i => zs.length - (intOf i).toNat)
  case atStart => exact ⟨0, Nat.zero_le _, rfl, fun j hj => by omega⟩
  case round =>
    obtain ⟨k, hk, rfl, HK⟩ := hrel
    by_cases hlt : k < zs.length
    · have hc := HCE.out k hlt
      obtain ⟨x, hx⟩ : ∃ x, zs.getD k 0 = x := ⟨_, rfl⟩
      rw [hx] at hc
      by_cases h0 : x = 0
      · subst h0
        have HX : Hid (zs.getD k 0 = 0) := hx
        clear hx
        go_wp2
        go_round
        case rel => exact ⟨k + 1, by omega, by go_num, fun j hj => by
          by_cases e : j = k
          · rw [e]; exact HX.out
          · exact HK.out j (by omega)⟩
        case measure => simp [intOf]; omega
      · have e : V = false := by rw [← HV.out]; exact nouB_no hlt (by rw [hx]; exact h0)
        have h0b : (x != 0) = true := by simpa using h0
        subst e
        clear hx h0
        go_wp2
        go_ret
        exact ⟨rfl, rfl⟩
    · have e : V = true := by rw [← HV.out]; exact nouB_iff.2 fun j hj => HK.out j (by omega)
      subst e
      go_wp2
      go_ret
      exact ⟨rfl, rfl⟩

set_option maxHeartbeats 1000000 in
theorem rnoughts_v (b off cap n m : Nat) (zs : List Int) (w : World) (h : Row w (some ⟨b, off, none⟩) cap zs) (hn : zs.length = n) (hm0 : m ≤ n) (V : Bool) (hV : nouB (zs.drop m) = V) :
    Calls Try.prog 41 #[.slice (some ⟨b, off, none⟩) n cap, .int .i64 m] w fun e w' => e = .returned (.bool V) ∧ w = w' := by
  subst hn
  have hm := Nat.le_trans h.2.1 h.2.2.1
  unfold maxLen at hm
  have HCE : Hid (∀ i, i < zs.length → w.cell? ⟨b, off + i, none⟩ = some (.int .u8 (zs.getD i 0))) := h.cells
  have HN : Hid (∀ i, i < zs.length → m ≤ i → zs.getD i 0 ≠ 0 → V = false) := fun i hi hmi hx => by
    rw [← hV]
    exact nouB_no (j := i - m) (by rw [List.length_drop]; omega) (by rw [List.getD_eq_getElem?_getD, List.getElem?_drop, ← List.getD_eq_getElem?_getD, show m + (i - m) = i by omega]; exact hx)
  have HY : Hid ((∀ i, i < zs.length → m ≤ i → zs.getD i 0 = 0) → V = true) := fun hh => by
    rw [← hV]
    refine nouB_iff.2 fun j hj => ?_
    rw [List.length_drop] at hj
    rw [List.getD_eq_getElem?_getD, List.getElem?_drop, ← List.getD_eq_getElem?_getD]
    exact hh _ (by omega) (by omega)
  clear hV h
  go_enter Try.func41, Try.ntmps41
  go_wp2_with fail
  go_loop [5] (fun i => ∃ k : Nat, m ≤ k ∧ k ≤ zs.length ∧ i = .int .i64 k ∧ Hid (∀ j, j < k → m ≤ j → zs.getD j 0 = 0)) (fun i => zs.length - (intOf i).toNat)
  case atStart => exact ⟨m, Nat.le_refl _, hm0, rfl, fun j hj h => by omega⟩
  case round =>
    obtain ⟨k, hmk, hk, rfl, HK⟩ := hrel
    by_cases hlt : k < zs.length
    · have hc := HCE.out k hlt
      obtain ⟨x, hx⟩ : ∃ x, zs.getD k 0 = x := ⟨_, rfl⟩
      rw [hx] at hc
      by_cases h0 : x = 0
      · subst h0
        have HX : Hid (zs.getD k 0 = 0) := hx
        clear hx
        go_wp2
        go_round
        case rel => exact ⟨k + 1, by omega, by omega, by go_num, fun j hj h => by
          by_cases e : j = k
          · rw [e]; exact HX.out
          · exact HK.out j (by omega) h⟩
        case measure => simp [intOf]; omega
      · have e : V = false := HN.out k hlt hmk (by rw [hx]; exact h0)
        have h0b : (x != 0) = true := by simpa using h0
        subst e
        clear hx h0
        go_wp2
        go_ret
        exact ⟨rfl, rfl⟩
    · have e : V = true := HY.out fun j hj h => HK.out j (by omega) h
      subst e
      go_wp2
      go_ret
      exact ⟨rfl, rfl⟩

theorem noughts_e (a : Option Addr) (cap : Nat) (w : World) :
    Calls Try.prog 30 #[.slice a 0 cap] w fun e w' => e = .returned (.bool true) ∧ w = w' := by
  go_enter Try.func30, Try.ntmps30
  go_wp2_with fail
  go_loop [7] (fun i => i = .int .i64 0) (fun i => 0)
  case atStart => rfl
  case round =>
    subst hrel
    go_wp2
    go_ret
    exact ⟨rfl, rfl⟩

/-- Of any row. -/
theorem noughts_w (a : Option Addr) (cap n : Nat) (zs : List Int) (w : World) (h : Row w a cap zs) (hn : zs.length = n) (V : Bool) (hV : nouB zs = V) :
    Calls Try.prog 30 #[.slice a n cap] w fun e w' => e = .returned (.bool V) ∧ w = w' := by
  by_cases h0 : zs.length = 0
  · have hz : zs = [] := List.eq_nil_of_length_eq_zero h0
    subst hz
    have hv : V = true := hV.symm
    subst hv
    have hn0 : n = 0 := hn.symm
    subst hn0
    exact noughts_e a cap w
  · obtain ⟨b, off, rfl⟩ := h.some' (by omega)
    exact noughts_v b off cap n zs w h hn V hV

set_option maxHeartbeats 400000 in
theorem within_any (n a b : Int) (w : World) :
    Calls Try.prog 58 #[.int .i64 n, .int .i64 a, .int .i64 b] w fun e w' => e = .returned (.bool (decide (a ≤ n ∧ n ≤ b))) ∧ w = w' := by
  by_cases h1 : a ≤ n
  · by_cases h2 : n ≤ b
    · rw [decide_eq_true (show a ≤ n ∧ n ≤ b from ⟨h1, h2⟩)]
      go_enter Try.func58, Try.ntmps58
      go_wp2
      go_ret
      exact ⟨rfl, rfl⟩
    · rw [decide_eq_false (show ¬ (a ≤ n ∧ n ≤ b) from fun h => h2 h.2)]
      go_enter Try.func58, Try.ntmps58
      go_wp2
      go_ret
      exact ⟨rfl, rfl⟩
  · rw [decide_eq_false (show ¬ (a ≤ n ∧ n ≤ b) from fun h => h1 h.1)]
    go_enter Try.func58, Try.ntmps58
    go_wp2
    go_ret
    exact ⟨rfl, rfl⟩

theorem within_v (n a b : Int) (B : Bool) (h : decide (a ≤ n ∧ n ≤ b) = B) (w : World) :
    Calls Try.prog 58 #[.int .i64 n, .int .i64 a, .int .i64 b] w fun e w' => e = .returned (.bool B) ∧ w = w' := by
  subst h
  exact within_any n a b w

set_option maxHeartbeats 400000 in
theorem takes_v (s : St) (lv ct : Int) (w : World) (V : Bool) (hV : takesB s lv ct = V) :
    Calls Try.prog 43 #[.agg #[.int .i64 s.kind, .int .i64 s.lo, .int .i64 s.hi, .int .i64 s.most], .int .i64 lv, .int .i64 ct] w fun e w' => e = .returned (.bool V) ∧ Below w.heap.size w w' := by
  obtain ⟨k, lo, hi, most⟩ := s
  dsimp only
  have c1 := fun w => within_v lv lo hi _ rfl w
  have c2 := fun w => within_v ct 1 most _ rfl w
  unfold takesB at hV
  dsimp only at hV
  cases h1 : decide (lo ≤ lv ∧ lv ≤ hi)
  · rw [h1] at c1 hV
    have e : V = false := hV.symm
    subst e
    clear hV c2 h1
    go_enter Try.func43, Try.ntmps43
    go_wp2_with fail
    refine (c1 _).mono ?_
    rintro e w1 ⟨rfl, rfl⟩
    go_wp2
    go_ret
    exact ⟨rfl, (Below.refl _ _).alloc (Nat.le_refl _) _⟩
  · rw [h1] at c1 hV
    rw [Bool.true_and] at hV
    rw [hV] at c2
    clear hV h1
    go_enter Try.func43, Try.ntmps43
    go_wp2_with fail
    refine (c1 _).mono ?_
    rintro e w1 ⟨rfl, rfl⟩
    go_wp2_with fail
    refine (c2 _).mono ?_
    rintro e w1 ⟨rfl, rfl⟩
    go_wp2
    go_ret
    exact ⟨rfl, (Below.refl _ _).alloc (Nat.le_refl _) _⟩
end Go.Proofs.Ytaeooehilncokaa.Oct
