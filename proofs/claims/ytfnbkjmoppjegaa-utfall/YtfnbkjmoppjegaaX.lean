/-
  The walks of Next (the document's), head, Last, Begins and Count.
-/
import Derived.Test.YtfnbkjmoppjegaaW
namespace Go.Proofs.Ytfnbkjmoppjegaa.Oct
open Go.RowKit

set_option maxHeartbeats 400000 in
theorem refnext_any (a : Option Addr) (cap : Nat) (zs : List Int) (p : Int) (w : World) (h : Row w a cap zs) :
    Calls Try.prog 14 #[.slice a zs.length cap, .int .i64 p] w fun e w' => e = .returned (.tuple #[.int .i64 (nxI zs p), .int .i64 (nxN zs p)]) ∧ Below w.heap.size w w' := by
  have hm := h.2.2.1
  have hlc := h.2.1
  unfold maxLen at hm
  by_cases h0 : p < 0
  · have e1 : nxI zs p = 0 := if_neg (by omega)
    have e2 : nxN zs p = 0 := if_neg (by omega)
    rw [e1, e2]
    clear h e1 e2
    go_enter Try.func14, Try.ntmps14
    go_wp2
    go_ret2
    exact ⟨rfl, Below.refl _ _⟩
  · by_cases h1 : (zs.length : Int) ≤ p
    · have e1 : nxI zs p = 0 := if_neg (by omega)
      have e2 : nxN zs p = 0 := if_neg (by omega)
      rw [e1, e2]
      clear h e1 e2
      go_enter Try.func14, Try.ntmps14
      go_wp2
      go_ret2
      exact ⟨rfl, Below.refl _ _⟩
    · obtain ⟨q, rfl⟩ := Int.eq_ofNat_of_zero_le (show 0 ≤ p by omega)
      have e1 : nxI zs q = nv zs q := if_pos (by omega)
      have e2 : nxN zs q = (nl zs q : Int) := if_pos (by omega)
      rw [e1, e2]
      have hq : q < zs.length := by omega
      obtain ⟨b, off, rfl⟩ := h.some' (by omega)
      have hsv := refsev_any b off cap zs q w h hq
      have hc := h.cells q hq
      obtain ⟨c, hcc⟩ : ∃ c, zs.getD q 0 = c := ⟨_, rfl⟩
      rw [hcc] at hc
      by_cases hs : sn zs q = 0
      · have e3 : nl zs q = 1 := nl_one hs
        have e4 : nv zs q = if c < 128 then c else -1 := by unfold nv; rw [if_neg (by simpa using hs), hcc]
        have e5 : svI zs q = 0 := if_neg (by simpa using hs)
        rw [e3, e4]
        rw [hs, e5] at hsv
        have hcb := h.1.at q
        rw [hcc] at hcb
        obtain ⟨hcb0, hcb1⟩ := hcb
        clear h hcc e1 e2 e3 e4 e5 hs
        have hbl : b < w.heap.size := block_lt_of_cell hc
        by_cases hlt : c < 128
        · rw [if_pos hlt]
          go_enter Try.func14, Try.ntmps14
          go_wp2_with fail
          refine hsv.mono ?_
          rintro e w1 ⟨rfl, hb⟩
          have hc1 := (hb.cell (p := ⟨b, off + q, none⟩) hbl).trans hc
          go_wp2
          go_ret2
          exact ⟨rfl, hb⟩
        · rw [if_neg hlt]
          go_enter Try.func14, Try.ntmps14
          go_wp2_with fail
          refine hsv.mono ?_
          rintro e w1 ⟨rfl, hb⟩
          have hc1 := (hb.cell (p := ⟨b, off + q, none⟩) hbl).trans hc
          go_wp2
          go_ret2
          exact ⟨rfl, hb⟩
      · have e3 : nl zs q = sn zs q := nl_sn hs
        have e4 : nv zs q = svI zs q := by unfold nv svI; rw [if_pos hs, if_pos hs]
        rw [e3, e4]
        have hpos : 0 < sn zs q := by omega
        clear h hcc e1 e2 e3 e4
        go_enter Try.func14, Try.ntmps14
        go_wp2_with fail
        refine hsv.mono ?_
        rintro e w1 ⟨rfl, hb⟩
        go_wp2
        go_ret2
        exact ⟨rfl, hb⟩

set_option maxHeartbeats 1000000 in
theorem head_any (b off cap : Nat) (zs : List Int) (q : Nat) (w : World) (h : Row w (some ⟨b, off, none⟩) cap zs) (hq : q < zs.length) :
    Calls Try.prog 27 #[.slice (some ⟨b, off, none⟩) zs.length cap, .int .i64 q] w fun e w' => e = .returned (.int .i64 (hd zs q)) ∧ w = w' := by
  have hz := h.cells
  obtain ⟨hb, h2, hm', -⟩ := h
  unfold maxLen at hm'
  have HZ : Hid (∀ i, i < zs.length → w.cell? ⟨b, off + i, none⟩ = some (.int .u8 (zs.getD i 0))) := hz
  have HB : Hid (Bys zs) := hb
  clear hz hb
  by_cases hA : (q : Int) - 4 + 1 ≤ 0
  · go_enter Try.func27, Try.ntmps27
    go_wp2
    go_loop [1] (fun i => ∃ j : Nat, j ≤ q ∧ q ≤ j + 3 ∧ i = .int .i64 j ∧ Hid (∀ i, j < i → i ≤ q → tlB (zs.getD i 0) = true)) (fun i => (intOf i).toNat)
    case atStart => exact ⟨q, Nat.le_refl _, by omega, rfl, show Hid _ from fun i h1 h2 => by omega⟩
    case round =>
      obtain ⟨j, hj, hj3, rfl, ht⟩ := hrel
      by_cases hgo : 0 < j
      · have hcell := HZ.out j (by omega)
        obtain ⟨d, hd⟩ : ∃ d, zs.getD j 0 = d := ⟨_, rfl⟩
        rw [hd] at hcell
        have hdb := HB.out.at j
        rw [hd] at hdb
        obtain ⟨hd0, hd1⟩ := hdb
        have HD : Hid (zs.getD j 0 = d) := hd
        clear hd
        by_cases htd : tlB d = true
        · go_wp2_with (go_at_call 35; refine (tail_any _ _ hd0 hd1).mono ?_; rintro e w' ⟨rfl, rfl⟩)
          go_round
          case rel =>
            refine ⟨j - 1, by omega, by omega, by go_num, show Hid _ from fun i h1 h2 => ?_⟩
            by_cases e : i = j
            · rw [e, HD.out]; exact htd
            · exact ht.out i (by omega) h2
          case measure => simp [intOf]; omega
        · have htf : tlB d = false := by simpa using htd
          have R : Hid (hd zs q = j) := hd_eq hj hj3 ht.out (.inl (by rw [HD.out]; exact htf))
          go_wp2_with (go_at_call 35; refine (tail_any _ _ hd0 hd1).mono ?_; rintro e w' ⟨rfl, rfl⟩)
          go_ret
          exact ⟨by rw [R.out]; rfl, rfl⟩
      · have R : Hid (hd zs q = j) := hd_eq hj hj3 ht.out (.inr (.inl (by omega)))
        go_wp2
        go_ret
        exact ⟨by rw [R.out]; rfl, rfl⟩
  · go_enter Try.func27, Try.ntmps27
    go_wp2
    go_loop [1] (fun i => ∃ j : Nat, j ≤ q ∧ q ≤ j + 3 ∧ i = .int .i64 j ∧ Hid (∀ i, j < i → i ≤ q → tlB (zs.getD i 0) = true)) (fun i => (intOf i).toNat)
    case atStart => exact ⟨q, Nat.le_refl _, by omega, rfl, show Hid _ from fun i h1 h2 => by omega⟩
    case round =>
      obtain ⟨j, hj, hj3, rfl, ht⟩ := hrel
      by_cases hgo : q < j + 3
      · have hcell := HZ.out j (by omega)
        obtain ⟨d, hd⟩ : ∃ d, zs.getD j 0 = d := ⟨_, rfl⟩
        rw [hd] at hcell
        have hdb := HB.out.at j
        rw [hd] at hdb
        obtain ⟨hd0, hd1⟩ := hdb
        have HD : Hid (zs.getD j 0 = d) := hd
        clear hd
        by_cases htd : tlB d = true
        · go_wp2_with (go_at_call 35; refine (tail_any _ _ hd0 hd1).mono ?_; rintro e w' ⟨rfl, rfl⟩)
          go_round
          case rel =>
            refine ⟨j - 1, by omega, by omega, by go_num, show Hid _ from fun i h1 h2 => ?_⟩
            by_cases e : i = j
            · rw [e, HD.out]; exact htd
            · exact ht.out i (by omega) h2
          case measure => simp [intOf]; omega
        · have htf : tlB d = false := by simpa using htd
          have R : Hid (hd zs q = j) := hd_eq hj hj3 ht.out (.inl (by rw [HD.out]; exact htf))
          go_wp2_with (go_at_call 35; refine (tail_any _ _ hd0 hd1).mono ?_; rintro e w' ⟨rfl, rfl⟩)
          go_ret
          exact ⟨by rw [R.out]; rfl, rfl⟩
      · have R : Hid (hd zs q = j) := hd_eq hj hj3 ht.out (.inr (.inr (by omega)))
        go_wp2
        go_ret
        exact ⟨by rw [R.out]; rfl, rfl⟩

set_option maxHeartbeats 1000000 in
theorem last_any (a : Option Addr) (cap : Nat) (zs : List Int) (p : Int) (w : World) (h : Row w a cap zs) :
    Calls Try.prog 11 #[.slice a zs.length cap, .int .i64 p] w fun e w' => e = .returned (.int .i64 (laI zs p)) ∧ Below w.heap.size w w' := by
  have hm := h.2.2.1
  have hlc := h.2.1
  unfold maxLen at hm
  by_cases h0 : p < 1
  · have e1 : laI zs p = 0 := if_neg (by omega)
    rw [e1]
    clear h e1
    go_enter Try.func11, Try.ntmps11
    go_wp2
    go_ret
    exact ⟨rfl, Below.refl _ _⟩
  · by_cases h1 : (zs.length : Int) < p
    · have e1 : laI zs p = 0 := if_neg (by omega)
      rw [e1]
      clear h e1
      go_enter Try.func11, Try.ntmps11
      go_wp2
      go_ret
      exact ⟨rfl, Below.refl _ _⟩
    · obtain ⟨m, rfl⟩ : ∃ m : Nat, p = (m : Int) + 1 := ⟨(p - 1).toNat, by omega⟩
      have e1 : laI zs ((m : Int) + 1) = (la zs (m + 1) : Int) := laI_in (q := m + 1) (by omega) (by omega)
      rw [e1, la_hd (by omega), Nat.add_sub_cancel]
      obtain ⟨b, off, rfl⟩ := h.some' (by omega)
      have hh := head_any b off cap zs m w h (by omega)
      have hle := hd_le zs m
      obtain ⟨s, hs⟩ : ∃ s, hd zs m = s := ⟨_, rfl⟩
      rw [hs] at hh hle ⊢
      obtain ⟨hle1, hle2⟩ := hle
      have hsl : s < zs.length := by omega
      have hn := next_any _ cap zs s w h
      rw [nxN_in hsl, nxI_in hsl] at hn
      have hnl := nl_in hsl
      obtain ⟨n, hnn⟩ : ∃ n, nl zs s = n := ⟨_, rfl⟩
      rw [hnn] at hn hnl ⊢
      clear h e1 hs hnn
      by_cases he : s + n = m + 1
      · have heq : ((s : Int) + (n : Int) == (m : Int) + 1) = true := by simp; omega
        rw [if_pos he]
        clear he
        go_enter Try.func11, Try.ntmps11
        go_wp2_with (first | (go_at_call 27; refine hh.mono ?_; rintro e w' ⟨rfl, rfl⟩) | (go_at_call 10; refine hn.mono ?_; rintro e w' ⟨rfl, hb⟩))
        go_ret
        exact ⟨rfl, hb⟩
      · have heq : ((s : Int) + (n : Int) == (m : Int) + 1) = false := by simp; omega
        rw [if_neg he]
        clear he
        go_enter Try.func11, Try.ntmps11
        go_wp2_with (first | (go_at_call 27; refine hh.mono ?_; rintro e w' ⟨rfl, rfl⟩) | (go_at_call 10; refine hn.mono ?_; rintro e w' ⟨rfl, hb⟩))
        go_ret
        exact ⟨rfl, hb⟩

set_option maxHeartbeats 1000000 in
theorem begins_any (a : Option Addr) (cap : Nat) (zs : List Int) (p : Int) (w : World) (h : Row w a cap zs) :
    Calls Try.prog 12 #[.slice a zs.length cap, .int .i64 p] w fun e w' => e = .returned (.bool (beB zs p)) ∧ Below w.heap.size w w' := by
  have hm := h.2.2.1
  have hlc := h.2.1
  unfold maxLen at hm
  by_cases h0 : p ≤ 0
  · by_cases hz : p = 0
    · subst hz
      have e1 : beB zs 0 = true := (beB_in (q := 0) (by omega)).trans (be_zero zs)
      rw [e1]
      clear h e1
      go_enter Try.func12, Try.ntmps12
      go_wp2
      go_ret
      exact ⟨rfl, Below.refl _ _⟩
    · have e1 : beB zs p = false := by unfold beB; rw [decide_eq_false_iff_not]; omega
      have hz1 : (p == 0) = false := by simpa using hz
      have hz2 : (p == (zs.length : Int)) = false := by simp; omega
      rw [e1]
      clear h e1
      go_enter Try.func12, Try.ntmps12
      go_wp2
      go_ret
      exact ⟨rfl, Below.refl _ _⟩
  · by_cases h1 : (zs.length : Int) ≤ p
    · have hz1 : (p == 0) = false := by simp; omega
      by_cases hz : p = (zs.length : Int)
      · have e1 : beB zs p = true := by rw [hz]; exact (beB_in (Nat.le_refl _)).trans (be_end (Nat.le_refl _))
        have hz2 : (p == (zs.length : Int)) = true := by simpa using hz
        rw [e1]
        clear h e1 hz
        go_enter Try.func12, Try.ntmps12
        go_wp2
        go_ret
        exact ⟨rfl, Below.refl _ _⟩
      · have e1 : beB zs p = false := by unfold beB; rw [decide_eq_false_iff_not]; omega
        have hz2 : (p == (zs.length : Int)) = false := by simpa using hz
        rw [e1]
        clear h e1
        go_enter Try.func12, Try.ntmps12
        go_wp2
        go_ret
        exact ⟨rfl, Below.refl _ _⟩
    · obtain ⟨m, rfl⟩ := Int.eq_ofNat_of_zero_le (show 0 ≤ p by omega)
      have hml : m < zs.length := by omega
      rw [beB_in (by omega), be_hd]
      obtain ⟨b, off, rfl⟩ := h.some' (by omega)
      have hh := head_any b off cap zs m w h (by omega)
      have hle := hd_le zs m
      obtain ⟨s, hs⟩ : ∃ s, hd zs m = s := ⟨_, rfl⟩
      rw [hs] at hh hle ⊢
      obtain ⟨hle1, hle2⟩ := hle
      have hsl : s < zs.length := by omega
      have hn := next_any _ cap zs s w h
      rw [nxN_in hsl, nxI_in hsl] at hn
      have hnl := nl_in hsl
      obtain ⟨n, hnn⟩ : ∃ n, nl zs s = n := ⟨_, rfl⟩
      rw [hnn] at hn hnl ⊢
      clear h hs hnn
      by_cases he : s = m
      · have e1 : decide (s = m ∨ s + n ≤ m) = true := by rw [decide_eq_true_iff]; omega
        have heq : ((s : Int) == (m : Int)) = true := by simp; omega
        rw [e1]
        clear he e1
        go_enter Try.func12, Try.ntmps12
        go_wp2_with (first | (go_at_call 27; refine hh.mono ?_; rintro e w' ⟨rfl, rfl⟩) | (go_at_call 10; refine hn.mono ?_; rintro e w' ⟨rfl, hb⟩))
        go_ret
        exact ⟨rfl, hb⟩
      · have heq : ((s : Int) == (m : Int)) = false := by simp; omega
        by_cases hl : s + n ≤ m
        · have e1 : decide (s = m ∨ s + n ≤ m) = true := by rw [decide_eq_true_iff]; omega
          have hl' : (s : Int) + n ≤ m := by omega
          rw [e1]
          clear he e1 hl
          go_enter Try.func12, Try.ntmps12
          go_wp2_with (first | (go_at_call 27; refine hh.mono ?_; rintro e w' ⟨rfl, rfl⟩) | (go_at_call 10; refine hn.mono ?_; rintro e w' ⟨rfl, hb⟩))
          go_ret
          exact ⟨rfl, hb⟩
        · have e1 : decide (s = m ∨ s + n ≤ m) = false := by rw [decide_eq_false_iff_not]; omega
          have hl' : ¬ (s : Int) + n ≤ m := by omega
          rw [e1]
          clear he e1 hl
          go_enter Try.func12, Try.ntmps12
          go_wp2_with (first | (go_at_call 27; refine hh.mono ?_; rintro e w' ⟨rfl, rfl⟩) | (go_at_call 10; refine hn.mono ?_; rintro e w' ⟨rfl, hb⟩))
          go_ret
          exact ⟨congrArg (fun x => Ending.returned (.bool x)) (decide_eq_false (by omega)), hb⟩

set_option maxHeartbeats 1000000 in
theorem count_any (a : Option Addr) (cap : Nat) (zs : List Int) (w : World) (h : Row w a cap zs) :
    Calls Try.prog 13 #[.slice a zs.length cap] w fun e w' => e = .returned (.int .i64 (cnt zs 0)) ∧ Below w.heap.size w w' := by
  have hm := h.2.2.1
  have hlc := h.2.1
  unfold maxLen at hm
  have H : Hid (Row w a cap zs) := h
  clear h
  have hcl := cnt_len zs
  obtain ⟨t, ht⟩ : ∃ t, cnt zs 0 = t := ⟨_, rfl⟩
  rw [ht] at hcl ⊢
  have HT : Hid (cnt zs 0 = t) := ht
  clear ht
  go_enter Try.func13, Try.ntmps13
  go_wp2
  go_loopw [3, 4] (fun c i wr => ∃ k q : Nat, q ≤ zs.length ∧ c = .int .i64 k ∧ i = .int .i64 q ∧ Hid (k + cnt zs q = t) ∧ k ≤ t ∧ Below w.heap.size w wr) (fun _ i _ => zs.length - (intOf i).toNat)
  case atStart => exact ⟨0, 0, Nat.zero_le _, rfl, rfl, show Hid _ from by show 0 + _ = _; rw [HT.out]; omega, Nat.zero_le _, Below.refl _ _⟩
  case round =>
    obtain ⟨k, q, hq, rfl, rfl, hk, hkt, hbel⟩ := hrel
    by_cases hlt : q < zs.length
    · have hn := next_any a cap zs q wr (H.out.below hbel)
      rw [nxN_in hlt, nxI_in hlt] at hn
      have hnl := nl_in hlt
      have hn1 := nl_pos zs q
      have hci := cnt_in hlt
      obtain ⟨n, hnn⟩ : ∃ n, nl zs q = n := ⟨_, rfl⟩
      rw [hnn] at hn hnl hn1 hci
      have HK : Hid (k + 1 + cnt zs (q + n) = t) := by show _ = _; have := hk.out; omega
      have hk1 : k + 1 ≤ t := by have := HK.out; omega
      clear hnn hci hk
      go_wp2_with (go_at_call 10; refine hn.mono ?_; rintro e w' ⟨rfl, hb⟩)
      go_roundw
      case rel => exact ⟨k + 1, q + n, hnl, by go_num, by go_num, HK, hk1, hbel.trans (hb.mono hbel.size)⟩
      case measure => simp [intOf]; omega
    · have hkk : k = t := by have := hk.out; rw [cnt_out (by omega)] at this; omega
      subst hkk
      go_wp2
      go_ret
      exact ⟨rfl, hbel⟩
end Go.Proofs.Ytfnbkjmoppjegaa.Oct
