/-
  The walks of the document's Last, Begins and Count.
-/
import Derived.Test.YtfnbkjmoppjegaaX
namespace Go.Proofs.Ytfnbkjmoppjegaa.Oct
open Go.RowKit

set_option maxHeartbeats 1000000 in
theorem refcount_any (a : Option Addr) (cap : Nat) (zs : List Int) (w : World) (h : Row w a cap zs) :
    Calls Try.prog 17 #[.slice a zs.length cap] w fun e w' => e = .returned (.int .i64 (cnt zs 0)) ∧ Below w.heap.size w w' := by
  have hm := h.2.2.1
  have hlc := h.2.1
  unfold maxLen at hm
  have H : Hid (Row w a cap zs) := h
  clear h
  have hcl := cnt_len zs
  obtain ⟨t, ht⟩ : ∃ t, cnt zs 0 = t := ⟨_, rfl⟩
  rw [ht] at hcl ⊢
  have HT : Hid (cnt zs 0 = t) := ht
  clear ht
  go_enter Try.func17, Try.ntmps17
  go_wp2
  go_loopw [3, 4] (fun c i wr => ∃ k q : Nat, q ≤ zs.length ∧ c = .int .i64 k ∧ i = .int .i64 q ∧ Hid (k + cnt zs q = t) ∧ k ≤ t ∧ Below w.heap.size w wr) (fun _ i _ => zs.length - (intOf i).toNat)
  case atStart => exact ⟨0, 0, Nat.zero_le _, rfl, rfl, show Hid _ from by show 0 + _ = _; rw [HT.out]; omega, Nat.zero_le _, Below.refl _ _⟩
  case round =>
    obtain ⟨k, q, hq, rfl, rfl, hk, hkt, hbel⟩ := hrel
    by_cases hlt : q < zs.length
    · have hn := refnext_any a cap zs q wr (H.out.below hbel)
      rw [nxN_in hlt, nxI_in hlt] at hn
      have hnl := nl_in hlt
      have hn1 := nl_pos zs q
      have hci := cnt_in hlt
      obtain ⟨n, hnn⟩ : ∃ n, nl zs q = n := ⟨_, rfl⟩
      rw [hnn] at hn hnl hn1 hci
      have HK : Hid (k + 1 + cnt zs (q + n) = t) := by show _ = _; have := hk.out; omega
      have hk1 : k + 1 ≤ t := by have := HK.out; omega
      clear hnn hci hk
      go_wp2_with (go_at_call 14; refine hn.mono ?_; rintro e w' ⟨rfl, hb⟩)
      go_roundw
      case rel => exact ⟨k + 1, q + n, hnl, by go_num, by go_num, HK, hk1, hbel.trans (hb.mono hbel.size)⟩
      case measure => simp [intOf]; omega
    · have hkk : k = t := by have := hk.out; rw [cnt_out (by omega)] at this; omega
      subst hkk
      go_wp2
      go_ret
      exact ⟨rfl, hbel⟩

theorem la_stop {zs : List Int} {q k : Nat} (h2 : 2 ≤ k) (h4 : k ≤ 4) (hq : k ≤ q) (h : ∀ j, 2 ≤ j → j < k → sn zs (q - j) ≠ j) (hs : sn zs (q - k) = k) : la zs q = k := by
  unfold la
  by_cases e : k = 2
  · subst e; rw [if_pos ⟨hq, hs⟩]
  · rw [if_neg fun x => h 2 (by omega) (by omega) x.2]
    by_cases e3 : k = 3
    · subst e3; rw [if_pos ⟨hq, hs⟩]
    · rw [if_neg fun x => h 3 (by omega) (by omega) x.2]
      have e4 : k = 4 := by omega
      subst e4; rw [if_pos ⟨hq, hs⟩]

theorem la_none {zs : List Int} {q : Nat} (h : ∀ j, 2 ≤ j → j ≤ 4 → j ≤ q → sn zs (q - j) ≠ j) : la zs q = 1 := by
  unfold la
  rw [if_neg fun x => h 2 (by omega) (by omega) x.1 x.2, if_neg fun x => h 3 (by omega) (by omega) x.1 x.2, if_neg fun x => h 4 (by omega) (by omega) x.1 x.2]

set_option maxHeartbeats 1000000 in
theorem reflast_any (a : Option Addr) (cap : Nat) (zs : List Int) (p : Int) (w : World) (h : Row w a cap zs) :
    Calls Try.prog 15 #[.slice a zs.length cap, .int .i64 p] w fun e w' => e = .returned (.int .i64 (laI zs p)) ∧ Below w.heap.size w w' := by
  have hm := h.2.2.1
  have hlc := h.2.1
  unfold maxLen at hm
  by_cases h0 : p < 1
  · have e1 : laI zs p = 0 := if_neg (by omega)
    rw [e1]
    clear h e1
    go_enter Try.func15, Try.ntmps15
    go_wp2
    go_ret
    exact ⟨rfl, Below.refl _ _⟩
  · by_cases h1 : (zs.length : Int) < p
    · have e1 : laI zs p = 0 := if_neg (by omega)
      rw [e1]
      clear h e1
      go_enter Try.func15, Try.ntmps15
      go_wp2
      go_ret
      exact ⟨rfl, Below.refl _ _⟩
    · obtain ⟨q, rfl⟩ := Int.eq_ofNat_of_zero_le (show 0 ≤ p by omega)
      have hq1 : 1 ≤ q := by omega
      have hql : q ≤ zs.length := by omega
      rw [laI_in hq1 hql]
      obtain ⟨b, off, rfl⟩ := h.some' (by omega)
      have H : Hid (Row w (some ⟨b, off, none⟩) cap zs) := h
      clear h
      go_enter Try.func15, Try.ntmps15
      go_wp2
      go_loopw [5] (fun i wr => ∃ k : Nat, 2 ≤ k ∧ k ≤ 5 ∧ i = .int .i64 k ∧ Hid (∀ j, 2 ≤ j → j < k → sn zs (q - j) ≠ j) ∧ Below w.heap.size w wr) (fun i _ => 5 - (intOf i).toNat)
      case atStart => exact ⟨2, by omega, by omega, rfl, show Hid _ from fun j h1 h2 => by omega, Below.refl _ _⟩
      case round =>
        obtain ⟨k, hk2, hk5, rfl, hall, hbel⟩ := hrel
        by_cases hk4 : k ≤ 4
        · by_cases hkq : k ≤ q
          · have hs := refsev_any b off cap zs (q - k) wr (H.out.below hbel) (by omega)
            have hsub : ((q - k : Nat) : Int) = (q : Int) - k := by omega
            rw [hsub] at hs
            clear hsub
            obtain ⟨n, hn⟩ : ∃ n, sn zs (q - k) = n := ⟨_, rfl⟩
            rw [hn] at hs
            by_cases hnk : n = k
            · have hbe : ((n : Int) == (k : Int)) = true := by rw [hnk]; simp
              have R : Hid (la zs q = k) := la_stop hk2 hk4 hkq hall.out (hn.trans hnk)
              clear hn hnk
              go_wp2_with (go_at_call 28; refine hs.mono ?_; rintro e w' ⟨rfl, hb⟩)
              go_ret
              exact ⟨by rw [R.out]; rfl, hbel.trans (hb.mono hbel.size)⟩
            · have hbe : ((n : Int) == (k : Int)) = false := by simp; omega
              have R : Hid (∀ j, 2 ≤ j → j < k + 1 → sn zs (q - j) ≠ j) := by
                intro j h1 h2
                by_cases e : j = k
                · rw [e, hn]; exact hnk
                · exact hall.out j h1 (by omega)
              clear hn hnk hall
              go_wp2_with (go_at_call 28; refine hs.mono ?_; rintro e w' ⟨rfl, hb⟩)
              go_roundw
              case rel => exact ⟨k + 1, by omega, by omega, by go_num, R, hbel.trans (hb.mono hbel.size)⟩
              case measure => simp [intOf]; omega
          · have R : Hid (la zs q = 1) := la_none fun j h1 _ h3 => hall.out j h1 (by omega)
            go_wp2
            go_ret
            exact ⟨by rw [R.out]; rfl, hbel⟩
        · have R : Hid (la zs q = 1) := la_none fun j h1 h2 _ => hall.out j h1 (by omega)
          go_wp2
          go_ret
          exact ⟨by rw [R.out]; rfl, hbel⟩

theorem be_no {zs : List Int} {q k : Nat} (h1 : 1 ≤ k) (_h3 : k ≤ 3) (hq : k ≤ q) (h : k < sn zs (q - k)) : be zs q = false := by
  rcases be_cases zs q with ⟨e, _⟩ | ⟨_, e⟩
  · exact e
  · have := e k h1 hq; omega

theorem be_yes {zs : List Int} {q : Nat} (h : ∀ j, 1 ≤ j → j ≤ 3 → j ≤ q → sn zs (q - j) ≤ j) : be zs q = true := by
  rcases be_cases zs q with ⟨_, k, h1, h2, h3, h4⟩ | ⟨e, _⟩
  · have := h k h1 h2 h3; omega
  · exact e

set_option maxHeartbeats 1000000 in
theorem refbegins_any (a : Option Addr) (cap : Nat) (zs : List Int) (p : Int) (w : World) (h : Row w a cap zs) :
    Calls Try.prog 16 #[.slice a zs.length cap, .int .i64 p] w fun e w' => e = .returned (.bool (beB zs p)) ∧ Below w.heap.size w w' := by
  have hm := h.2.2.1
  have hlc := h.2.1
  unfold maxLen at hm
  by_cases h0 : p < 0
  · have e1 : beB zs p = false := by unfold beB; rw [decide_eq_false_iff_not]; omega
    rw [e1]
    clear h e1
    go_enter Try.func16, Try.ntmps16
    go_wp2
    go_ret
    exact ⟨rfl, Below.refl _ _⟩
  · by_cases h1 : (zs.length : Int) < p
    · have e1 : beB zs p = false := by unfold beB; rw [decide_eq_false_iff_not]; omega
      rw [e1]
      clear h e1
      go_enter Try.func16, Try.ntmps16
      go_wp2
      go_ret
      exact ⟨rfl, Below.refl _ _⟩
    · obtain ⟨q, rfl⟩ := Int.eq_ofNat_of_zero_le (show 0 ≤ p by omega)
      have hql : q ≤ zs.length := by omega
      rw [beB_in hql]
      have H : Hid (Row w a cap zs) := h
      clear h
      go_enter Try.func16, Try.ntmps16
      go_wp2
      go_loopw [5] (fun i wr => ∃ k : Nat, 1 ≤ k ∧ k ≤ 4 ∧ i = .int .i64 k ∧ Hid (∀ j, 1 ≤ j → j < k → sn zs (q - j) ≤ j) ∧ Below w.heap.size w wr) (fun i _ => 4 - (intOf i).toNat)
      case atStart => exact ⟨1, by omega, by omega, rfl, show Hid _ from fun j h1 h2 => by omega, Below.refl _ _⟩
      case round =>
        obtain ⟨k, hk2, hk5, rfl, hall, hbel⟩ := hrel
        by_cases hk4 : k ≤ 3
        · by_cases hkq : k ≤ q
          · by_cases hqe : q < zs.length
            · obtain ⟨b, off, rfl⟩ := H.out.some' (by omega)
              have hs := refsev_any b off cap zs (q - k) wr (H.out.below hbel) (by omega)
              have hsub : ((q - k : Nat) : Int) = (q : Int) - k := by omega
              rw [hsub] at hs
              clear hsub
              obtain ⟨n, hn⟩ : ∃ n, sn zs (q - k) = n := ⟨_, rfl⟩
              rw [hn] at hs
              by_cases hnk : k < n
              · have R : Hid (be zs q = false) := be_no hk2 hk4 hkq (by rw [hn]; exact hnk)
                clear hn
                go_wp2_with (go_at_call 28; refine hs.mono ?_; rintro e w' ⟨rfl, hb⟩)
                go_ret
                exact ⟨by rw [R.out]; rfl, hbel.trans (hb.mono hbel.size)⟩
              · have R : Hid (∀ j, 1 ≤ j → j < k + 1 → sn zs (q - j) ≤ j) := by
                  intro j h1 h2
                  by_cases e : j = k
                  · rw [e, hn]; omega
                  · exact hall.out j h1 (by omega)
                clear hn hall
                go_wp2_with (go_at_call 28; refine hs.mono ?_; rintro e w' ⟨rfl, hb⟩)
                go_roundw
                case rel => exact ⟨k + 1, by omega, by omega, by go_num, R, hbel.trans (hb.mono hbel.size)⟩
                case measure => simp [intOf]; omega
            · have R : Hid (be zs q = true) := be_end (by omega)
              go_wp2
              go_ret
              exact ⟨by rw [R.out]; rfl, hbel⟩
          · have R : Hid (be zs q = true) := be_yes fun j h1 _ h3 => hall.out j h1 (by omega)
            go_wp2
            go_ret
            exact ⟨by rw [R.out]; rfl, hbel⟩
        · have R : Hid (be zs q = true) := be_yes fun j h1 h2 _ => hall.out j h1 (by omega)
          go_wp2
          go_ret
          exact ⟨by rw [R.out]; rfl, hbel⟩
end Go.Proofs.Ytfnbkjmoppjegaa.Oct
