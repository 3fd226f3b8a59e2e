/-
  The landed index's withTens and withMoved.
-/
import Derived.Test.YtehomchhflhmbaaXni
import Derived.Test.YtehomchhflhmbaaAp
import Derived.Test.YtehomchhflhmbaaXnd
namespace Go.Proofs.Ytehomchhflhmbaa.Oct
open Go.RowKit

theorem Mine.refl (w : World) (v : Value) : Mine w v v := fun _ h => .inl h

set_option maxHeartbeats 2000000 in
theorem withTens_any {base : Nat} {w : World} {v : Value} {xs : List Int} (h : OwI base w v xs) (hbase : base ≤ w.heap.size) (a : Option Addr) (cap : Nat) (zs : List Int) (hr : Row w a cap zs) (n : Nat) (hn : zs.length = n)
    (hap : zs = [] ∨ Apart (fun k => v.ownBlock = some k) a) (o : Nat) (ho : o + n ≤ 2000000) (hx : xs.length + n ≤ 2000000) :
    Calls Try.prog 21 #[v, .slice a n cap, .int .i64 o] w fun e w' => ∃ v', e = .returned v' ∧ OwI base w' v' (xs ++ endsF o zs) ∧ Ch w.heap.size (fun k => v.ownBlock = some k) w w' ∧ Mine w v v' := by
  have HR : Hid (∀ w', Ch w.heap.size (fun k => v.ownBlock = some k) w w' → ∀ k, k < n → ∃ b off, a = some ⟨b, off, none⟩ ∧ w'.cell? ⟨b, off + k, none⟩ = some (.int .u8 (zs.getD k 0))) := by
    intro w' hc k hk
    have hne : zs ≠ [] := by intro e; rw [e] at hn; simp at hn; omega
    have hr' := hr.ch hc (fun x hx h => (hap.resolve_left hne) x hx h)
    obtain ⟨b, off, rfl⟩ := hr.some' (by omega)
    exact ⟨b, off, rfl, hr'.cells k (by omega)⟩
  have h2 := hr.2.2.1
  have h1 := hr.2.1
  unfold maxLen at h2
  rw [hn] at h1
  have HB : Hid (∀ i, 0 ≤ zs.getD i 0 ∧ zs.getD i 0 ≤ 255) := fun i => hr.1.at i
  have HN : Hid (zs.length = n) := hn
  have HO : Hid (OwI base w v xs) := h
  clear hr hn hap h
  go_enter Try.func21, Try.ntmps21
  go_wp2
  go_loopw [0, 11] (fun row i wr => ∃ k : Nat, k ≤ n ∧ i = .int .i64 k ∧ OwI base wr row (xs ++ endsF o (zs.take k)) ∧ Ch w.heap.size (fun k => v.ownBlock = some k) w wr ∧ Mine w v row) (fun _ i _ => n - (intOf i).toNat)
  case atStart => exact ⟨0, Nat.zero_le _, rfl, by simpa [endsF] using HO.out, Ch.refl _ _ _, Mine.refl _ _⟩
  case round =>
    obtain ⟨k, hk, rfl, hown, hch, hmine⟩ := hrel
    by_cases hlt : k < n
    · have hsn : Hid _ := endsF_snoc o zs k (by rw [HN.out]; exact hlt)
      obtain ⟨b, off, rfl, hc⟩ := HR.out wr hch k hlt
      have hbb := HB.out k
      have hle : (endsF o (zs.take k)).length ≤ k := by
        rw [endsF_len]
        have := List.count_le_length (a := (10 : Int)) (l := zs.take k)
        rw [List.length_take] at this
        omega
      have HLE : Hid _ := hle
      clear hle
      by_cases e : zs.getD k 0 = 10
      · rw [e] at hc
        have HE : Hid (zs.getD k 0 = 10) := e
        clear e hbb
        have hcs := hch.size
        go_wp2_with (at_builtin; refine append_owI rfl _ _ rfl base _ _ rfl (hown.below ((Below.refl _ _).alloc (Nat.le_refl _) _)) ⟨wr.heap.size, 0, none⟩ [(o : Int) + k + 1] 1 1 rfl rfl ?c2 ?c3 ?c4 ?_)
        case c2 => exact rowI_one _ _
        case c3 => have := HLE.out; rw [List.length_append]; omega
        case c4 => simp; omega
        intro v' w1 hown' hgrow hlt'
        obtain ⟨hch', hmine'⟩ := owI_step hcs hmine hch hgrow hlt'
        clear hgrow hlt' hown hch hmine hc
        go_wp2
        go_roundw
        case rel =>
          refine ⟨k + 1, by omega, by go_num, ?_, hch', hmine'⟩
          rw [hsn.out, HE.out, if_pos rfl]
          exact hown'
        case measure => simp [intOf]; omega
      · obtain ⟨c, hcc⟩ : ∃ c, zs.getD k 0 = c := ⟨_, rfl⟩
        have HE : Hid (zs.getD k 0 = c) := hcc
        rw [hcc] at hc hbb e
        have e' : (c == 10) = false := by simpa using e
        have H5 : Hid (c ≠ 10) := e
        clear e hcc
        go_wp2
        go_roundw
        case rel =>
          refine ⟨k + 1, by omega, by go_num, ?_, hch, hmine⟩
          rw [hsn.out, HE.out, if_neg H5.out, List.append_nil]
          exact hown
        case measure => simp [intOf]; omega
    · have hkn : k = n := by omega
      have ht : zs.take k = zs := List.take_of_length_le (by have := HN.out; omega)
      rw [ht] at hown
      clear ht
      go_wp2
      go_ret
      exact ⟨_, rfl, hown, hch, hmine⟩

theorem OwI.set {base : Nat} {w : World} {g n cap : Nat} {L : List Int} (h : OwI base w (.slice (some ⟨g, 0, none⟩) n cap) L) (i : Nat) (y : Int) : OwI base (w.setCell ⟨g, i, none⟩ (.int .i64 y)) (.slice (some ⟨g, 0, none⟩) n cap) (L.set i y) := by
  rcases h with ⟨h, _⟩ | ⟨g', cap', cur, e, hb, hg, h1, h2, h3, h4⟩
  · exact absurd h (by simp)
  · simp only [Value.slice.injEq, Option.some.injEq, Addr.mk.injEq, and_true] at e
    obtain ⟨rfl, rfl, rfl⟩ := e
    refine .inr ⟨g, cap, _, by rw [List.length_set], hb, setCell_heap w g i _ cur _ _ hg, by rw [List.length_set]; exact h1, h2, by simpa using h3, ?_⟩
    rw [List.length_set, Array.toList_setIfInBounds, List.take_set, h4, List.map_set]

theorem OwI.frozen {base : Nat} {w : World} {g n cap : Nat} {L : List Int} (h : OwI base w (.slice (some ⟨g, 0, none⟩) n cap) L) (i : Nat) : w.frozen? ⟨g, i, none⟩ = false := by
  rcases h with ⟨h, _⟩ | ⟨g', cap', cur, e, hb, hg, _⟩
  · exact absurd h (by simp)
  · simp only [Value.slice.injEq, Option.some.injEq, Addr.mk.injEq, and_true] at e
    obtain ⟨rfl, -, -⟩ := e
    simp [World.frozen?, hg]

theorem mv_step (zs : List Int) (by' : Int) (k : Nat) (hk : k < zs.length) (xs : List Int) : (xs ++ (zs.take k).map (· + by') ++ zs.drop k).set (xs.length + k) (zs.getD k 0 + by') = xs ++ (zs.take (k + 1)).map (· + by') ++ zs.drop (k + 1) := by
  have hl : ((zs.take k).map (· + by')).length = k := by rw [List.length_map, List.length_take]; omega
  rw [take_snoc zs k hk, List.map_append, List.append_assoc, List.append_assoc, List.append_assoc, List.set_append_right _ _ (by omega), Nat.add_sub_cancel_left, List.set_append_right _ _ (by omega), hl, Nat.sub_self, List.drop_eq_getElem_cons hk, List.getD_eq_getElem?_getD, List.getElem?_eq_getElem hk]
  rfl

theorem mv_at (zs : List Int) (by' : Int) (k : Nat) (hk : k < zs.length) (xs : List Int) : (xs ++ (zs.take k).map (· + by') ++ zs.drop k).getD (xs.length + k) 0 = zs.getD k 0 := by
  have hl : ((zs.take k).map (· + by')).length = k := by rw [List.length_map, List.length_take]; omega
  rw [List.append_assoc, app_at, if_neg (by omega), Nat.add_sub_cancel_left, app_at, if_neg (by omega), hl, Nat.sub_self, List.getD_eq_getElem?_getD, List.getElem?_drop, List.getD_eq_getElem?_getD]
  rfl

theorem mv_len (zs : List Int) (by' : Int) (k : Nat) (xs : List Int) : (xs ++ (zs.take k).map (· + by') ++ zs.drop k).length = xs.length + zs.length := by
  simp only [List.length_append, List.length_map, List.length_take, List.length_drop]
  omega

set_option maxHeartbeats 2000000 in
theorem withMoved_any {base : Nat} {w : World} {v : Value} {xs : List Int} (h : OwI base w v xs) (hbase : base ≤ w.heap.size) (a : Option Addr) (cap : Nat) (zs : List Int) (hr : RowI w a cap zs) (hnil : a = none → cap = 0) (n : Nat) (hn : zs.length = n)
    (d : Int) (hd : -2000000 ≤ d ∧ d ≤ 2000000) (hz : ∀ z ∈ zs, 0 ≤ z ∧ z ≤ 2000000) (hx : xs.length + n ≤ 2000000) :
    Calls Try.prog 24 #[v, .slice a n cap, .int .i64 d] w fun e w' => ∃ v', e = .returned v' ∧ OwI base w' v' (xs ++ zs.map (· + d)) ∧ Ch w.heap.size (fun k => v.ownBlock = some k) w w' ∧ Mine w v v' := by
  have HO : Hid (OwI base w v xs) := h
  have HN : Hid (zs.length = n) := hn
  have HZ : Hid (∀ z ∈ zs, 0 ≤ z ∧ z ≤ 2000000) := hz
  obtain ⟨a0, cap0, rfl, hr0⟩ := h.row
  have c1 := hr0.1
  have c2 := hr0.2.1
  unfold maxLen at c2
  clear hr0
  obtain ⟨m, hm⟩ : ∃ m, xs.length = m := ⟨_, rfl⟩
  have HX : Hid (xs.length = m) := hm
  have hz0 : a = none → zs = [] := fun e => by
    have := hr.1
    rw [hnil e] at this
    exact List.eq_nil_of_length_eq_zero (by omega)
  cases a with
  | none =>
    have e := hz0 rfl
    have e2 := hnil rfl
    subst e e2
    have e3 : n = 0 := by simpa using hn.symm
    subst e3
    rw [hm] at c1 ⊢
    rw [hm] at h HO
    clear hr hnil hn hz0 hz hm
    go_enter Try.func24, Try.ntmps24
    go_wp2_with (at_builtin; refine append_owI_none rfl _ _ rfl base _ _ rfl h rfl ?_)
    go_loopw [8] (fun i wr => i = .int .i64 m ∧ wr = w) (fun _ _ => 0)
    case atStart => exact ⟨rfl, rfl⟩
    case round =>
      obtain ⟨rfl, rfl⟩ := hrel
      go_wp2
      go_ret
      exact ⟨_, rfl, by simpa using HO.out, Ch.refl _ _ _, Mine.refl _ _⟩
  | some ad =>
    have hnews := rowI_news hr
    have hr1 := hr.1
    have hr2 := hr.2.1
    unfold maxLen at hr2
    rw [hn] at hr1
    rw [hm] at c1 h HO ⊢
    clear hr hnil hz0 hz hm
    go_enter Try.func24, Try.ntmps24
    go_wp2_with (at_builtin; refine append_owI rfl _ _ rfl base _ _ rfl HO.out ad zs n cap rfl hn hnews ?c2 hbase ?_)
    case c2 => omega
    intro v1 w1 hown hgrow hmine
    have hch : Ch w.heap.size (fun k => (Value.slice a0 m cap0).ownBlock = some k) w w1 := (Ch.refl _ _ w).grown hgrow (Nat.le_refl _) (fun k hk => .inr hk)
    clear hgrow hnews h
    rcases Nat.eq_zero_or_pos n with h0 | h0
    · have e : zs = [] := List.eq_nil_of_length_eq_zero (by omega)
      subst e
      rw [List.append_nil] at hown
      obtain ⟨a1, cap1, rfl, hr1'⟩ := hown.row
      have d1 := hr1'.1
      have d2 := hr1'.2.1
      unfold maxLen at d2
      have HX' := HX.out
      rw [HX'] at d1 hown ⊢
      rw [HX'] at hmine
      clear HX' hr1'
      go_wp2
      go_loopw [8] (fun i wr => i = .int .i64 m ∧ wr = w1) (fun _ _ => 0)
      case atStart => exact ⟨rfl, rfl⟩
      case round =>
        obtain ⟨rfl, rfl⟩ := hrel
        go_wp2
        go_ret
        exact ⟨_, rfl, by simpa using hown, hch, hmine⟩
    · obtain ⟨g, cap1, rfl⟩ : ∃ g cap1, v1 = .slice (some ⟨g, 0, none⟩) (m + n) cap1 := by
        rcases hown with ⟨_, e⟩ | ⟨g, cap1, _, e, _⟩
        · have := congrArg List.length e
          rw [List.length_append, HN.out] at this
          simp at this
          omega
        · rw [List.length_append, HX.out, HN.out] at e
          exact ⟨g, cap1, e⟩
      have d1 : m + n ≤ cap1 ∧ cap1 ≤ maxLen := by
        obtain ⟨a1, c1', e, hr1'⟩ := hown.row
        simp only [Value.slice.injEq] at e
        obtain ⟨-, e2, rfl⟩ := e
        exact ⟨e2 ▸ hr1'.1, hr1'.2.1⟩
      unfold maxLen at d1
      have hgm := hmine g rfl
      have HG : Hid ((Value.slice a0 m cap0).ownBlock = some g ∨ w.heap.size ≤ g) := hgm
      clear hgm hmine
      have HC : Hid _ := hch
      have hB := hch.size
      clear hch
      go_wp2
      go_loopw [8] (fun i wr => ∃ k : Nat, k ≤ n ∧ i = .int .i64 (m + k : Nat) ∧ OwI base wr (.slice (some ⟨g, 0, none⟩) (m + n) cap1) (xs ++ (zs.take k).map (· + d) ++ zs.drop k) ∧ Ch w.heap.size (fun k => (Value.slice a0 m cap0).ownBlock = some k) w wr) (fun i _ => m + n - (intOf i).toNat)
      case atStart => exact ⟨0, Nat.zero_le _, rfl, by simpa using hown, HC.out⟩
      case round =>
        obtain ⟨k, hk, rfl, hro, hch⟩ := hrel
        by_cases hlt : k < n
        · have hat := mv_at zs d k (by rw [HN.out]; exact hlt) xs
          have hst := mv_step zs d k (by rw [HN.out]; exact hlt) xs
          have hset := hro.set (m + k) (zs.getD k 0 + d)
          have hml := mv_len zs d k xs
          rw [HX.out, HN.out] at hml
          rw [HX.out] at hat hst
          rw [hst] at hset
          have hcell : wr.cell? ⟨g, m + k, none⟩ = some (.int .i64 (zs.getD k 0)) := by
            obtain ⟨a1, c1', e, hrr⟩ := hro.row
            simp only [Value.slice.injEq] at e
            obtain ⟨rfl, -, rfl⟩ := e
            obtain ⟨b, off, e, hc⟩ := hrr.at2 (by omega)
            simp only [Option.some.injEq, Addr.mk.injEq, and_true] at e
            obtain ⟨rfl, rfl⟩ := e
            have := hc (m + k) (by omega)
            rw [hat, Nat.zero_add] at this
            exact this
          have hfr := hro.frozen (m + k)
          have hzk : 0 ≤ zs.getD k 0 ∧ zs.getD k 0 ≤ 2000000 := by
            have hkl : k < zs.length := by rw [HN.out]; exact hlt
            rw [List.getD_eq_getElem?_getD, List.getElem?_eq_getElem hkl]
            exact HZ.out _ (List.getElem_mem hkl)
          obtain ⟨c, hc⟩ : ∃ c, zs.getD k 0 = c := ⟨_, rfl⟩
          rw [hc] at hcell hset hzk
          have HS : Hid _ := hset
          have HCh : Hid _ := hch.setCell (p := ⟨g, m + k, none⟩) HG.out.symm (.int .i64 (c + d))
          clear hat hst hset hml hro hch hc
          go_wp2
          go_roundw
          case rel => exact ⟨k + 1, by omega, by go_num, HS.out, HCh.out⟩
          case measure => simp [intOf]; omega
        · have hkn : k = n := by omega
          subst hkn
          have ht : zs.take k = zs := List.take_of_length_le (by have := HN.out; omega)
          have ht2 : zs.drop k = [] := List.drop_eq_nil_of_le (by have := HN.out; omega)
          rw [ht, ht2, List.append_nil] at hro
          clear ht ht2
          go_wp2
          go_ret
          have hmi : Mine w (.slice a0 m cap0) (.slice (some ⟨g, 0, none⟩) (m + k) cap1) := fun g' e => by
            simp only [Value.ownBlock, Option.some.injEq] at e
            subst e
            exact HG.out
          exact ⟨_, rfl, hro, hch, hmi⟩
end Go.Proofs.Ytehomchhflhmbaa.Oct
