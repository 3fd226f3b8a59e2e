/-
  The landed index: a row that is full grows into new memory alone; Edit.
-/
import Derived.Test.YtehomchhflhmbaaXnl
namespace Go.Proofs.Ytehomchhflhmbaa.Oct
open Go.RowKit

theorem run_append_full (base : Nat) (ty : TypeId) {w : World} {v : Value} {xs : List Int} (hown : OwI base w v xs) (hf : Full v) (ad : Addr) (c : Nat) (z : Int)
    (hnews : ∀ j u, ([z].map (Value.int .i64))[j]? = some u → w.cell? (ad.add j) = some u) (hsz : xs.length + 1 ≤ 2000000) (hbase : base ≤ w.heap.size) :
    ∃ v' w', (Builtin.append_ #[42, 42] ty #[v, .slice (some ad) 1 c]).run Try.prog w = .ok v' w' ∧ OwI base w' v' (xs ++ [z]) ∧ w.grownBy w' none ∧ ∀ g, v'.ownBlock = some g → w.heap.size ≤ g := by
  obtain ⟨i0, hi, hz0, hz1, hz2⟩ := info_parts info3
  have hm1 : ([z].map (Value.int .i64)).length = 1 * i0.size := by rw [List.length_map, hz1]; rfl
  rcases hown with ⟨rfl, rfl⟩ | ⟨g, cap, cur, rfl, hbg, hg, h1, h2, h3, h4⟩
  · have hr := run_append_nil (P := Try.prog) w 42 ty 3 i0 _ Try.underlying42 hi hz0 ad 1 c _ hm1 hnews (by omega) (by omega) (by rw [hz2]; omega)
    refine ⟨_, _, hr, .inr ⟨w.heap.size, _, _, rfl, hbase, heap_alloc_new w.drew _, grownCap_ge w 1 0 _, grownCap_le_maxLen w 1 0 3 (by unfold maxLen; omega), ?_, ?_⟩, ⟨rfl, rfl, rfl, by simp, fun k hk _ => heap_alloc_old w.drew _ hk⟩, fun g hg => by simp only [Value.ownBlock, Option.some.injEq] at hg; omega⟩
    · simp [size_zeroCells, Value.cells]
      have := grownCap_ge w 1 0 3
      omega
    · rw [Array.toList_append]
      rfl
  · have hfc : xs.length = cap := by
      rcases hf with hf | ⟨g', n, hf⟩
      · exact absurd hf (by simp)
      · simp only [Value.slice.injEq] at hf
        exact hf.2.1.trans hf.2.2.symm
    have holds : ∀ j u, (xs.map (Value.int .i64))[j]? = some u → w.cell? ((⟨g, 0, none⟩ : Addr).add j) = some u := by
      obtain ⟨a, cp, e, hr⟩ := OwI.row (base := base) (.inr ⟨g, cap, cur, rfl, hbg, hg, h1, h2, h3, h4⟩ : OwI base w _ xs)
      simp only [Value.slice.injEq] at e
      obtain ⟨rfl, -, rfl⟩ := e
      exact rowI_news hr
    have hr := run_append_grow (P := Try.prog) w 42 ty 3 i0 _ Try.underlying42 hi hz0 ⟨g, 0, none⟩ xs.length cap _ (by rw [List.length_map, hz1, Nat.mul_one]) holds ad 1 c _ hm1 hnews (by omega) (by omega) (growslice_fits (by omega) (by rw [hz2]; omega))
    refine ⟨_, _, hr, .inr ⟨w.heap.size, _, _, ?_, hbase, heap_alloc_new w.drew _, ?_, grownCap_le_maxLen w (xs.length + 1) cap 3 (by unfold maxLen; omega), ?_, ?_⟩, ⟨rfl, rfl, rfl, by simp, fun k hk _ => heap_alloc_old w.drew _ hk⟩, fun g hg => by simp only [Value.ownBlock, Option.some.injEq] at hg; omega⟩
    · rw [List.length_append]; rfl
    · rw [List.length_append]; exact grownCap_ge w _ cap _
    · simp [size_zeroCells, Value.cells]
      have := grownCap_ge w (xs.length + 1) cap 3
      omega
    · rw [List.length_append, List.map_append]
      have e : (xs.map (Value.int .i64) ++ [z].map (Value.int .i64)).length = xs.length + [z].length := by simp
      simp only [Array.toList_append]
      rw [← e, List.take_left]

theorem append_full {w : World} {ops : Array Oper} {rest : List Oper} {o : Oper} {a : Act} {Q : Exit → Act → World → Prop} (hgd : o.guard = none) (s x : Operand)
    (ho : o.op = .call { callee := .builtin .append, args := #[s, x], argTypes := #[42, 42] })
    (base : Nat) (v : Value) (xs : List Int) (hs : a.eval s = v) (hown : OwI base w v xs) (hf : Full v) (ad : Addr) (z : Int) (c : Nat) (hx : a.eval x = .slice (some ad) 1 c)
    (hnews : ∀ j u, ([z].map (Value.int .i64))[j]? = some u → w.cell? (ad.add j) = some u) (hsz : xs.length + 1 ≤ 2000000) (hbase : base ≤ w.heap.size)
    (h : ∀ v' w', OwI base w' v' (xs ++ [z]) → w.grownBy w' none → (∀ g, v'.ownBlock = some g → w.heap.size ≤ g) → wpList Try.prog ops Q rest (a.put o.dst v') w') : wpList Try.prog ops Q (o :: rest) a w :=
  wpList_plain hgd fun _ hK => by
    obtain ⟨v', w', hr, h2, h3, h4⟩ := run_append_full base o.type hown hf ad c z hnews hsz hbase
    unfold Oper.wp execOp
    simp only [ho, resolve, invoke, builtin, Sem.run_bind, Sem.run_pure, Result.andThen_ok, List.map_toArray, List.map_cons, List.map_nil, hs, hx, hr]
    exact hK _ _ (h v' w' h2 h3 h4)

set_option maxHeartbeats 2000000 in
/-- Of a full row: what was there stands. -/
theorem withTens_full {base : Nat} {w : World} {v : Value} {xs : List Int} (h : OwI base w v xs) (hf : Full v) (hbase : base ≤ w.heap.size) (a : Option Addr) (cap : Nat) (zs : List Int) (hr : Row w a cap zs) (n : Nat) (hn : zs.length = n)
    (o : Nat) (ho : o + n ≤ 2000000) (hx : xs.length + n ≤ 2000000) :
    Calls Try.prog 21 #[v, .slice a n cap, .int .i64 o] w fun e w' => ∃ v', e = .returned v' ∧ OwI base w' v' (xs ++ endsF o zs) ∧ Below w.heap.size w w' ∧ Mine w v v' := by
  have HR : Hid (∀ w', Below w.heap.size w w' → ∀ k, k < n → ∃ b off, a = some ⟨b, off, none⟩ ∧ w'.cell? ⟨b, off + k, none⟩ = some (.int .u8 (zs.getD k 0))) := by
    intro w' hc k hk
    have hr' := hr.below hc
    obtain ⟨b, off, rfl⟩ := hr.some' (by omega)
    exact ⟨b, off, rfl, hr'.cells k (by omega)⟩
  have h2 := hr.2.2.1
  have h1 := hr.2.1
  unfold maxLen at h2
  rw [hn] at h1
  have HB : Hid (∀ i, 0 ≤ zs.getD i 0 ∧ zs.getD i 0 ≤ 255) := fun i => hr.1.at i
  have HN : Hid (zs.length = n) := hn
  have HO : Hid (OwI base w v xs) := h
  have HF : Hid (Full v) := hf
  clear hr hn h hf
  go_enter Try.func21, Try.ntmps21
  go_wp2
  go_loopw [0, 11] (fun row i wr => ∃ k : Nat, k ≤ n ∧ i = .int .i64 k ∧ OwI base wr row (xs ++ endsF o (zs.take k)) ∧ Below w.heap.size w wr ∧ (row = v ∨ ∀ g, row.ownBlock = some g → w.heap.size ≤ g)) (fun _ i _ => n - (intOf i).toNat)
  case atStart => exact ⟨0, Nat.zero_le _, rfl, by simpa [endsF] using HO.out, Below.refl _ _, .inl rfl⟩
  case round =>
    obtain ⟨k, hk, rfl, hown, hch, hmine⟩ := hrel
    by_cases hlt : k < n
    · have hsn : Hid _ := endsF_snoc o zs k (by rw [HN.out]; exact hlt)
      obtain ⟨b, off, rfl, hc⟩ := HR.out wr hch k hlt
      have hbb := HB.out k
      have hle : (endsF o (zs.take k)).length ≤ k := by
        rw [endsF_len]
        have := List.count_le_length (a := (10 : Int)) (l := zs.take k)
        rw [List.length_take] at this
        omega
      have HLE : Hid _ := hle
      clear hle
      by_cases e : zs.getD k 0 = 10
      · rw [e] at hc
        have HE : Hid (zs.getD k 0 = 10) := e
        clear e hbb
        have hcs := hch.size
        rcases hmine with rfl | hmine
        · go_wp2_with (at_builtin; refine append_full rfl _ _ rfl base _ _ rfl (hown.below ((Below.refl _ _).alloc (Nat.le_refl _) _)) HF.out ⟨wr.heap.size, 0, none⟩ ((o : Int) + k + 1) 1 rfl ?c2 ?c3 ?c4 ?_)
          case c2 => exact rowI_one _ _
          case c3 => have := HLE.out; rw [List.length_append]; omega
          case c4 => simp; omega
          intro v' w1 hown' hgrow hlt'
          have hch' := (hch.alloc hcs (.cells #[.int .i64 ((o : Int) + k + 1)] 3)).grown hgrow (by simp; omega) (by simp)
          have hm' : ∀ g, v'.ownBlock = some g → w.heap.size ≤ g := fun g hg => by have := hlt' g hg; omega
          clear hgrow hlt' hown hch hc
          go_wp2
          go_roundw
          case rel =>
            refine ⟨k + 1, by omega, by go_num, ?_, hch', .inr hm'⟩
            rw [hsn.out, HE.out, if_pos rfl]
            exact hown'
          case measure => simp [intOf]; omega
        · go_wp2_with (at_builtin; refine append_owI rfl _ _ rfl base _ _ rfl (hown.below ((Below.refl _ _).alloc (Nat.le_refl _) _)) ⟨wr.heap.size, 0, none⟩ [(o : Int) + k + 1] 1 1 rfl rfl ?c2 ?c3 ?c4 ?_)
          case c2 => exact rowI_one _ _
          case c3 => have := HLE.out; rw [List.length_append]; omega
          case c4 => simp; omega
          intro v' w1 hown' hgrow hlt'
          have hch' := (hch.alloc hcs (.cells #[.int .i64 ((o : Int) + k + 1)] 3)).grown hgrow (by simp; omega) (fun k hk => hmine k hk)
          have hm' : ∀ g, v'.ownBlock = some g → w.heap.size ≤ g := fun g hg => by
            rcases hlt' g hg with h | h
            · exact hmine g h
            · omega
          clear hgrow hlt' hown hch hmine hc
          go_wp2
          go_roundw
          case rel =>
            refine ⟨k + 1, by omega, by go_num, ?_, hch', .inr hm'⟩
            rw [hsn.out, HE.out, if_pos rfl]
            exact hown'
          case measure => simp [intOf]; omega
      · obtain ⟨c, hcc⟩ : ∃ c, zs.getD k 0 = c := ⟨_, rfl⟩
        have HE : Hid (zs.getD k 0 = c) := hcc
        rw [hcc] at hc hbb e
        have e' : (c == 10) = false := by simpa using e
        have H5 : Hid (c ≠ 10) := e
        clear e hcc
        go_wp2
        go_roundw
        case rel =>
          refine ⟨k + 1, by omega, by go_num, ?_, hch, hmine⟩
          rw [hsn.out, HE.out, if_neg H5.out, List.append_nil]
          exact hown
        case measure => simp [intOf]; omega
    · have hkn : k = n := by omega
      have ht : zs.take k = zs := List.take_of_length_le (by have := HN.out; omega)
      rw [ht] at hown
      clear ht
      go_wp2
      go_ret
      refine ⟨_, rfl, hown, hch, ?_⟩
      rcases hmine with rfl | hmine
      · exact Mine.refl _ _
      · exact fun g hg => .inr (hmine g hg)
end Go.Proofs.Ytehomchhflhmbaa.Oct
