/-
  The walks of octet.Put.
-/
import Derived.Test.YtbamdcjhcmogbaaCp
import Derived.Test.YtbamdcjhcmogbaaQb
import Derived.Test.YtbamdcjhcmogbaaQp
import Derived.Laws.CopyOwn
namespace Go.Proofs.Ytbamdcjhcmogbaa.Oct
open Go.RowKit

/-- Does x go into n bytes? -/
def fitB (n x : Int) : Bool := decide (0 ≤ x ∧ x ≤ 4611686018427387904 ∧ x < 256 ^ n.toNat)

theorem ret_bool {a b : Bool} (h : a = b) : Ending.returned (.bool a) = .returned (.bool b) := by rw [h]

theorem fit_eq {x : Int} (h0 : 0 ≤ x) (h2 : x ≤ 4611686018427387904) (n c : Int) (hc : c = 256 ^ n.toNat) (hp : 0 < c) : (x / c == 0) = fitB n x := by
  unfold fitB
  rw [← hc, Bool.eq_iff_iff]
  simp only [beq_iff_eq, decide_eq_true_eq]
  constructor
  · intro h
    refine ⟨h0, h2, ?_⟩
    have := Int.emod_lt_of_pos x hp
    have e := Int.mul_ediv_add_emod x c
    rw [h] at e
    omega
  · intro h
    exact Int.ediv_eq_zero_of_lt h0 h.2.2

theorem fit_no {n x : Int} (h : ¬ (0 ≤ x ∧ x ≤ 4611686018427387904)) : fitB n x = false := by
  unfold fitB
  simp only [decide_eq_false_iff_not]
  omega

set_option maxHeartbeats 1000000 in
theorem fits_any (n x : Int) (w : World) (h1 : 1 ≤ n) (h8 : n ≤ 8) (hx : x ≤ 9223372036854775807) :
    Calls Try.prog 44 #[.int .i64 n, .int .i64 x] w fun e w' => e = .returned (.bool (fitB n x)) ∧ w = w' := by
  by_cases h0 : 0 ≤ x
  · by_cases h2 : x ≤ 4611686018427387904
    · have : n = 1 ∨ n = 2 ∨ n = 3 ∨ n = 4 ∨ n = 5 ∨ n = 6 ∨ n = 7 ∨ n = 8 := by omega
      rcases this with rfl | rfl | rfl | rfl | rfl | rfl | rfl | rfl
      all_goals
        go_enter Try.func44, Try.ntmps44
        go_wp2
        go_ret
        exact ⟨ret_bool (fit_eq h0 h2 _ _ (by decide) (by decide)), rfl⟩
    · go_enter Try.func44, Try.ntmps44
      go_wp2
      go_ret
      exact ⟨ret_bool (fit_no (by omega)).symm, rfl⟩
  · go_enter Try.func44, Try.ntmps44
    go_wp2
    go_ret
    exact ⟨ret_bool (fit_no (by omega)).symm, rfl⟩

set_option maxHeartbeats 400000 in
theorem put_no (a : Option Addr) (len cap : Nat) (p n x : Int) (w : World) (hm : len ≤ maxLen) (hx : x ≤ 9223372036854775807) (hi : (insB len p n && fitB n x) = false) :
    Calls Try.prog 32 #[.slice a len cap, .int .i64 p, .int .i64 n, .int .i64 x] w fun e w' => e = .returned (.tuple #[.slice none 0 0, .bool false]) ∧ w = w' := by
  cases hi1 : insB len p n
  · clear hi
    go_enter Try.func32, Try.ntmps32
    go_wp2_with (go_at_call 40; refine (inside_any _ _ _ _ _ _ hm).mono ?_; rintro e w' ⟨rfl, rfl⟩)
    go_ret2
    exact ⟨rfl, rfl⟩
  · rw [hi1, Bool.true_and] at hi
    have hv := insB_yes hi1
    go_enter Try.func32, Try.ntmps32
    go_wp2_with (first | (go_at_call 40; refine (inside_any _ _ _ _ _ _ hm).mono ?_; rintro e w' ⟨rfl, rfl⟩) | (go_at_call 44; refine (fits_any _ _ _ hv.1 hv.2.1 hx).mono ?_; rintro e w' ⟨rfl, rfl⟩))
    go_ret2
    exact ⟨rfl, rfl⟩

theorem fit_yes {n X : Nat} (hX : X ≤ 4611686018427387904) (hXn : X < 256 ^ n) : fitB n X = true := by
  unfold fitB
  refine decide_eq_true ⟨by omega, by omega, ?_⟩
  rw [Int.toNat_natCast]
  have h : ((X : Nat) : Int) < ((256 ^ n : Nat) : Int) := Int.ofNat_lt.2 hXn
  rw [Int.natCast_pow] at h
  exact h

theorem made_cells {base g n : Nat} {w : World} {xs : List Value} (h : w.ownsRow base 5 1 (.slice (some ⟨g, 0, none⟩) n n) n xs) :
    ∃ cur : List Value, Hid (w.heap[g]? = some (.cells cur.toArray 5 (0, 0))) ∧ Hid (cur.length = n) := by
  obtain ⟨_, ⟨h', _⟩ | ⟨g', cap', cur, h', _, hg, _, _, hs, _⟩⟩ := h
  · simp at h'
  · simp only [Value.slice.injEq, Option.some.injEq, Addr.mk.injEq, and_true, true_and] at h'
    obtain ⟨rfl, rfl⟩ := h'
    exact ⟨cur.toList, show _ = _ by simpa using hg, show _ = _ by simpa using hs⟩

theorem own_of_cells {B g : Nat} {w : World} {cur : List Value} {zs : List Int} (hg : B ≤ g) (hm : zs.length ≤ maxLen) (hl : cur.length = zs.length)
    (h : w.heap[g]? = some (.cells (splice cur 0 (zs.map (Value.int .u8))).toArray 5 (0, 0))) : Own B w (.slice (some ⟨g, 0, none⟩) zs.length zs.length) zs := by
  have e : splice cur 0 (zs.map (Value.int .u8)) = zs.map (Value.int .u8) := by
    simp [splice]; omega
  rw [e] at h
  refine ⟨by simp, .inr ⟨g, zs.length, _, rfl, hg, h, Nat.le_refl _, hm, by simp, List.take_of_length_le (by simp)⟩⟩

theorem src_cells {w : World} {b off : Nat} {zs : List Int} (hz : ∀ i, i < zs.length → w.cell? ⟨b, off + i, none⟩ = some (.int .u8 (zs.getD i 0))) :
    ∀ j v, (zs.map (Value.int .u8))[j]? = some v → w.cell? ((⟨b, off, none⟩ : Addr).add j) = some v := by
  intro j v hj
  have hlt : j < zs.length := by
    have := (List.getElem?_eq_some_iff.1 hj).1
    simpa using this
  have e : (⟨b, off, none⟩ : Addr).add j = ⟨b, off + j, none⟩ := by simp [Addr.add]
  rw [e, hz j hlt, ← hj]
  simp [hlt]

set_option maxHeartbeats 1000000 in
set_option maxRecDepth 4000 in
theorem put_yes (b off cap : Nat) (zs : List Int) (p n X : Nat) (w : World) (hz : ∀ i, i < zs.length → w.cell? ⟨b, off + i, none⟩ = some (.int .u8 (zs.getD i 0))) (hl : zs.length ≤ cap) (hcap : cap ≤ maxLen) (hsz : zs.length ≤ 140737488355328) (h1 : 1 ≤ n) (h8 : n ≤ 8) (hp : p + n ≤ zs.length) (hX : X ≤ 4611686018427387904) (hXn : X < 256 ^ n) :
    Calls Try.prog 32 #[.slice (some ⟨b, off, none⟩) zs.length cap, .int .i64 p, .int .i64 n, .int .i64 X] w fun e w' => ∃ v, e = .returned (.tuple #[v, .bool true]) ∧ Own w.heap.size w' v (putL zs p n X) ∧ Below w.heap.size w w' := by
  obtain ⟨i0, hi0, hz0, hz1, hz2⟩ := info_parts info5
  have hi : insB zs.length p n = true := by simp [insB]; omega
  have hf : fitB n X = true := fit_yes hX hXn
  have hm : zs.length ≤ maxLen := by omega
  have hm' := hcap
  unfold maxLen at hm'
  clear hXn
  go_enter Try.func32, Try.ntmps32
  have HZ : Hid (∀ i, i < zs.length → w.cell? ⟨b, off + i, none⟩ = some (.int .u8 (zs.getD i 0))) := hz
  have hbl : b < w.heap.size := block_lt_of_cell (hz 0 (by omega))
  clear hz
  have hs1 : (Try.prog.info? 5).map (·.size) = some 1 := by rw [hi0]; simp [hz1]
  have HS1 : Hid ((Try.prog.info? 5).map (·.size) = some 1) := hs1
  clear hs1
  go_wp2_with (first | (go_at_call 40; refine (inside_any _ _ _ _ _ _ hm).mono ?_; rintro e w' ⟨rfl, rfl⟩) | (go_at_call 44; refine (fits_any _ _ _ (by omega) (by omega) (by omega)).mono ?_; rintro e w' ⟨rfl, rfl⟩) | (at_make; refine wpList_make_full _ rfl _ _ 27 rfl w.heap.size 5 i0 (.int .u8 0) 1 Try.underlying27 hi0 hz0 hz1 .i64 .i64 _ _ zs.length rfl rfl rfl rfl (by rw [hz2]; omega) hm (Nat.le_refl _) ?_; intro w1 hown1 hgrow1; obtain ⟨cur, hcur, hcl⟩ := made_cells hown1; have hbel1 : Below w.heap.size w w1 := (Below.refl w.heap.size w).grown hgrow1 (Nat.le_refl _) (by simp); clear hown1 hgrow1) | (refine wpList_copy_splice rfl (.tmp 26) (.tmp 27) 27 27 rfl 5 Try.underlying27 HS1.out _ _ _ _ _ _ rfl rfl w.heap.size 0 cur 5 hcur.out (zs.map (Value.int .u8)) (by simp) (fun _ => ⟨rfl, _, rfl, src_cells (fun i hi => (hbel1.cell (p := ⟨b, off + i, none⟩) hbl).trans (HZ.out i hi))⟩) (by rw [hcl.out]; simp) (ints_oneCell _ _) w.heap.size w hbel1 (Nat.le_refl _) ?_; intro w2 hcells hbel2))
  have hown2 := own_of_cells (Nat.le_refl _) hm hcl.out hcells.out
  clear hcells hcl hcur hbel1 HZ HS1
  go_loopw [3, 11] (fun x i wr => ∃ j : Nat, j ≤ n ∧ x = .int .i64 (X / 256 ^ j : Nat) ∧ i = .int .i64 (((p + n - j : Nat) : Int) - 1) ∧ Own w.heap.size wr (.slice (some ⟨w.heap.size, 0, none⟩) zs.length zs.length) (down zs p n X j) ∧ Below w.heap.size w wr) (fun _ i _ => (intOf i + 1 - p).toNat)
  case atStart => exact ⟨0, Nat.zero_le _, by simp, congrArg _ (by omega), by rw [down_zero]; exact hown2, hbel2⟩
  case round =>
    obtain ⟨j, hj, rfl, rfl, hown, hbel⟩ := hrel
    obtain ⟨y, hy⟩ : ∃ y, X / 256 ^ j = y := ⟨_, rfl⟩
    have hyX : y ≤ X := by rw [← hy]; exact Nat.div_le_self _ _
    rw [hy]
    have HY : Hid (X / 256 ^ j = y) := hy
    clear hy
    by_cases hlt : j < n
    · obtain ⟨m, hmm⟩ : ∃ m, p + n - j = m + 1 := ⟨p + n - j - 1, by omega⟩
      have hmp : p ≤ m := by omega
      have hml : m < zs.length := by omega
      have em : (((p + n - j : Nat) : Int) - 1) = (m : Int) := by omega
      rw [em]
      have HM : Hid (p + n - j = m + 1) := hmm
      clear em hmm
      obtain ⟨_, hc, hfr, hst⟩ := own_at' hown m (by rw [down_len]; exact hml)
      have hst' := hst ((y % 256 : Nat) : Int)
      have e : (down zs p n X j).set m ((y % 256 : Nat) : Int) = down zs p n X (j + 1) := by
        have := down_next zs p n X j hlt
        rw [HY.out] at this
        rw [show m = p + n - 1 - j from by have := HM.out; omega]
        exact this
      rw [e, show ((y % 256 : Nat) : Int) = (y : Int) % 256 from by omega] at hst'
      have HST : Hid (Own w.heap.size (wr.setCell ⟨w.heap.size, m, none⟩ (.int .u8 ((y : Int) % 256))) (.slice (some ⟨w.heap.size, 0, none⟩) zs.length zs.length) (down zs p n X (j + 1))) := hst'
      obtain ⟨c, hcc⟩ : ∃ c : Int, (down zs p n X j).getD m 0 = c := ⟨_, rfl⟩
      rw [hcc] at hc
      clear hst hst' e hown hcc
      go_wp2
      go_roundw
      case rel => exact ⟨j + 1, by omega, congrArg _ (by rw [Nat.pow_succ, ← Nat.div_div_eq_div_mul, HY.out]; omega), congrArg _ (by have := HM.out; omega), HST.out, hbel.setCell (Nat.le_refl _) _⟩
      case measure => simp [intOf]; omega
    · have hjn : j = n := by omega
      subst hjn
      rw [down_all] at hown
      go_wp2
      go_ret2
      exact ⟨_, rfl, hown, hbel⟩
end Go.Proofs.Ytbamdcjhcmogbaa.Oct
