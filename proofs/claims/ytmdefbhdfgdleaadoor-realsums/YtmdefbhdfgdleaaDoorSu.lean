/-
  Sum, Share and the document's Place.
-/
import Derived.Test.YtmdefbhdfgdleaaDoorRf
import Derived.Test.YtmdefbhdfgdleaaDoorPl
namespace Go.Proofs.YtmdefbhdfgdleaaDoor.Oct
open Go.RowKit
open Go.Proofs.YtmdefbhdfgdleaaDoor.Fl

/-- The sum up to the place k. -/
def sm (zs : List Nat) : Nat → Nat
  | 0 => zs.getD 0 0
  | k + 1 => add2 (sm zs k) (zs.getD (k + 1) 0)

theorem share_any (a b : Int) (w : World) : Calls Tryd.prog 11 #[.int .i64 a, .int .i64 b] w fun e w' => ∃ r, e = .returned (.float .f64 r) ∧ r < 2 ^ 64 ∧ nb r = nb (quo2 (floatOfInt .f64 a) (floatOfInt .f64 b)) ∧ Below w.heap.size w w' := by
  obtain ⟨r, w2, hb, hr, hn, hq⟩ := run_quo (floatOfInt .f64 a) (floatOfInt .f64 b) w
  have HB : Hid (Below w.heap.size w w2) := hb
  have HR : Hid (r < 2 ^ 64) := hr
  have HN : Hid (nb r = nb (quo2 (floatOfInt .f64 a) (floatOfInt .f64 b))) := hn
  clear hb hr hn
  go_enter Tryd.func11, Tryd.ntmps11
  go_wp2
  go_ret
  exact ⟨r, rfl, HR.out, HN.out, HB.out⟩

theorem refshare_any (a b : Int) (w : World) : Calls Tryd.prog 16 #[.int .i64 a, .int .i64 b] w fun e w' => ∃ r, e = .returned (.float .f64 r) ∧ r < 2 ^ 64 ∧ nb r = nb (quo2 (floatOfInt .f64 a) (floatOfInt .f64 b)) ∧ Below w.heap.size w w' := by
  obtain ⟨r, w2, hb, hr, hn, hq⟩ := run_quo (floatOfInt .f64 a) (floatOfInt .f64 b) w
  have HB : Hid (Below w.heap.size w w2) := hb
  have HR : Hid (r < 2 ^ 64) := hr
  have HN : Hid (nb r = nb (quo2 (floatOfInt .f64 a) (floatOfInt .f64 b))) := hn
  clear hb hr hn
  go_enter Tryd.func16, Tryd.ntmps16
  go_wp2
  go_ret
  exact ⟨r, rfl, HR.out, HN.out, HB.out⟩

theorem refsum_none (a : Option Addr) (cap : Nat) (w : World) : Calls Tryd.prog 15 #[.slice a 0 cap] w fun e w' => e = .returned (.float .f64 0) ∧ w = w' := by
  go_enter Tryd.func15, Tryd.ntmps15
  go_wp2
  go_ret
  exact ⟨rfl, rfl⟩

theorem sum_none (a : Option Addr) (cap : Nat) (w : World) : Calls Tryd.prog 14 #[.slice a 0 cap] w fun e w' => e = .returned (.float .f64 0) ∧ w = w' := by
  go_enter Tryd.func14, Tryd.ntmps14
  go_wp2
  go_ret
  exact ⟨rfl, rfl⟩

set_option maxHeartbeats 1000000 in
theorem refsum_some (a : Option Addr) (cap : Nat) (zs : List Nat) (w : World) (h : RowF w a cap zs) (hl : 0 < zs.length) :
    Calls Tryd.prog 15 #[.slice a zs.length cap] w fun e w' => ∃ r, e = .returned (.float .f64 r) ∧ r < 2 ^ 64 ∧ nb r = nb (sm zs (zs.length - 1)) ∧ Below w.heap.size w w' := by
  obtain ⟨h1, h2, h3, h4⟩ := h
  unfold maxLen at h3
  obtain ⟨b, off, rfl, hz⟩ := h4.resolve_left (by intro e; rw [e] at hl; exact absurd hl (by simp))
  have HZ : Hid (∀ i, i < zs.length → w.cell? ⟨b, off + i, none⟩ = some (.float .f64 (zs.getD i 0))) := hz
  have H1 : Hid (∀ n ∈ zs, n < 2 ^ 64) := h1
  have hc0 : w.cell? ⟨b, off, none⟩ = some (.float .f64 (zs.getD 0 0)) := hz 0 hl
  obtain ⟨z0, e0⟩ : ∃ z0, zs.getD 0 0 = z0 := ⟨_, rfl⟩
  rw [e0] at hc0
  have E0 : Hid (zs.getD 0 0 = z0) := e0
  clear h4 hz h1 e0
  go_enter Tryd.func15, Tryd.ntmps15
  go_wp2
  go_loopw [3, 4] (fun x i wr => ∃ (k r : Nat), k < zs.length ∧ i = .int .i64 ((k + 1 : Nat) : Int) ∧ x = .float .f64 r ∧ r < 2 ^ 64 ∧ Hid (nb r = nb (sm zs k)) ∧ Hid (Below w.heap.size w wr)) (fun _ i _ => zs.length - (intOf i).toNat)
  case atStart => exact ⟨0, z0, hl, rfl, rfl, by rw [← E0.out]; exact at_lt H1.out 0, congrArg nb E0.out.symm, Below.refl _ w⟩
  case round =>
    obtain ⟨k, r, hk, rfl, rfl, hr, hn, hb⟩ := hrel
    by_cases hlt : k + 1 < zs.length
    · have hc : wr.cell? ⟨b, off + (k + 1), none⟩ = some (.float .f64 (zs.getD (k + 1) 0)) := (hb.out.cell (p := ⟨b, off + (k + 1), none⟩) (block_lt_of_cell (HZ.out (k + 1) hlt))).trans (HZ.out (k + 1) hlt)
      obtain ⟨r', w2, hb2, hr2, hn2, hq⟩ := run_add r (sm zs k) (zs.getD (k + 1) 0) wr hn.out
      have HB2 : Hid (Below wr.heap.size wr w2) := hb2
      have HN2 : Hid (nb r' = nb (add2 (sm zs k) (zs.getD (k + 1) 0))) := hn2
      clear hb2 hn2
      generalize zs.getD (k + 1) 0 = z at hc hq
      go_wp2
      go_roundw
      case rel => exact ⟨k + 1, r', hlt, by go_num, rfl, hr2, HN2.out, hb.out.trans (HB2.out.mono hb.out.size)⟩
      case measure => simp [intOf]; omega
    · have he : k = zs.length - 1 := by omega
      go_wp2
      go_ret
      exact ⟨r, rfl, hr, by rw [← he]; exact hn.out, hb.out⟩

set_option maxHeartbeats 1000000 in
theorem sum_some (a : Option Addr) (cap : Nat) (zs : List Nat) (w : World) (h : RowF w a cap zs) (hl : 0 < zs.length) :
    Calls Tryd.prog 14 #[.slice a zs.length cap] w fun e w' => ∃ r, e = .returned (.float .f64 r) ∧ r < 2 ^ 64 ∧ nb r = nb (sm zs (zs.length - 1)) ∧ Below w.heap.size w w' := by
  obtain ⟨h1, h2, h3, h4⟩ := h
  unfold maxLen at h3
  obtain ⟨b, off, rfl, hz⟩ := h4.resolve_left (by intro e; rw [e] at hl; exact absurd hl (by simp))
  have HZ : Hid (∀ i, i < zs.length → w.cell? ⟨b, off + i, none⟩ = some (.float .f64 (zs.getD i 0))) := hz
  have H1 : Hid (∀ n ∈ zs, n < 2 ^ 64) := h1
  have hc0 : w.cell? ⟨b, off, none⟩ = some (.float .f64 (zs.getD 0 0)) := hz 0 hl
  obtain ⟨z0, e0⟩ : ∃ z0, zs.getD 0 0 = z0 := ⟨_, rfl⟩
  rw [e0] at hc0
  have E0 : Hid (zs.getD 0 0 = z0) := e0
  clear h4 hz h1 e0
  by_cases hcap : cap = 1
  · have hl1 : zs.length = 1 := by omega
    have HN1 : Hid (nb z0 = nb (sm zs 0) ∧ z0 < 2 ^ 64) := by
      exact ⟨congrArg nb E0.out.symm, by rw [← E0.out]; exact at_lt H1.out 0⟩
    rw [hl1]
    clear hl h2 hl1 HZ
    subst hcap
    go_enter Tryd.func14, Tryd.ntmps14
    go_wp2
    go_loop [3, 15] (fun x i => i = .int .i64 0 ∧ x = .float .f64 z0) (fun _ _ => 0)
    case atStart => exact ⟨rfl, rfl⟩
    case round =>
      obtain ⟨rfl, rfl⟩ := hrel
      go_wp2
      go_ret
      exact ⟨z0, rfl, HN1.out.2, HN1.out.1, Below.refl _ w⟩
  · go_enter Tryd.func14, Tryd.ntmps14
    go_wp2
    go_loopw [3, 15] (fun x i wr => ∃ (k r : Nat), k < zs.length ∧ i = .int .i64 (k : Int) ∧ x = .float .f64 r ∧ r < 2 ^ 64 ∧ Hid (nb r = nb (sm zs k)) ∧ Hid (Below w.heap.size w wr)) (fun _ i _ => zs.length - (intOf i).toNat)
    case atStart => exact ⟨0, z0, hl, rfl, rfl, by rw [← E0.out]; exact at_lt H1.out 0, congrArg nb E0.out.symm, Below.refl _ w⟩
    case round =>
      obtain ⟨k, r, hk, rfl, rfl, hr, hn, hb⟩ := hrel
      by_cases hlt : k + 1 < zs.length
      · have hc : wr.cell? ⟨b, off + (k + 1), none⟩ = some (.float .f64 (zs.getD (k + 1) 0)) := (hb.out.cell (p := ⟨b, off + (k + 1), none⟩) (block_lt_of_cell (HZ.out (k + 1) hlt))).trans (HZ.out (k + 1) hlt)
        have hc' : wr.cell? ⟨b, off + 1 + k, none⟩ = some (.float .f64 (zs.getD (k + 1) 0)) := by rw [← hc]; congr 2; omega
        clear hc
        obtain ⟨r', w2, hb2, hr2, hn2, hq⟩ := run_add r (sm zs k) (zs.getD (k + 1) 0) wr hn.out
        have HB2 : Hid (Below wr.heap.size wr w2) := hb2
        have HN2 : Hid (nb r' = nb (add2 (sm zs k) (zs.getD (k + 1) 0))) := hn2
        clear hb2 hn2
        generalize zs.getD (k + 1) 0 = z at hc' hq
        go_wp2
        go_roundw
        case rel => exact ⟨k + 1, r', hlt, by go_num, rfl, hr2, HN2.out, hb.out.trans (HB2.out.mono hb.out.size)⟩
        case measure => simp [intOf]; omega
      · have he : k = zs.length - 1 := by omega
        go_wp2
        go_ret
        exact ⟨r, rfl, hr, by rw [← he]; exact hn.out, hb.out⟩

/-- Floor of a number from 0 on. -/
theorem run_floor {x : Nat} (hx : x < 0x7ff0000000000000) (w : World) : (callFunc 31 #[.float .f64 x]).run Tryd.prog w = .ok (.value (.float .f64 (fi (wh x)))) w := by
  rw [run_callFunc_extern Tryd.func31 (by kernel_rfl) (by kernel_rfl) (by kernel_rfl) (e := Extern.MathFloor.toIntegral Tryd.f31.name .down) (by kernel_rfl) _ w]
  obtain ⟨m, k, h1, h2⟩ := floor_num hx
  have h3 : (Extern.MathFloor.toIntegral Tryd.f31.name .down #[.float .f64 x]).run Tryd.prog w = .ok (.float .f64 (fi (wh x))) w := by
    obtain ⟨g, hg⟩ : ∃ g, Extern.MathFloor.toIntegral Tryd.f31.name .down #[.float .f64 x] = Extern.MathFloor.toIntegral.match_1 (fun _ => Sem Value) (FloatKind.f64.decode x) g (fun d => pure (.float .f64 (FloatKind.f64.encode (d.integral .down)))) := ⟨_, rfl⟩
    rw [hg]
    rw [h1]
    show Result.ok (Value.float .f64 (FloatKind.f64.encode ((Ieee.Datum.number false m k).integral .down))) w = _
    rw [h2]
  rw [h3]; rfl

theorem floor_any {x : Nat} (hx : x < 0x7ff0000000000000) (w : World) : Calls Tryd.prog 23 #[.float .f64 x] w fun e w' => e = .returned (.float .f64 (fi (wh x))) ∧ w = w' := by
  have hf := run_floor hx w
  generalize fi (wh x) = y at *
  clear hx
  go_enter Tryd.func23, Tryd.ntmps23
  go_wp2
  go_ret
  exact ⟨rfl, rfl⟩

theorem refplace_in (a k y v : Nat) (w : World) (hs : (FloatKind.f64.format.order a a != some .eq) = false) (hz : (FloatKind.f64.format.order a 0 == some .lt || FloatKind.f64.format.order a 0 == some .eq) = false) (ho : (FloatKind.f64.format.order a 4607182418800017408 == some .gt || FloatKind.f64.format.order a 4607182418800017408 == some .eq) = false)
   (ht : (binOp .mul 22 (.float .f64 (floatOfInt .f64 (k : Int))) (.float .f64 a)).run Tryd.prog w = .ok (.float .f64 y) w)
   (hg : (FloatKind.f64.format.order y (floatOfInt .f64 (k : Int)) == some .gt || FloatKind.f64.format.order y (floatOfInt .f64 (k : Int)) == some .eq) = false)
   (hy : Hid (y < 0x7ff0000000000000)) (hv : Hid (v = wh y))
   (hw : (convert 22 3 (.float .f64 (fi v))).run Tryd.prog w = .ok (.int .i64 v) w) :
    Calls Tryd.prog 13 #[.float .f64 a, .int .i64 k] w fun e w' => e = .returned (.tuple #[.int .i64 v, .bool true]) ∧ w = w' := by
  go_enter Tryd.func13, Tryd.ntmps13
  go_wp2_with fail
  refine (floor_any hy.out _).mono ?_
  rw [← hv.out]
  rintro e w' ⟨rfl, rfl⟩
  go_wp2
  go_ret2
  exact ⟨rfl, rfl⟩

theorem refplace_top (a k y : Nat) (w : World) (hs : (FloatKind.f64.format.order a a != some .eq) = false) (hz : (FloatKind.f64.format.order a 0 == some .lt || FloatKind.f64.format.order a 0 == some .eq) = false) (ho : (FloatKind.f64.format.order a 4607182418800017408 == some .gt || FloatKind.f64.format.order a 4607182418800017408 == some .eq) = false)
   (ht : (binOp .mul 22 (.float .f64 (floatOfInt .f64 (k : Int))) (.float .f64 a)).run Tryd.prog w = .ok (.float .f64 y) w)
   (hg : (FloatKind.f64.format.order y (floatOfInt .f64 (k : Int)) == some .gt || FloatKind.f64.format.order y (floatOfInt .f64 (k : Int)) == some .eq) = true) :
    Calls Tryd.prog 13 #[.float .f64 a, .int .i64 k] w fun e w' => e = .returned (.tuple #[.int .i64 k, .bool true]) ∧ w = w' := by
  go_enter Tryd.func13, Tryd.ntmps13
  go_wp2
  go_ret2
  exact ⟨rfl, rfl⟩

theorem refplace_nan (a : Nat) (n : Int) (w : World) (hs : (FloatKind.f64.format.order a a != some .eq) = true) :
    Calls Tryd.prog 13 #[.float .f64 a, .int .i64 n] w fun e w' => e = .returned (.tuple #[.int .i64 0, .bool false]) ∧ w = w' := by
  go_enter Tryd.func13, Tryd.ntmps13
  go_wp2
  go_ret2
  exact ⟨rfl, rfl⟩

theorem refplace_neg (a : Nat) (n : Int) (w : World) (hs : (FloatKind.f64.format.order a a != some .eq) = false) (hn : n < 0) :
    Calls Tryd.prog 13 #[.float .f64 a, .int .i64 n] w fun e w' => e = .returned (.tuple #[.int .i64 0, .bool false]) ∧ w = w' := by
  go_enter Tryd.func13, Tryd.ntmps13
  go_wp2
  go_ret2
  exact ⟨rfl, rfl⟩

theorem refplace_low (a : Nat) (n : Int) (w : World) (hs : (FloatKind.f64.format.order a a != some .eq) = false) (hn : ¬ n < 0) (hz : (FloatKind.f64.format.order a 0 == some .lt || FloatKind.f64.format.order a 0 == some .eq) = true) :
    Calls Tryd.prog 13 #[.float .f64 a, .int .i64 n] w fun e w' => e = .returned (.tuple #[.int .i64 0, .bool true]) ∧ w = w' := by
  go_enter Tryd.func13, Tryd.ntmps13
  go_wp2
  go_ret2
  exact ⟨rfl, rfl⟩

theorem refplace_high (a : Nat) (n : Int) (w : World) (hs : (FloatKind.f64.format.order a a != some .eq) = false) (hn : ¬ n < 0) (hz : (FloatKind.f64.format.order a 0 == some .lt || FloatKind.f64.format.order a 0 == some .eq) = false) (ho : (FloatKind.f64.format.order a 4607182418800017408 == some .gt || FloatKind.f64.format.order a 4607182418800017408 == some .eq) = true) :
    Calls Tryd.prog 13 #[.float .f64 a, .int .i64 n] w fun e w' => e = .returned (.tuple #[.int .i64 n, .bool true]) ∧ w = w' := by
  go_enter Tryd.func13, Tryd.ntmps13
  go_wp2
  go_ret2
  exact ⟨rfl, rfl⟩

theorem refplace_any (a : Nat) (n : Int) (w : World) (ha : a < 2 ^ 64) (hn : n < 2 ^ 63) :
    Calls Tryd.prog 13 #[.float .f64 a, .int .i64 n] w fun e w' => e = .returned (.tuple #[.int .i64 (plc a n).1, .bool (plc a n).2]) ∧ w = w' := by
  have hs := ne_self a
  by_cases h1 : Nan a
  · have e : plc a n = (0, false) := by unfold plc; rw [if_pos (.inl h1)]
    rw [decide_eq_true h1] at hs
    rw [e]; exact refplace_nan a n w hs
  · rw [decide_eq_false h1] at hs
    by_cases h2 : n < 0
    · have e : plc a n = (0, false) := by unfold plc; rw [if_pos (.inr h2)]
      rw [e]; exact refplace_neg a n w hs h2
    · have hz := le_zero h1 ha
      have h12 : ¬ (Nan a ∨ n < 0) := by rintro (h | h); exact h1 h; exact h2 h
      by_cases h3 : 2 ^ 63 ≤ a ∨ a = 0
      · have e : plc a n = (0, true) := by unfold plc; rw [if_neg h12, if_pos h3]
        rw [decide_eq_true h3] at hz
        rw [e]; exact refplace_low a n w hs h2 hz
      · rw [decide_eq_false h3] at hz
        have ho := ge_one h1 (by omega)
        by_cases h4 : 0x3ff0000000000000 ≤ a
        · have e : plc a n = (n, true) := by unfold plc; rw [if_neg h12, if_neg h3, if_pos h4]
          rw [decide_eq_true h4] at ho
          rw [e]; exact refplace_high a n w hs h2 hz ho
        · obtain ⟨k, rfl⟩ : ∃ k : Nat, n = (k : Int) := ⟨n.toNat, by omega⟩
          have e : plc a (k : Int) = (((wh (pr a k) : Nat) : Int), true) := by unfold plc; rw [if_neg h12, if_neg h3, if_neg h4, Int.toNat_natCast]
          rw [e]
          rw [decide_eq_false h4] at ho
          have ht := run_times (a := a) (k := k) (by omega) (by omega) w
          have hp := pr_top (a := a) (k := k) (by omega) (by omega)
          have hk := fi_le (n := k) (by omega)
          have hg : (FloatKind.f64.format.order (pr a k) (floatOfInt .f64 (k : Int)) == some .gt || FloatKind.f64.format.order (pr a k) (floatOfInt .f64 (k : Int)) == some .eq) = decide (k = 0) := by
            rw [floatOfInt_nat, show FloatKind.f64.format = Ieee.double from rfl, gt_iff, eq_iff, sr_pos (b := pr a k) (by omega), sr_pos (b := fi k) (by omega), ← Bool.decide_or]
            refine decide_eq_decide.2 ?_
            have q1 : ¬ Nan (pr a k) := by rw [nan_iff]; omega
            have q2 : ¬ Nan (fi k) := by rw [nan_iff]; omega
            rcases Nat.eq_zero_or_pos k with h0 | h0
            · subst h0
              rw [pr_zero, fi_zero]
              exact ⟨fun _ => rfl, fun _ => .inr ⟨by decide, by decide, rfl⟩⟩
            · have := pr_lt (x := a) (n := k) (by omega) h0 (by omega)
              constructor
              · rintro (⟨_, _, h⟩ | ⟨_, _, h⟩) <;> omega
              · intro h; omega
          rcases Nat.eq_zero_or_pos k with h0 | h0
          · subst h0
            rw [decide_eq_true rfl] at hg
            rw [pr_zero] at ht hg ⊢
            rw [show wh 0 = 0 by unfold wh; rw [V_zero, Nat.zero_div]]
            exact refplace_top a 0 _ w hs hz ho ht hg
          · rw [decide_eq_false (by omega)] at hg
            have hv := pr_wh (x := a) (n := k) (by omega) (by omega)
            have hx := wh_exact (x := pr a k) (by omega)
            have hfi : fi (wh (pr a k)) < 0x7ff0000000000000 := by
              have := fi_le (n := wh (pr a k)) (by omega); omega
            have hw := run_whole (x := fi (wh (pr a k))) hfi (by rw [wh_whole (by omega)]; omega) w
            rw [wh_whole (by omega)] at hw
            exact refplace_in a k _ _ w hs hz ho ht hg (show pr a k < 0x7ff0000000000000 by omega) rfl hw

end Go.Proofs.YtmdefbhdfgdleaaDoor.Oct
