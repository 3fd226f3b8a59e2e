/-
  calc's reader: factors, whole texts.
-/
import Derived.Test.YtalifohnieclhaaGreatDoorCc
namespace Go.Proofs.YtalifohnieclhaaGreatDoor.Oct
open Go.RowKit
open Go.Proofs.YtalifohnieclhaaGreatDoor.Fl

/-- What a bare factor ends in: it stands within a factors, the reader counts one more. -/
def EndB (p : Nat) (r : Res) (a d : Nat) (w : World) (e : Ending) (w' : World) : Prop :=
  Below p w w' ∧ ((∃ q x, r = some q ∧ e = .returned (.float .f64 x) ∧ x < 2 ^ 64 ∧ nb x = q.1 ∧ Rs w' p q.2.1 (a + 1) (max d (a + q.2.2))) ∨ (r = none ∧ Pn e))

theorem nb_a : nb 9221120237041090561 = 0x7ff8000000000001 := by decide +kernel
theorem nb_b : nb 9218868437227405312 = 0x7ff0000000000000 := by decide +kernel

theorem neg_run (x : Nat) (w : World) : (Op.unary .neg (.float .f64 x)).run Tryz.prog w = .ok (.float .f64 (Op.negFloat .f64 x)) w := rfl

set_option maxHeartbeats 4000000 in
theorem bare_any (n : Nat) (hF : CT 111 n (pF n)) :
    ∀ w p l a d, Rs w p l (a + 1) d → l.length ≤ n → a + l.length ≤ 10000 → d ≤ 10000 → a ≤ d → Calls Tryz.prog 129 #[.pointer (some ⟨p, 0, none⟩)] w (EndB p (pF (n + 1) l) a d w) := by
  intro w p l a d h hl ha hd had
  have hE := expr_any n (pF n) (pF_len n) (pF_dq n) hF
  have HF : Hid (CT 111 n (pF n)) := hF
  have HC : Hid (CT 149 n (cl (pF n) n)) := closed_any n _ hE
  have HH : Hid (∀ o, ∀ w p l a d, Rs w p l a d → l.length ≤ n → a + l.length ≤ 10000 → d ≤ 10000 → Calls Tryz.prog 150 #[.pointer (some ⟨p, 0, none⟩), .int .i64 o] w (Ends p (ch (pF n) n o l) a d w)) := fun o => choice_any n _ o (pF_len n) (pF_dq n) hE
  have HR : Hid (Rs w p l (a + 1) d) := h
  have HL : Hid (l.length ≤ n ∧ a + l.length ≤ 10000 ∧ d ≤ 10000 ∧ a ≤ d) := ⟨hl, ha, hd, had⟩
  clear hE hF h hl ha hd had
  go_enter Tryz.func129, Tryz.ntmps129
  go_wp2_with fail
  by_cases k : tk [45] l = true
  · refine (takes_yes _ _ _ _ _ _ HR.out k).mono ?_
    rintro e w1 ⟨rfl, hr, hb⟩
    have HB1 : Hid (Below p w w1) := hb
    have HG : Hid ((go [45] l).length < l.length) := go_len k (by simp)
    have HQ : Hid (pF (n + 1) l = dp ((pF n (go [45] l)).bind fun r => some (negN r.1, r.2.1, r.2.2))) := by
      unfold Hid; rw [pF, if_pos k]
    have hf := HF.out w1 p _ (a + 1) d hr (by have := HG.out; have := HL.out; omega) (by have := HG.out; have := HL.out; omega) (by have := HL.out; omega)
    clear hr hb k
    go_wp2_with fail
    refine hf.mono ?_
    clear hf
    rintro e w2 ⟨hb, ⟨q, x, hq, rfl, hx, hn, hr⟩ | ⟨hq, s, rfl⟩⟩
    · have HB2 : Hid (Below p w w2) := HB1.out.trans hb
      have HX : Hid (Op.negFloat .f64 x < 2 ^ 64 ∧ nb (Op.negFloat .f64 x) = negN q.1) := by have := neg_val hx; rw [hn] at this; exact this
      have HQ2 : Hid (pF (n + 1) l = some (negN q.1, q.2.1, q.2.2 + 1)) := by unfold Hid; rw [HQ.out, hq]; rfl
      have HR2 : Hid (Rs w2 p q.2.1 (a + 1) (max d (a + (q.2.2 + 1)))) := by
        rw [show a + 1 + q.2.2 = a + (q.2.2 + 1) by omega] at hr; exact hr
      have hng := neg_run x w2
      generalize Op.negFloat .f64 x = y at *
      clear hb hq hx hn hr
      go_wp2
      go_ret
      exact ⟨HB2.out, .inl ⟨_, y, HQ2.out, rfl, HX.out.1, HX.out.2, HR2.out⟩⟩
    · have HB2 : Hid (Below p w w2) := HB1.out.trans hb
      have HQ2 : Hid (pF (n + 1) l = none) := by unfold Hid; rw [HQ.out, hq]; rfl
      clear hb hq
      go_wp2
      exact ⟨rfl, HB2.out, .inr ⟨HQ2.out, s, rfl⟩⟩
  rw [Bool.not_eq_true] at k
  have K1 : Hid (tk [45] l = false) := k
  clear k
  refine (takes_no _ _ _ _ _ _ HR.out K1.out).mono ?_
  rintro e w1 ⟨rfl, rfl⟩
  go_wp2_with fail
  by_cases k : tk [40] l = true
  · refine (takes_yes _ _ _ _ _ _ HR.out k).mono ?_
    rintro e w1 ⟨rfl, hr, hb⟩
    have HB1 : Hid (Below p w w1) := hb
    have HG : Hid ((go [40] l).length < l.length) := go_len k (by simp)
    have HQ : Hid (pF (n + 1) l = dp (cl (pF n) n (go [40] l))) := by
      unfold Hid; rw [pF, if_neg (ne_t K1.out), if_pos k]
    have hf := HC.out w1 p _ (a + 1) d hr (by have := HG.out; have := HL.out; omega) (by have := HG.out; have := HL.out; omega) (by have := HL.out; omega)
    clear hr hb k
    go_wp2_with fail
    refine hf.mono ?_
    clear hf
    rintro e w2 ⟨hb, ⟨q, x, hq, rfl, hx, hn, hr⟩ | ⟨hq, s, rfl⟩⟩
    · have HB2 : Hid (Below p w w2) := HB1.out.trans hb
      have HX : Hid (x < 2 ^ 64 ∧ nb x = q.1) := ⟨hx, hn⟩
      have HQ2 : Hid (pF (n + 1) l = some (q.1, q.2.1, q.2.2 + 1)) := by unfold Hid; rw [HQ.out, hq]; rfl
      have HR2 : Hid (Rs w2 p q.2.1 (a + 1) (max d (a + (q.2.2 + 1)))) := by
        rw [show a + 1 + q.2.2 = a + (q.2.2 + 1) by omega] at hr; exact hr
      clear hb hq hx hn hr
      go_wp2
      go_ret
      exact ⟨HB2.out, .inl ⟨_, x, HQ2.out, rfl, HX.out.1, HX.out.2, HR2.out⟩⟩
    · have HB2 : Hid (Below p w w2) := HB1.out.trans hb
      have HQ2 : Hid (pF (n + 1) l = none) := by unfold Hid; rw [HQ.out, hq]; rfl
      clear hb hq
      go_wp2
      exact ⟨rfl, HB2.out, .inr ⟨HQ2.out, s, rfl⟩⟩
  rw [Bool.not_eq_true] at k
  have K2 : Hid (tk [40] l = false) := k
  clear k
  refine (takes_no _ _ _ _ _ _ HR.out K2.out).mono ?_
  rintro e w1 ⟨rfl, rfl⟩
  go_wp2_with fail
  by_cases k : tk [109, 105, 110] l = true
  · refine (takes_yes _ _ _ _ _ _ HR.out k).mono ?_
    rintro e w1 ⟨rfl, hr, hb⟩
    have HB1 : Hid (Below p w w1) := hb
    have HG : Hid ((go [109, 105, 110] l).length < l.length) := go_len k (by simp)
    have HQ : Hid (pF (n + 1) l = dp (ch (pF n) n (-1) (go [109, 105, 110] l))) := by
      unfold Hid; rw [pF, if_neg (ne_t K1.out), if_neg (ne_t K2.out), if_pos k]
    have hf := HH.out (-1) w1 p _ (a + 1) d hr (by have := HG.out; have := HL.out; omega) (by have := HG.out; have := HL.out; omega) (by have := HL.out; omega)
    clear hr hb k
    go_wp2_with fail
    refine hf.mono ?_
    clear hf
    rintro e w2 ⟨hb, ⟨q, x, hq, rfl, hx, hn, hr⟩ | ⟨hq, s, rfl⟩⟩
    · have HB2 : Hid (Below p w w2) := HB1.out.trans hb
      have HX : Hid (x < 2 ^ 64 ∧ nb x = q.1) := ⟨hx, hn⟩
      have HQ2 : Hid (pF (n + 1) l = some (q.1, q.2.1, q.2.2 + 1)) := by unfold Hid; rw [HQ.out, hq]; rfl
      have HR2 : Hid (Rs w2 p q.2.1 (a + 1) (max d (a + (q.2.2 + 1)))) := by
        rw [show a + 1 + q.2.2 = a + (q.2.2 + 1) by omega] at hr; exact hr
      clear hb hq hx hn hr
      go_wp2
      go_ret
      exact ⟨HB2.out, .inl ⟨_, x, HQ2.out, rfl, HX.out.1, HX.out.2, HR2.out⟩⟩
    · have HB2 : Hid (Below p w w2) := HB1.out.trans hb
      have HQ2 : Hid (pF (n + 1) l = none) := by unfold Hid; rw [HQ.out, hq]; rfl
      clear hb hq
      go_wp2
      exact ⟨rfl, HB2.out, .inr ⟨HQ2.out, s, rfl⟩⟩
  rw [Bool.not_eq_true] at k
  have K3 : Hid (tk [109, 105, 110] l = false) := k
  clear k
  refine (takes_no _ _ _ _ _ _ HR.out K3.out).mono ?_
  rintro e w1 ⟨rfl, rfl⟩
  go_wp2_with fail
  by_cases k : tk [109, 97, 120] l = true
  · refine (takes_yes _ _ _ _ _ _ HR.out k).mono ?_
    rintro e w1 ⟨rfl, hr, hb⟩
    have HB1 : Hid (Below p w w1) := hb
    have HG : Hid ((go [109, 97, 120] l).length < l.length) := go_len k (by simp)
    have HQ : Hid (pF (n + 1) l = dp (ch (pF n) n 1 (go [109, 97, 120] l))) := by
      unfold Hid; rw [pF, if_neg (ne_t K1.out), if_neg (ne_t K2.out), if_neg (ne_t K3.out), if_pos k]
    have hf := HH.out 1 w1 p _ (a + 1) d hr (by have := HG.out; have := HL.out; omega) (by have := HG.out; have := HL.out; omega) (by have := HL.out; omega)
    clear hr hb k
    go_wp2_with fail
    refine hf.mono ?_
    clear hf
    rintro e w2 ⟨hb, ⟨q, x, hq, rfl, hx, hn, hr⟩ | ⟨hq, s, rfl⟩⟩
    · have HB2 : Hid (Below p w w2) := HB1.out.trans hb
      have HX : Hid (x < 2 ^ 64 ∧ nb x = q.1) := ⟨hx, hn⟩
      have HQ2 : Hid (pF (n + 1) l = some (q.1, q.2.1, q.2.2 + 1)) := by unfold Hid; rw [HQ.out, hq]; rfl
      have HR2 : Hid (Rs w2 p q.2.1 (a + 1) (max d (a + (q.2.2 + 1)))) := by
        rw [show a + 1 + q.2.2 = a + (q.2.2 + 1) by omega] at hr; exact hr
      clear hb hq hx hn hr
      go_wp2
      go_ret
      exact ⟨HB2.out, .inl ⟨_, x, HQ2.out, rfl, HX.out.1, HX.out.2, HR2.out⟩⟩
    · have HB2 : Hid (Below p w w2) := HB1.out.trans hb
      have HQ2 : Hid (pF (n + 1) l = none) := by unfold Hid; rw [HQ.out, hq]; rfl
      clear hb hq
      go_wp2
      exact ⟨rfl, HB2.out, .inr ⟨HQ2.out, s, rfl⟩⟩
  rw [Bool.not_eq_true] at k
  have K4 : Hid (tk [109, 97, 120] l = false) := k
  clear k
  refine (takes_no _ _ _ _ _ _ HR.out K4.out).mono ?_
  rintro e w1 ⟨rfl, rfl⟩
  go_wp2_with fail
  by_cases k : tk [97, 98, 115] l = true
  · refine (takes_yes _ _ _ _ _ _ HR.out k).mono ?_
    rintro e w1 ⟨rfl, hr, hb⟩
    have HB1 : Hid (Below p w w1) := hb
    have HG : Hid ((go [97, 98, 115] l).length < l.length) := go_len k (by simp)
    have HQ : Hid (pF (n + 1) l = dp (ab (pF n) n (go [97, 98, 115] l))) := by
      unfold Hid; rw [pF, if_neg (ne_t K1.out), if_neg (ne_t K2.out), if_neg (ne_t K3.out), if_neg (ne_t K4.out), if_pos k]
    clear hb k
    by_cases k : tk [40] (go [97, 98, 115] l) = true
    · have hnd := needs_yes _ _ _ _ _ _ hr k
      have HG2 : Hid ((go [40] (go [97, 98, 115] l)).length < (go [97, 98, 115] l).length) := go_len k (by simp)
      have HQ2 : Hid (pF (n + 1) l = dp ((cl (pF n) n (go [40] (go [97, 98, 115] l))).bind fun q => some (absN q.1, q.2.1, q.2.2))) := by
        unfold Hid; rw [HQ.out]; unfold ab; rw [if_pos k]
      clear hr k
      go_wp2_with fail
      refine hnd.mono ?_
      clear hnd
      rintro e w2 ⟨rfl, hr, hb⟩
      have HB2 : Hid (Below p w w2) := HB1.out.trans hb
      have hf := HC.out w2 p _ (a + 1) d hr (by have := HG.out; have := HG2.out; have := HL.out; omega) (by have := HG.out; have := HG2.out; have := HL.out; omega) (by have := HL.out; omega)
      clear hr hb
      go_wp2_with fail
      refine hf.mono ?_
      clear hf
      rintro e w3 ⟨hb, ⟨q, x, hq, rfl, hx, hn, hr⟩ | ⟨hq, s, rfl⟩⟩
      · have HB3 : Hid (Below p w w3) := HB2.out.trans hb
        have habs := fun w => abs_any x w hx
        have HX : Hid (x % 2 ^ 63 < 2 ^ 64 ∧ nb (x % 2 ^ 63) = absN q.1) := ⟨by omega, by rw [← hn]; exact abs_val x⟩
        have HQ3 : Hid (pF (n + 1) l = some (absN q.1, q.2.1, q.2.2 + 1)) := by unfold Hid; rw [HQ2.out, hq]; rfl
        have HR3 : Hid (Rs w3 p q.2.1 (a + 1) (max d (a + (q.2.2 + 1)))) := by
          rw [show a + 1 + q.2.2 = a + (q.2.2 + 1) by omega] at hr; exact hr
        generalize x % 2 ^ 63 = y at *
        clear hb hq hx hn hr
        go_wp2_with (go_at_call 38; refine (habs _).mono ?_; rintro e w' ⟨rfl, rfl⟩)
        go_ret
        exact ⟨HB3.out, .inl ⟨_, y, HQ3.out, rfl, HX.out.1, HX.out.2, HR3.out⟩⟩
      · have HB3 : Hid (Below p w w3) := HB2.out.trans hb
        have HQ3 : Hid (pF (n + 1) l = none) := by unfold Hid; rw [HQ2.out, hq]; rfl
        clear hb hq
        go_wp2
        exact ⟨rfl, HB3.out, .inr ⟨HQ3.out, s, rfl⟩⟩
    · rw [Bool.not_eq_true] at k
      have hnd := needs_no _ _ _ _ _ _ hr k (by decide)
      have HQ2 : Hid (pF (n + 1) l = none) := by unfold Hid; rw [HQ.out]; unfold ab; rw [if_neg (ne_t k)]; rfl
      clear hr k
      go_wp2_with fail
      refine hnd.mono ?_
      clear hnd
      rintro e w2 ⟨⟨s, rfl⟩, rfl⟩
      go_wp2
      exact ⟨rfl, HB1.out, .inr ⟨HQ2.out, s, rfl⟩⟩
  rw [Bool.not_eq_true] at k
  have K5 : Hid (tk [97, 98, 115] l = false) := k
  clear k
  refine (takes_no _ _ _ _ _ _ HR.out K5.out).mono ?_
  rintro e w1 ⟨rfl, rfl⟩
  go_wp2_with fail
  by_cases k : tk [110, 97, 110] l = true
  · refine (takes_yes _ _ _ _ _ _ HR.out k).mono ?_
    rintro e w1 ⟨rfl, hr, hb⟩
    have HB1 : Hid (Below p w w1) := hb
    have HG : Hid ((go [110, 97, 110] l).length < l.length) := go_len k (by simp)
    have HQ : Hid (pF (n + 1) l = some (0x7ff8000000000001, go [110, 97, 110] l, 0)) := by
      unfold Hid; rw [pF, if_neg (ne_t K1.out), if_neg (ne_t K2.out), if_neg (ne_t K3.out), if_neg (ne_t K4.out), if_neg (ne_t K5.out), if_pos k]
    have HR2 : Hid (Rs w1 p (go [110, 97, 110] l) (a + 1) (max d (a + 0))) := by
      have := HL.out
      rw [show max d (a + 0) = d by omega]; exact hr
    clear hr hb k
    go_wp2_with (go_at_call 24; refine (nan_any _).mono ?_; rintro e w' ⟨rfl, rfl⟩)
    go_ret
    exact ⟨HB1.out, .inl ⟨_, 9221120237041090561, HQ.out, rfl, by decide, nb_a, HR2.out⟩⟩
  rw [Bool.not_eq_true] at k
  have K6 : Hid (tk [110, 97, 110] l = false) := k
  clear k
  refine (takes_no _ _ _ _ _ _ HR.out K6.out).mono ?_
  rintro e w1 ⟨rfl, rfl⟩
  go_wp2_with fail
  by_cases k : tk [105, 110, 102] l = true
  · refine (takes_yes _ _ _ _ _ _ HR.out k).mono ?_
    rintro e w1 ⟨rfl, hr, hb⟩
    have HB1 : Hid (Below p w w1) := hb
    have HG : Hid ((go [105, 110, 102] l).length < l.length) := go_len k (by simp)
    have HQ : Hid (pF (n + 1) l = some (0x7ff0000000000000, go [105, 110, 102] l, 0)) := by
      unfold Hid; rw [pF, if_neg (ne_t K1.out), if_neg (ne_t K2.out), if_neg (ne_t K3.out), if_neg (ne_t K4.out), if_neg (ne_t K5.out), if_neg (ne_t K6.out), if_pos k]
    have HR2 : Hid (Rs w1 p (go [105, 110, 102] l) (a + 1) (max d (a + 0))) := by
      have := HL.out
      rw [show max d (a + 0) = d by omega]; exact hr
    clear hr hb k
    go_wp2_with (go_at_call 25; refine (inf_any _).mono ?_; rintro e w' ⟨rfl, rfl⟩)
    go_ret
    exact ⟨HB1.out, .inl ⟨_, 9218868437227405312, HQ.out, rfl, by decide, nb_b, HR2.out⟩⟩
  rw [Bool.not_eq_true] at k
  have K7 : Hid (tk [105, 110, 102] l = false) := k
  clear k
  refine (takes_no _ _ _ _ _ _ HR.out K7.out).mono ?_
  rintro e w1 ⟨rfl, rfl⟩
  go_wp2_with fail
  refine (numb_any _ _ _ _ _ HR.out (by have := HL.out; omega)).mono ?_
  rintro e w1 ⟨hb, ⟨v, x, hq, rfl, hx, hn, hr⟩ | ⟨hq, s, rfl⟩⟩
  · have HB : Hid (Below p w w1) := hb
    have HX : Hid (x < 2 ^ 64 ∧ nb x = v) := ⟨hx, hn⟩
    have HQ : Hid (pF (n + 1) l = some (v, tb (l.dropWhile nc), 0)) := by
      unfold Hid; rw [pF, if_neg (ne_t K1.out), if_neg (ne_t K2.out), if_neg (ne_t K3.out), if_neg (ne_t K4.out), if_neg (ne_t K5.out), if_neg (ne_t K6.out), if_neg (ne_t K7.out), hq]; rfl
    have HR2 : Hid (Rs w1 p (tb (l.dropWhile nc)) (a + 1) (max d (a + 0))) := by
      have := HL.out
      rw [show max d (a + 0) = d by omega]; exact hr
    clear hb hq hx hn hr
    go_wp2
    go_ret
    exact ⟨HB.out, .inl ⟨_, x, HQ.out, rfl, HX.out.1, HX.out.2, HR2.out⟩⟩
  · have HB : Hid (Below p w w1) := hb
    have HQ : Hid (pF (n + 1) l = none) := by
      unfold Hid; rw [pF, if_neg (ne_t K1.out), if_neg (ne_t K2.out), if_neg (ne_t K3.out), if_neg (ne_t K4.out), if_neg (ne_t K5.out), if_neg (ne_t K6.out), if_neg (ne_t K7.out), hq]; rfl
    clear hb hq
    go_wp2
    exact ⟨rfl, HB.out, .inr ⟨HQ.out, s, rfl⟩⟩

end Go.Proofs.YtalifohnieclhaaGreatDoor.Oct
