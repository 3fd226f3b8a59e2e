/-
  calc's reader: brackets, choices, factors.
-/
import Derived.Test.YtalifohnieclhaaGreatDoorCn
import Derived.Test.YtalifohnieclhaaGreatDoorPb
namespace Go.Proofs.YtalifohnieclhaaGreatDoor.Oct
open Go.RowKit
open Go.Proofs.YtalifohnieclhaaGreatDoor.Fl

set_option maxHeartbeats 1000000 in
theorem closed_any (n : Nat) (F : List UInt8 → Res) (hE : CT 67 n (pE F n)) : CT 149 n (cl F n) := by
  intro w p l a d h hl ha hd
  have he := hE w p l a d h hl ha hd
  clear hE h hl ha hd
  go_enter Tryz.func149, Tryz.ntmps149
  go_wp2_with fail
  refine he.mono ?_
  clear he
  rintro e w1 ⟨hb, ⟨q, x, hq, rfl, hx, hn, hr⟩ | ⟨hq, s, rfl⟩⟩
  · have HB : Hid (Below p w w1) := hb
    have HX : Hid (x < 2 ^ 64 ∧ nb x = q.1) := ⟨hx, hn⟩
    by_cases k : tk [41] q.2.1 = true
    · have HQ : Hid (cl F n l = some (q.1, go [41] q.2.1, q.2.2)) := by
        unfold Hid cl; rw [hq]; exact if_pos k
      have hnd := needs_yes _ _ _ _ _ _ hr k
      clear hb hx hn hr hq k
      go_wp2_with fail
      refine hnd.mono ?_
      clear hnd
      rintro e w2 ⟨rfl, hr2, hb2⟩
      have HB2 : Hid (Below p w w2) := HB.out.trans hb2
      have HR2 : Hid (Rs w2 p (go [41] q.2.1) a (max d (a + q.2.2))) := hr2
      clear hr2 hb2
      go_wp2
      go_ret
      exact ⟨HB2.out, .inl ⟨_, x, HQ.out, rfl, HX.out.1, HX.out.2, HR2.out⟩⟩
    · rw [Bool.not_eq_true] at k
      have HQ : Hid (cl F n l = none) := by
        unfold Hid cl; rw [hq]; exact if_neg (ne_t k)
      have hnd := needs_no _ _ _ _ _ _ hr k (by decide)
      clear hb hx hn hr hq k
      go_wp2_with fail
      refine hnd.mono ?_
      clear hnd
      rintro e w2 ⟨⟨s, rfl⟩, rfl⟩
      go_wp2
      exact ⟨rfl, HB.out, .inr ⟨HQ.out, s, rfl⟩⟩
  · have HB : Hid (Below p w w1) := hb
    have HQ : Hid (cl F n l = none) := by unfold Hid cl; rw [hq]; rfl
    clear hb hq
    go_wp2
    exact ⟨rfl, HB.out, .inr ⟨HQ.out, s, rfl⟩⟩

set_option maxHeartbeats 1000000 in
theorem choice_any (n : Nat) (F : List UInt8 → Res) (o : Int) (hS : Sh F) (hD : Dq F) (hE : CT 67 n (pE F n)) :
    ∀ w p l a d, Rs w p l a d → l.length ≤ n → a + l.length ≤ 10000 → d ≤ 10000 → Calls Tryz.prog 150 #[.pointer (some ⟨p, 0, none⟩), .int .i64 o] w (Ends p (ch F n o l) a d w) := by
  intro w p l a d h hl ha hd
  have hC := closed_any n F hE
  have HE : Hid (CT 67 n (pE F n)) := hE
  have HC : Hid (CT 149 n (cl F n)) := hC
  have HS : Hid (Sh (pE F n) ∧ Dq (pE F n) ∧ Sh (cl F n) ∧ Dq (cl F n)) := ⟨pE_len hS n, pE_dq hS hD n, cl_len hS n, cl_dq hS hD n⟩
  have HL : Hid (l.length ≤ n ∧ a + l.length ≤ 10000 ∧ d ≤ 10000) := ⟨hl, ha, hd⟩
  clear hE hC hS hD hl ha hd
  by_cases k : tk [40] l = true
  · have HQ : Hid (ch F n o l = (pE F n (go [40] l)).bind fun r => if tk [44] r.2.1 then (cl F n (go [44] r.2.1)).bind fun q => some (pick o r.1 q.1, q.2.1, max r.2.2 q.2.2) else none) := by
      unfold Hid ch; exact if_pos k
    have hnd := needs_yes _ _ _ _ _ _ h k
    have HG : Hid ((go [40] l).length < l.length) := go_len k (by simp)
    clear h k
    go_enter Tryz.func150, Tryz.ntmps150
    go_wp2_with fail
    refine hnd.mono ?_
    clear hnd
    rintro e w1 ⟨rfl, hr, hb⟩
    have HB1 : Hid (Below p w w1) := hb
    have he := HE.out w1 p _ a d hr (by have := HG.out; have := HL.out; omega) (by have := HG.out; have := HL.out; omega) (by have := HL.out; omega)
    clear hr hb
    go_wp2_with fail
    refine he.mono ?_
    clear he
    rintro e w2 ⟨hb, ⟨q, x, hq, rfl, hx, hn, hr⟩ | ⟨hq, s, rfl⟩⟩
    · have HB2 : Hid (Below p w w2) := HB1.out.trans hb
      have HX : Hid (x < 2 ^ 64 ∧ nb x = q.1) := ⟨hx, hn⟩
      have HG2 : Hid (q.2.1.length ≤ (go [40] l).length ∧ q.2.2 ≤ (go [40] l).length) := ⟨HS.out.1 _ _ hq, HS.out.2.1 _ _ hq⟩
      have HQ2 : Hid (ch F n o l = if tk [44] q.2.1 then (cl F n (go [44] q.2.1)).bind fun p => some (pick o q.1 p.1, p.2.1, max q.2.2 p.2.2) else none) := by
        unfold Hid; rw [HQ.out, hq]; rfl
      clear hb hx hn hq
      by_cases k : tk [44] q.2.1 = true
      · have hnd := needs_yes _ _ _ _ _ _ hr k
        have HG3 : Hid ((go [44] q.2.1).length < q.2.1.length) := go_len k (by simp)
        have HQ3 : Hid (ch F n o l = (cl F n (go [44] q.2.1)).bind fun p => some (pick o q.1 p.1, p.2.1, max q.2.2 p.2.2)) := by
          unfold Hid; rw [HQ2.out, if_pos k]
        clear hr k
        go_wp2_with fail
        refine hnd.mono ?_
        clear hnd
        rintro e w3 ⟨rfl, hr, hb⟩
        have HB3 : Hid (Below p w w3) := HB2.out.trans hb
        have hc := HC.out w3 p _ a _ hr (by have := HG.out; have := HL.out; have := HG2.out; have := HG3.out; omega) (by have := HG.out; have := HL.out; have := HG2.out; have := HG3.out; omega) (by have := HL.out; have := HG.out; have := HG2.out; omega)
        clear hr hb
        go_wp2_with fail
        refine hc.mono ?_
        clear hc
        rintro e w4 ⟨hb, ⟨q2, y, hq, rfl, hx, hn, hr⟩ | ⟨hq, s, rfl⟩⟩
        · have HB4 : Hid (Below p w w4) := HB3.out.trans hb
          have HY : Hid (y < 2 ^ 64 ∧ nb y = q2.1) := ⟨hx, hn⟩
          have HQ4 : Hid (ch F n o l = some (pick o q.1 q2.1, q2.2.1, max q.2.2 q2.2.2)) := by
            unfold Hid; rw [HQ3.out, hq]; rfl
          have HR4 : Hid (Rs w4 p q2.2.1 a (max (max d (a + q.2.2)) (a + q2.2.2))) := hr
          have hcmp := fun w => compare_any x y w HX.out.1 hx
          have HP : Hid (pick o q.1 q2.1 = if c3 (rk x) (rk y) = o then nb x else nb y) := by
            unfold Hid pick; rw [← HX.out.2, ← hn, rk_nb, rk_nb]
          generalize c3 (rk x) (rk y) = c at *
          clear hb hq hx hn hr
          by_cases hco : c = o
          · have HP2 : Hid (pick o q.1 q2.1 = nb x) := by unfold Hid; rw [HP.out, if_pos hco]
            subst hco
            go_wp2_with (go_at_call 12; refine (hcmp _).mono ?_; rintro e w' ⟨rfl, rfl⟩)
            go_ret
            refine ⟨HB4.out, .inl ⟨_, x, HQ4.out, rfl, HX.out.1, HP2.out.symm, ?_⟩⟩
            have h7 := HR4.out
            rw [show max (max d (a + q.2.2)) (a + q2.2.2) = max d (a + max q.2.2 q2.2.2) by omega] at h7
            exact h7
          · have HP2 : Hid (pick o q.1 q2.1 = nb y) := by unfold Hid; rw [HP.out, if_neg hco]
            have hco2 : (c == o) = false := by simpa using hco
            go_wp2_with (go_at_call 12; refine (hcmp _).mono ?_; rintro e w' ⟨rfl, rfl⟩)
            go_ret
            refine ⟨HB4.out, .inl ⟨_, y, HQ4.out, rfl, HY.out.1, HP2.out.symm, ?_⟩⟩
            have h7 := HR4.out
            rw [show max (max d (a + q.2.2)) (a + q2.2.2) = max d (a + max q.2.2 q2.2.2) by omega] at h7
            exact h7
        · have HB4 : Hid (Below p w w4) := HB3.out.trans hb
          have HQ4 : Hid (ch F n o l = none) := by unfold Hid; rw [HQ3.out, hq]; rfl
          clear hb hq
          go_wp2
          exact ⟨rfl, HB4.out, .inr ⟨HQ4.out, s, rfl⟩⟩
      · rw [Bool.not_eq_true] at k
        have hnd := needs_no _ _ _ _ _ _ hr k (by decide)
        have HQ3 : Hid (ch F n o l = none) := by unfold Hid; rw [HQ2.out, if_neg (ne_t k)]
        clear hr k
        go_wp2_with fail
        refine hnd.mono ?_
        clear hnd
        rintro e w3 ⟨⟨s, rfl⟩, rfl⟩
        go_wp2
        exact ⟨rfl, HB2.out, .inr ⟨HQ3.out, s, rfl⟩⟩
    · have HB2 : Hid (Below p w w2) := HB1.out.trans hb
      have HQ2 : Hid (ch F n o l = none) := by unfold Hid; rw [HQ.out, hq]; rfl
      clear hb hq
      go_wp2
      exact ⟨rfl, HB2.out, .inr ⟨HQ2.out, s, rfl⟩⟩
  · rw [Bool.not_eq_true] at k
    have hnd := needs_no _ _ _ _ _ _ h k (by decide)
    have HQ : Hid (ch F n o l = none) := by unfold Hid ch; exact if_neg (ne_t k)
    clear h k
    go_enter Tryz.func150, Tryz.ntmps150
    go_wp2_with fail
    refine hnd.mono ?_
    clear hnd
    rintro e w1 ⟨⟨s, rfl⟩, rfl⟩
    go_wp2
    exact ⟨rfl, Below.refl _ _, .inr ⟨HQ.out, s, rfl⟩⟩

end Go.Proofs.YtalifohnieclhaaGreatDoor.Oct
