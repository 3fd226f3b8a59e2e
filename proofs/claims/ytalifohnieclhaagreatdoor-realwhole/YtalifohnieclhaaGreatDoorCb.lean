/-
  calc's reader: terms, expressions.
-/
import Derived.Test.YtalifohnieclhaaGreatDoorCa
namespace Go.Proofs.YtalifohnieclhaaGreatDoor.Oct
open Go.RowKit
open Go.Proofs.YtalifohnieclhaaGreatDoor.Fl

/-- What a method of the reader ends in. -/
def Ends (p : Nat) (r : Res) (a d : Nat) (w : World) (e : Ending) (w' : World) : Prop :=
  Below p w w' ∧ ((∃ q x, r = some q ∧ e = .returned (.float .f64 x) ∧ x < 2 ^ 64 ∧ nb x = q.1 ∧ Rs w' p q.2.1 a (max d (a + q.2.2))) ∨ (r = none ∧ Pn e))

/-- A method that reads as R says. -/
def CT (f : FuncId) (n : Nat) (R : List UInt8 → Res) : Prop :=
  ∀ w p l a d, Rs w p l a d → l.length < n → a + l.length ≤ 10000 → d ≤ 10000 → Calls Tryz.prog f #[.pointer (some ⟨p, 0, none⟩)] w (Ends p (R l) a d w)

/-- How long the text is that a reader has left. -/
def left (w : World) (p : Nat) : Nat := match w.cell? ⟨p, 0, none⟩ with | some (.string s) => s.size | _ => 0

theorem Rs.left {w : World} {p : Nat} {l : List UInt8} {a d : Nat} (h : Rs w p l a d) : left w p = l.length := by
  unfold Go.Proofs.YtalifohnieclhaaGreatDoor.Oct.left; rw [h.c0]; rfl

set_option maxHeartbeats 2000000 in
theorem term_any (n : Nat) (F : List UInt8 → Res) (hS : Sh F) (hD : Dq F) (hF : CT 111 n F) : CT 89 n (pT F n) := by
  intro w p l a d h hl ha hd
  have hf := hF w p l a d h hl ha hd
  have HF : Hid (CT 111 n F) := hF
  have HS : Hid (Sh F) := hS
  have HD : Hid (Dq F) := hD
  have HL : Hid (l.length < n ∧ a + l.length ≤ 10000 ∧ d ≤ 10000) := ⟨hl, ha, hd⟩
  clear hF hS hD h hl ha hd
  go_enter Tryz.func89, Tryz.ntmps89
  go_wp2_with fail
  refine hf.mono ?_
  clear hf
  rintro e w1 ⟨hb, ⟨q, x, hq, rfl, hx, hn, hr⟩ | ⟨hq, s, rfl⟩⟩
  · have HB : Hid (Below p w w1) := hb
    have HX : Hid (x < 2 ^ 64) := hx
    have HR : Hid (Rs w1 p q.2.1 a (max d (a + q.2.2))) := hr
    have HQ : Hid (F l = some q ∧ nb x = q.1) := ⟨hq, hn⟩
    clear hb hx hr hq hn
    go_wp2
    go_loopw [3] (fun y wr => ∃ (z m k : Nat) (t : List UInt8), y = .float .f64 z ∧ Hid (z < 2 ^ 64) ∧ Hid (t.length < m ∧ t.length ≤ l.length ∧ k ≤ l.length) ∧ Hid (lp F 42 47 mulN quoN m (nb z) t k = pT F n l) ∧ Hid (Rs wr p t a (max d (a + k))) ∧ Hid (Below p w wr)) (fun _ wr => left wr p)
    case atStart =>
      have h1 := HS.out _ _ HQ.out.1
      have h2 := HD.out _ _ HQ.out.1
      have h3 := HL.out
      exact ⟨x, n, q.2.2, q.2.1, rfl, HX.out, ⟨by omega, h1, h2⟩, (by unfold Hid pT ps; rw [HQ.out.1, HQ.out.2]; rfl), HR.out, HB.out⟩
    case round =>
      obtain ⟨z, m, k, t, rfl, HZ, HM, HE, HR2, HB2⟩ := hrel
      rcases m with _ | m
      · exact absurd HM.out.1 (Nat.not_lt_zero _)
      by_cases k1 : tk [42] t = true
      · have ht := takes_yes _ _ _ _ _ _ HR2.out k1
        have hgl := go_len k1 (by simp)
        have HG : Hid ((go [42] t).length < t.length) := hgl
        have HE2 : Hid ((F (go [42] t)).bind (fun r => lp F 42 47 mulN quoN m (mulN (nb z) r.1) r.2.1 (max k r.2.2)) = pT F n l) := by
          have := HE.out; unfold lp at this; rw [if_pos k1] at this; exact this
        clear k1 hgl
        go_wp2_with fail
        refine ht.mono ?_
        clear ht
        rintro e w2 ⟨rfl, hr2, hb2⟩
        have HB3 : Hid (Below p w w2) := HB2.out.trans hb2
        have hf := HF.out w2 p (go [42] t) a _ hr2 (by have := HG.out; have := HM.out; have := HL.out; omega) (by have := HG.out; have := HM.out; have := HL.out; omega) (by have := HM.out; have := HL.out; omega)
        clear hr2 hb2
        go_wp2_with fail
        refine hf.mono ?_
        clear hf
        rintro e w3 ⟨hb, ⟨q2, y, hq, rfl, hx, hn, hr⟩ | ⟨hq, s, rfl⟩⟩
        · obtain ⟨r, w4, hb4, hr4, hn4, hop⟩ := run_op (op := .mul) (by simp [Ar]) z y w3
          have h1 := HS.out _ _ hq
          have h2 := HD.out _ _ hq
          have HB5 : Hid (Below p w w4) := (HB3.out.trans hb).trans (hb4.mono (Nat.le_of_lt hr.lt))
          have HR5 : Hid (Rs w4 p q2.2.1 a (max (max d (a + k)) (a + q2.2.2))) := hr.below hb4
          have HX5 : Hid (r < 2 ^ 64) := hr4
          have HQ5 : Hid (lp F 42 47 mulN quoN m (nb r) q2.2.1 (max k q2.2.2) = pT F n l) := by
            have := HE2.out; rw [hq] at this; unfold Hid; rw [hn4, hn]; exact this
          have HL5 : Hid (q2.2.1.length < t.length ∧ q2.2.2 ≤ l.length) := by have := HG.out; have := HM.out; unfold Hid; omega
          clear hb hq hx hn hr hb4 hr4 hn4 h1 h2
          go_wp2
          go_roundw
          case rel =>
            have h5 := HL5.out
            have h6 := HM.out
            refine ⟨r, m, max k q2.2.2, q2.2.1, rfl, HX5.out, ⟨by omega, by omega, by omega⟩, HQ5.out, ?_, HB5.out⟩
            have h7 := HR5.out
            rw [show max (max d (a + k)) (a + q2.2.2) = max d (a + max k q2.2.2) by omega] at h7
            exact h7
          case measure =>
            show left w4 p < left wr p
            rw [HR5.out.left, HR2.out.left]; exact HL5.out.1
        · have HBp : Hid (Below p w w3) := HB3.out.trans hb
          have HQp : Hid (pT F n l = none) := by have := HE2.out; rw [hq] at this; exact this.symm
          clear hb hq
          go_wp2
          exact ⟨rfl, HBp.out, .inr ⟨HQp.out, s, rfl⟩⟩
      · rw [Bool.not_eq_true] at k1
        have ht0 := takes_no _ _ _ _ _ _ HR2.out k1
        by_cases k2 : tk [47] t = true
        · have ht := takes_yes _ _ _ _ _ _ HR2.out k2
          have hgl := go_len k2 (by simp)
          have HG : Hid ((go [47] t).length < t.length) := hgl
          have HE2 : Hid ((F (go [47] t)).bind (fun r => lp F 42 47 mulN quoN m (quoN (nb z) r.1) r.2.1 (max k r.2.2)) = pT F n l) := by
            have := HE.out; unfold lp at this; rw [if_neg (by rw [k1]; decide), if_pos k2] at this; exact this
          clear k1 k2 hgl
          go_wp2_with fail
          refine ht0.mono ?_
          clear ht0
          rintro e w2 ⟨rfl, rfl⟩
          go_wp2_with fail
          refine ht.mono ?_
          clear ht
          rintro e w2 ⟨rfl, hr2, hb2⟩
          have HB3 : Hid (Below p w w2) := HB2.out.trans hb2
          have hf := HF.out w2 p (go [47] t) a _ hr2 (by have := HG.out; have := HM.out; have := HL.out; omega) (by have := HG.out; have := HM.out; have := HL.out; omega) (by have := HM.out; have := HL.out; omega)
          clear hr2 hb2
          go_wp2_with fail
          refine hf.mono ?_
          clear hf
          rintro e w3 ⟨hb, ⟨q2, y, hq, rfl, hx, hn, hr⟩ | ⟨hq, s, rfl⟩⟩
          · obtain ⟨r, w4, hb4, hr4, hn4, hop⟩ := run_op (op := .quo) (by simp [Ar]) z y w3
            have h1 := HS.out _ _ hq
            have h2 := HD.out _ _ hq
            have HB5 : Hid (Below p w w4) := (HB3.out.trans hb).trans (hb4.mono (Nat.le_of_lt hr.lt))
            have HR5 : Hid (Rs w4 p q2.2.1 a (max (max d (a + k)) (a + q2.2.2))) := hr.below hb4
            have HX5 : Hid (r < 2 ^ 64) := hr4
            have HQ5 : Hid (lp F 42 47 mulN quoN m (nb r) q2.2.1 (max k q2.2.2) = pT F n l) := by
              have := HE2.out; rw [hq] at this; unfold Hid; rw [hn4, hn]; exact this
            have HL5 : Hid (q2.2.1.length < t.length ∧ q2.2.2 ≤ l.length) := by have := HG.out; have := HM.out; unfold Hid; omega
            clear hb hq hx hn hr hb4 hr4 hn4 h1 h2
            go_wp2
            go_roundw
            case rel =>
              have h5 := HL5.out
              have h6 := HM.out
              refine ⟨r, m, max k q2.2.2, q2.2.1, rfl, HX5.out, ⟨by omega, by omega, by omega⟩, HQ5.out, ?_, HB5.out⟩
              have h7 := HR5.out
              rw [show max (max d (a + k)) (a + q2.2.2) = max d (a + max k q2.2.2) by omega] at h7
              exact h7
            case measure =>
              show left w4 p < left wr p
              rw [HR5.out.left, HR2.out.left]; exact HL5.out.1
          · have HBp : Hid (Below p w w3) := HB3.out.trans hb
            have HQp : Hid (pT F n l = none) := by have := HE2.out; rw [hq] at this; exact this.symm
            clear hb hq
            go_wp2
            exact ⟨rfl, HBp.out, .inr ⟨HQp.out, s, rfl⟩⟩
        · rw [Bool.not_eq_true] at k2
          have ht1 := takes_no _ _ _ _ _ _ HR2.out k2
          have HE2 : Hid (some (nb z, t, k) = pT F n l) := by
            have := HE.out; unfold lp at this; rw [if_neg (by rw [k1]; decide), if_neg (by rw [k2]; decide)] at this; exact this
          clear k1 k2
          go_wp2_with fail
          refine ht0.mono ?_
          clear ht0
          rintro e w2 ⟨rfl, rfl⟩
          go_wp2_with fail
          refine ht1.mono ?_
          clear ht1
          rintro e w2 ⟨rfl, rfl⟩
          go_wp2
          go_ret
          exact ⟨HB2.out, .inl ⟨_, z, HE2.out.symm, rfl, HZ.out, rfl, HR2.out⟩⟩
  · have HBp : Hid (Below p w w1) := hb
    have HQp : Hid (pT F n l = none) := by unfold Hid pT ps; rw [hq]; rfl
    clear hb hq
    go_wp2
    exact ⟨rfl, HBp.out, .inr ⟨HQp.out, s, rfl⟩⟩

set_option maxHeartbeats 2000000 in
theorem sum_any (n : Nat) (F : List UInt8 → Res) (hS : Sh F) (hD : Dq F) (hF : CT 89 n F) : CT 67 n (ps F 43 45 addN subN n) := by
  intro w p l a d h hl ha hd
  have hf := hF w p l a d h hl ha hd
  have HF : Hid (CT 89 n F) := hF
  have HS : Hid (Sh F) := hS
  have HD : Hid (Dq F) := hD
  have HL : Hid (l.length < n ∧ a + l.length ≤ 10000 ∧ d ≤ 10000) := ⟨hl, ha, hd⟩
  clear hF hS hD h hl ha hd
  go_enter Tryz.func67, Tryz.ntmps67
  go_wp2_with fail
  refine hf.mono ?_
  clear hf
  rintro e w1 ⟨hb, ⟨q, x, hq, rfl, hx, hn, hr⟩ | ⟨hq, s, rfl⟩⟩
  · have HB : Hid (Below p w w1) := hb
    have HX : Hid (x < 2 ^ 64) := hx
    have HR : Hid (Rs w1 p q.2.1 a (max d (a + q.2.2))) := hr
    have HQ : Hid (F l = some q ∧ nb x = q.1) := ⟨hq, hn⟩
    clear hb hx hr hq hn
    go_wp2
    go_loopw [3] (fun y wr => ∃ (z m k : Nat) (t : List UInt8), y = .float .f64 z ∧ Hid (z < 2 ^ 64) ∧ Hid (t.length < m ∧ t.length ≤ l.length ∧ k ≤ l.length) ∧ Hid (lp F 43 45 addN subN m (nb z) t k = ps F 43 45 addN subN n l) ∧ Hid (Rs wr p t a (max d (a + k))) ∧ Hid (Below p w wr)) (fun _ wr => left wr p)
    case atStart =>
      have h1 := HS.out _ _ HQ.out.1
      have h2 := HD.out _ _ HQ.out.1
      have h3 := HL.out
      exact ⟨x, n, q.2.2, q.2.1, rfl, HX.out, ⟨by omega, h1, h2⟩, (by unfold Hid ps; rw [HQ.out.1, HQ.out.2]; rfl), HR.out, HB.out⟩
    case round =>
      obtain ⟨z, m, k, t, rfl, HZ, HM, HE, HR2, HB2⟩ := hrel
      rcases m with _ | m
      · exact absurd HM.out.1 (Nat.not_lt_zero _)
      by_cases k1 : tk [43] t = true
      · have ht := takes_yes _ _ _ _ _ _ HR2.out k1
        have hgl := go_len k1 (by simp)
        have HG : Hid ((go [43] t).length < t.length) := hgl
        have HE2 : Hid ((F (go [43] t)).bind (fun r => lp F 43 45 addN subN m (addN (nb z) r.1) r.2.1 (max k r.2.2)) = ps F 43 45 addN subN n l) := by
          have := HE.out; unfold lp at this; rw [if_pos k1] at this; exact this
        clear k1 hgl
        go_wp2_with fail
        refine ht.mono ?_
        clear ht
        rintro e w2 ⟨rfl, hr2, hb2⟩
        have HB3 : Hid (Below p w w2) := HB2.out.trans hb2
        have hf := HF.out w2 p (go [43] t) a _ hr2 (by have := HG.out; have := HM.out; have := HL.out; omega) (by have := HG.out; have := HM.out; have := HL.out; omega) (by have := HM.out; have := HL.out; omega)
        clear hr2 hb2
        go_wp2_with fail
        refine hf.mono ?_
        clear hf
        rintro e w3 ⟨hb, ⟨q2, y, hq, rfl, hx, hn, hr⟩ | ⟨hq, s, rfl⟩⟩
        · obtain ⟨r, w4, hb4, hr4, hn4, hop⟩ := run_op (op := .add) (by simp [Ar]) z y w3
          have h1 := HS.out _ _ hq
          have h2 := HD.out _ _ hq
          have HB5 : Hid (Below p w w4) := (HB3.out.trans hb).trans (hb4.mono (Nat.le_of_lt hr.lt))
          have HR5 : Hid (Rs w4 p q2.2.1 a (max (max d (a + k)) (a + q2.2.2))) := hr.below hb4
          have HX5 : Hid (r < 2 ^ 64) := hr4
          have HQ5 : Hid (lp F 43 45 addN subN m (nb r) q2.2.1 (max k q2.2.2) = ps F 43 45 addN subN n l) := by
            have := HE2.out; rw [hq] at this; unfold Hid; rw [hn4, hn]; exact this
          have HL5 : Hid (q2.2.1.length < t.length ∧ q2.2.2 ≤ l.length) := by have := HG.out; have := HM.out; unfold Hid; omega
          clear hb hq hx hn hr hb4 hr4 hn4 h1 h2
          go_wp2
          go_roundw
          case rel =>
            have h5 := HL5.out
            have h6 := HM.out
            refine ⟨r, m, max k q2.2.2, q2.2.1, rfl, HX5.out, ⟨by omega, by omega, by omega⟩, HQ5.out, ?_, HB5.out⟩
            have h7 := HR5.out
            rw [show max (max d (a + k)) (a + q2.2.2) = max d (a + max k q2.2.2) by omega] at h7
            exact h7
          case measure =>
            show left w4 p < left wr p
            rw [HR5.out.left, HR2.out.left]; exact HL5.out.1
        · have HBp : Hid (Below p w w3) := HB3.out.trans hb
          have HQp : Hid (ps F 43 45 addN subN n l = none) := by have := HE2.out; rw [hq] at this; exact this.symm
          clear hb hq
          go_wp2
          exact ⟨rfl, HBp.out, .inr ⟨HQp.out, s, rfl⟩⟩
      · rw [Bool.not_eq_true] at k1
        have ht0 := takes_no _ _ _ _ _ _ HR2.out k1
        by_cases k2 : tk [45] t = true
        · have ht := takes_yes _ _ _ _ _ _ HR2.out k2
          have hgl := go_len k2 (by simp)
          have HG : Hid ((go [45] t).length < t.length) := hgl
          have HE2 : Hid ((F (go [45] t)).bind (fun r => lp F 43 45 addN subN m (subN (nb z) r.1) r.2.1 (max k r.2.2)) = ps F 43 45 addN subN n l) := by
            have := HE.out; unfold lp at this; rw [if_neg (by rw [k1]; decide), if_pos k2] at this; exact this
          clear k1 k2 hgl
          go_wp2_with fail
          refine ht0.mono ?_
          clear ht0
          rintro e w2 ⟨rfl, rfl⟩
          go_wp2_with fail
          refine ht.mono ?_
          clear ht
          rintro e w2 ⟨rfl, hr2, hb2⟩
          have HB3 : Hid (Below p w w2) := HB2.out.trans hb2
          have hf := HF.out w2 p (go [45] t) a _ hr2 (by have := HG.out; have := HM.out; have := HL.out; omega) (by have := HG.out; have := HM.out; have := HL.out; omega) (by have := HM.out; have := HL.out; omega)
          clear hr2 hb2
          go_wp2_with fail
          refine hf.mono ?_
          clear hf
          rintro e w3 ⟨hb, ⟨q2, y, hq, rfl, hx, hn, hr⟩ | ⟨hq, s, rfl⟩⟩
          · obtain ⟨r, w4, hb4, hr4, hn4, hop⟩ := run_op (op := .sub) (by simp [Ar]) z y w3
            have h1 := HS.out _ _ hq
            have h2 := HD.out _ _ hq
            have HB5 : Hid (Below p w w4) := (HB3.out.trans hb).trans (hb4.mono (Nat.le_of_lt hr.lt))
            have HR5 : Hid (Rs w4 p q2.2.1 a (max (max d (a + k)) (a + q2.2.2))) := hr.below hb4
            have HX5 : Hid (r < 2 ^ 64) := hr4
            have HQ5 : Hid (lp F 43 45 addN subN m (nb r) q2.2.1 (max k q2.2.2) = ps F 43 45 addN subN n l) := by
              have := HE2.out; rw [hq] at this; unfold Hid; rw [hn4, hn]; exact this
            have HL5 : Hid (q2.2.1.length < t.length ∧ q2.2.2 ≤ l.length) := by have := HG.out; have := HM.out; unfold Hid; omega
            clear hb hq hx hn hr hb4 hr4 hn4 h1 h2
            go_wp2
            go_roundw
            case rel =>
              have h5 := HL5.out
              have h6 := HM.out
              refine ⟨r, m, max k q2.2.2, q2.2.1, rfl, HX5.out, ⟨by omega, by omega, by omega⟩, HQ5.out, ?_, HB5.out⟩
              have h7 := HR5.out
              rw [show max (max d (a + k)) (a + q2.2.2) = max d (a + max k q2.2.2) by omega] at h7
              exact h7
            case measure =>
              show left w4 p < left wr p
              rw [HR5.out.left, HR2.out.left]; exact HL5.out.1
          · have HBp : Hid (Below p w w3) := HB3.out.trans hb
            have HQp : Hid (ps F 43 45 addN subN n l = none) := by have := HE2.out; rw [hq] at this; exact this.symm
            clear hb hq
            go_wp2
            exact ⟨rfl, HBp.out, .inr ⟨HQp.out, s, rfl⟩⟩
        · rw [Bool.not_eq_true] at k2
          have ht1 := takes_no _ _ _ _ _ _ HR2.out k2
          have HE2 : Hid (some (nb z, t, k) = ps F 43 45 addN subN n l) := by
            have := HE.out; unfold lp at this; rw [if_neg (by rw [k1]; decide), if_neg (by rw [k2]; decide)] at this; exact this
          clear k1 k2
          go_wp2_with fail
          refine ht0.mono ?_
          clear ht0
          rintro e w2 ⟨rfl, rfl⟩
          go_wp2_with fail
          refine ht1.mono ?_
          clear ht1
          rintro e w2 ⟨rfl, rfl⟩
          go_wp2
          go_ret
          exact ⟨HB2.out, .inl ⟨_, z, HE2.out.symm, rfl, HZ.out, rfl, HR2.out⟩⟩
  · have HBp : Hid (Below p w w1) := hb
    have HQp : Hid (ps F 43 45 addN subN n l = none) := by unfold Hid ps; rw [hq]; rfl
    clear hb hq
    go_wp2
    exact ⟨rfl, HBp.out, .inr ⟨HQp.out, s, rfl⟩⟩

theorem expr_any (n : Nat) (F : List UInt8 → Res) (hS : Sh F) (hD : Dq F) (hF : CT 111 n F) : CT 67 n (pE F n) :=
  sum_any n (pT F n) (ps_len hS 42 47 mulN quoN n) (ps_dq hS hD 42 47 mulN quoN n) (term_any n F hS hD hF)

end Go.Proofs.YtalifohnieclhaaGreatDoor.Oct
