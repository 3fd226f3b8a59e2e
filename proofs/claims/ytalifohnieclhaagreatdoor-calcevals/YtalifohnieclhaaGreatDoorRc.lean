/-
  The document's reader of expressions: pairs, what stands within.
-/
import Derived.Test.YtalifohnieclhaaGreatDoorRb
namespace Go.Proofs.YtalifohnieclhaaGreatDoor.Oct
open Go.RowKit
open Go.Proofs.YtalifohnieclhaaGreatDoor.Fl

/-- Two expressions, a comma between, a bracket behind. -/
def pr2 (F : List UInt8 → Res) (n : Nat) (u : List UInt8) : Option (Nat × Nat × List UInt8 × Nat) :=
  (pE F n u).bind fun r => if tk [44] r.2.1 then (cl F n (go [44] r.2.1)).bind fun q => some (r.1, q.1, q.2.1, max r.2.2 q.2.2) else none

theorem ch_pr2 (F : List UInt8 → Res) (n : Nat) (o : Int) (l : List UInt8) : ch F n o l = if tk [40] l then (pr2 F n (go [40] l)).bind fun s => some (pick o s.1 s.2.1, s.2.2.1, s.2.2.2) else none := by
  unfold ch pr2
  split
  · cases pE F n (go [40] l) with
    | none => rfl
    | some r =>
      show (if tk [44] r.2.1 = true then _ else none) = Option.bind (if tk [44] r.2.1 = true then _ else none) _
      split
      · cases cl F n (go [44] r.2.1) <;> rfl
      · rfl
  · rfl

/-- The same, of a pair. -/
def BadOk2 (R : Option (Nat × Nat × List UInt8 × Nat)) (D b : Int) : Prop := b ≠ 0 ∧ ∀ s, R = some s → 32 < D + (s.2.2.2 : Int) ∧ b = 3
def PE (p : Nat) (l : List UInt8) (R : Option (Nat × Nat × List UInt8 × Nat)) (D : Int) (w : World) (e : Ending) (w' : World) : Prop :=
  Below p w w' ∧ ∃ x y j b, e = .returned (.tuple #[.float .f64 x, .float .f64 y]) ∧ x < 2 ^ 64 ∧ y < 2 ^ 64 ∧ j ≤ l.length ∧ Rr w' p l j D b ∧
    (BadOk2 R D b ∨ (b = 0 ∧ ∃ s, R = some s ∧ D + (s.2.2.2 : Int) ≤ 32 ∧ nb x = s.1 ∧ nb y = s.2.1 ∧ tb (l.drop j) = s.2.2.1))

theorem pr2_some {F : List UInt8 → Res} {n : Nat} {u : List UInt8} {s : Nat × Nat × List UInt8 × Nat} (h : pr2 F n u = some s) :
    ∃ r q, pE F n u = some r ∧ tk [44] r.2.1 = true ∧ pE F n (go [44] r.2.1) = some q ∧ tk [41] q.2.1 = true ∧ s = (r.1, q.1, go [41] q.2.1, max r.2.2 q.2.2) := by
  unfold pr2 at h
  obtain ⟨r, hr, h⟩ := Option.bind_eq_some_iff.1 h
  split at h
  · rename_i hk
    obtain ⟨q, hq, h⟩ := Option.bind_eq_some_iff.1 h
    unfold cl at hq
    obtain ⟨q', hq', h2⟩ := bind_some hq
    split at h2
    · rename_i hk2
      cases h2
      cases h
      exact ⟨r, q', hr, hk, hq', hk2, rfl⟩
    · cases h2
  · cases h

/-- is(t), and a fail where it isn't there, in a reader that has failed. -/
theorem bad_is (w : World) (p : Nat) (l t : List UInt8) (i : Nat) (D b : Int) (h : Rr w p l i D b) (hi : i ≤ l.length) (hl : l.length ≤ 10000) (ht : t.length ≤ 10) :
    Calls Tryz.prog 70 #[.pointer (some ⟨p, 0, none⟩), .string ⟨t.toArray⟩] w fun e w' => ∃ v j, e = .returned (.bool v) ∧ Below p w w' ∧ j ≤ l.length ∧ Rr w' p l j D b := by
  refine (is_any w p l t i D b h hi hl ht).mono ?_
  rintro e w' ⟨rfl, hb, j, hj, hr, _⟩
  exact ⟨_, j, rfl, hb, hj, hr⟩

theorem bad_fail (w : World) (p : Nat) (l : List UInt8) (i : Nat) (D b c : Int) (h : Rr w p l i D b) (hb : b ≠ 0) :
    Calls Tryz.prog 115 #[.pointer (some ⟨p, 0, none⟩), .int .i64 c] w fun e w' => e = .returned (.float .f64 0) ∧ Below p w w' ∧ Rr w' p l i D b := by
  refine (fail_any w p l i D b c h).mono ?_
  rintro e w' ⟨rfl, h1, h2⟩
  rw [if_neg hb] at h2
  exact ⟨rfl, h1, h2⟩

theorem good_fail (w : World) (p : Nat) (l : List UInt8) (i : Nat) (D c : Int) (h : Rr w p l i D 0) :
    Calls Tryz.prog 115 #[.pointer (some ⟨p, 0, none⟩), .int .i64 c] w fun e w' => e = .returned (.float .f64 0) ∧ Below p w w' ∧ Rr w' p l i D c := by
  refine (fail_any w p l i D 0 c h).mono ?_
  rintro e w' ⟨rfl, h1, h2⟩
  rw [if_pos rfl] at h2
  exact ⟨rfl, h1, h2⟩

set_option maxHeartbeats 4000000 in
theorem pair_any (n : Nat) (F : List UInt8 → Res) (hS : Sh F) (hE : RT 47 n (pE F n)) :
    ∀ w p l i D, Rr w p l i D 0 → i ≤ l.length → l.length ≤ 10000 → (tb (l.drop i)).length < n → -2199023255552 ≤ D → D ≤ 32 → Calls Tryz.prog 153 #[.pointer (some ⟨p, 0, none⟩)] w (PE p l (pr2 F n (tb (l.drop i))) D w) := by
  intro w p l i D h hi hl hn hD0 hD1
  have he := hE w p l i D h hi hl hn hD0 hD1
  have HE : Hid (RT 47 n (pE F n)) := hE
  have HS : Hid (Sh (pE F n)) := pE_len hS n
  have HL : Hid (l.length ≤ 10000 ∧ (tb (l.drop i)).length < n ∧ -2199023255552 ≤ D ∧ D ≤ 32) := ⟨hl, hn, hD0, hD1⟩
  obtain ⟨u, hu⟩ : ∃ u, tb (l.drop i) = u := ⟨_, rfl⟩
  rw [hu] at he HL ⊢
  obtain ⟨R, hR⟩ : ∃ R, pr2 F n u = R := ⟨_, rfl⟩
  have HRR : Hid (pr2 F n u = R) := hR
  rw [hR]
  have HN : Hid ((0 : Nat) < 2 ^ 64) := by unfold Hid; decide
  clear hE hS h hi hl hn hD0 hD1 hu hR
  go_enter Tryz.func153, Tryz.ntmps153
  go_wp2_with fail
  refine he.mono ?_
  clear he
  rintro e w1 ⟨hb, x, j, b, rfl, hx, hj, hr, hres⟩
  have HB : Hid (Below p w w1) := hb
  have HX : Hid (x < 2 ^ 64) := hx
  have HR : Hid (Rr w1 p l j D b ∧ j ≤ l.length) := ⟨hr, hj⟩
  clear hb hx hj hr
  rcases hres with hbad | ⟨h0, q, hq, hd, hnq, ht⟩
  · have HBAD : Hid (BadOk2 R D b) := by
      refine ⟨hbad.1, fun s hs => ?_⟩
      obtain ⟨r, q, h1, _, _, _, h5⟩ := pr2_some (HRR.out.trans hs)
      have := hbad.2 r h1
      subst h5
      exact ⟨by simp only; omega, this.2⟩
    have HB0 : Hid (b ≠ 0) := hbad.1
    have hb' : (b == 0) = false := by simpa using hbad.1
    clear hbad
    go_wp2_with fail
    refine (bad_is _ p l [44] _ D _ HR.out.1 HR.out.2 HL.out.1 (by decide)).mono ?_
    rintro e wa ⟨v, ja, rfl, hb, hj, hr⟩
    have HBa : Hid (Below p w wa) := HB.out.trans hb
    have HRa : Hid (Rr wa p l ja D b ∧ ja ≤ l.length) := ⟨hr, hj⟩
    have c3 := hr.c3
    clear hb hj hr
    cases v with
    | true =>
      go_wp2_with fail
      refine (bad_is _ p l [41] _ D _ HRa.out.1 HRa.out.2 HL.out.1 (by decide)).mono ?_
      rintro e wc ⟨v, jc, rfl, hb, hj, hr⟩
      have HBc : Hid (Below p w wc) := HBa.out.trans hb
      have HRc : Hid (Rr wc p l jc D b ∧ jc ≤ l.length) := ⟨hr, hj⟩
      clear hb hj hr
      cases v with
      | true =>
        go_wp2
        go_ret2
        exact ⟨HBc.out, x, 0, jc, b, rfl, HX.out, HN.out, HRc.out.2, HRc.out.1, .inl HBAD.out⟩
      | false =>
        go_wp2_with fail
        refine (bad_fail _ p l _ D _ 11 HRc.out.1 HB0.out).mono ?_
        rintro e wd ⟨rfl, hb, hr⟩
        have HBd : Hid (Below p w wd) := HBc.out.trans hb
        have HRd : Hid (Rr wd p l jc D b) := hr
        clear hb hr
        go_wp2
        go_ret2
        exact ⟨HBd.out, x, 0, jc, b, rfl, HX.out, HN.out, HRc.out.2, HRd.out, .inl HBAD.out⟩
    | false =>
      clear c3
      go_wp2_with fail
      refine (bad_fail _ p l _ D _ 11 HRa.out.1 HB0.out).mono ?_
      rintro e wb ⟨rfl, hb, hr⟩
      have HBb : Hid (Below p w wb) := HBa.out.trans hb
      have HRb : Hid (Rr wb p l ja D b ∧ ja ≤ l.length) := ⟨hr, HRa.out.2⟩
      have c3 := hr.c3
      clear hb hr
      go_wp2_with fail
      refine (bad_is _ p l [41] _ D _ HRb.out.1 HRb.out.2 HL.out.1 (by decide)).mono ?_
      rintro e wc ⟨v, jc, rfl, hb, hj, hr⟩
      have HBc : Hid (Below p w wc) := HBb.out.trans hb
      have HRc : Hid (Rr wc p l jc D b ∧ jc ≤ l.length) := ⟨hr, hj⟩
      clear hb hj hr
      cases v with
      | true =>
        go_wp2
        go_ret2
        exact ⟨HBc.out, x, 0, jc, b, rfl, HX.out, HN.out, HRc.out.2, HRc.out.1, .inl HBAD.out⟩
      | false =>
        go_wp2_with fail
        refine (bad_fail _ p l _ D _ 11 HRc.out.1 HB0.out).mono ?_
        rintro e wd ⟨rfl, hb, hr⟩
        have HBd : Hid (Below p w wd) := HBc.out.trans hb
        have HRd : Hid (Rr wd p l jc D b) := hr
        clear hb hr
        go_wp2
        go_ret2
        exact ⟨HBd.out, x, 0, jc, b, rfl, HX.out, HN.out, HRc.out.2, HRd.out, .inl HBAD.out⟩
  · subst h0
    have HQ : Hid (pE F n u = some q ∧ D + (q.2.2 : Int) ≤ 32 ∧ nb x = q.1 ∧ tb (l.drop j) = q.2.1) := ⟨hq, hd, hnq, ht⟩
    have his := is_any w1 p l [44] j D 0 HR.out.1 HR.out.2 HL.out.1 (by decide)
    clear hq hd hnq ht
    go_wp2_with fail
    refine his.mono ?_
    clear his
    rintro e wa ⟨rfl, hb, ja, hja, hr, hda⟩
    rw [HQ.out.2.2.2] at hda ⊢
    have HBa : Hid (Below p w wa) := HB.out.trans hb
    have HRa : Hid (Rr wa p l ja D 0 ∧ ja ≤ l.length) := ⟨hr, hja⟩
    have c3 := hr.c3
    by_cases kk : tk [44] q.2.1 = true
    · rw [if_pos kk] at hda
      rw [kk]
      have HG : Hid (tb (l.drop ja) = go [44] q.2.1) := congrArg tb hda
      have HGL : Hid ((go [44] q.2.1).length < q.2.1.length ∧ q.2.1.length ≤ u.length) := ⟨go_len kk (by simp), HS.out _ _ HQ.out.1⟩
      have HK : Hid (tk [44] q.2.1 = true) := kk
      have he := HE.out wa p l ja D hr hja HL.out.1 (by rw [HG.out]; have := HGL.out; have := HL.out; omega) HL.out.2.2.1 HL.out.2.2.2
      rw [HG.out] at he
      clear hb hr hda hja kk
      go_wp2_with fail
      refine he.mono ?_
      clear he
      rintro e wb ⟨hb, y, jb, bb, rfl, hy, hj, hr, hres⟩
      have HBb : Hid (Below p w wb) := HBa.out.trans hb
      have HRb : Hid (Rr wb p l jb D bb ∧ jb ≤ l.length) := ⟨hr, hj⟩
      have HY : Hid (y < 2 ^ 64) := hy
      clear hb hy hj hr c3
      rcases hres with hbad | ⟨h0, q2, hq2, hd2, hn2, ht2⟩
      · have HBAD : Hid (BadOk2 R D bb) := by
          refine ⟨hbad.1, fun s hs => ?_⟩
          obtain ⟨r, q', h1, _, h3, _, h5⟩ := pr2_some (HRR.out.trans hs)
          rw [HQ.out.1] at h1
          cases h1
          have := hbad.2 q' h3
          subst h5
          exact ⟨by simp only; omega, this.2⟩
        have HB0 : Hid (bb ≠ 0) := hbad.1
        clear hbad
        go_wp2_with fail
        refine (bad_is _ p l [41] _ D _ HRb.out.1 HRb.out.2 HL.out.1 (by decide)).mono ?_
        rintro e wc ⟨v, jc, rfl, hb, hj, hr⟩
        have HBc : Hid (Below p w wc) := HBb.out.trans hb
        have HRc : Hid (Rr wc p l jc D bb ∧ jc ≤ l.length) := ⟨hr, hj⟩
        clear hb hj hr
        cases v with
        | true =>
          go_wp2
          go_ret2
          exact ⟨HBc.out, x, y, jc, bb, rfl, HX.out, HY.out, HRc.out.2, HRc.out.1, .inl HBAD.out⟩
        | false =>
          go_wp2_with fail
          refine (bad_fail _ p l _ D _ 11 HRc.out.1 HB0.out).mono ?_
          rintro e wd ⟨rfl, hb, hr⟩
          have HBd : Hid (Below p w wd) := HBc.out.trans hb
          have HRd : Hid (Rr wd p l jc D bb) := hr
          clear hb hr
          go_wp2
          go_ret2
          exact ⟨HBd.out, x, y, jc, bb, rfl, HX.out, HY.out, HRc.out.2, HRd.out, .inl HBAD.out⟩
      · subst h0
        have HQ2 : Hid (pE F n (go [44] q.2.1) = some q2 ∧ D + (q2.2.2 : Int) ≤ 32 ∧ nb y = q2.1 ∧ tb (l.drop jb) = q2.2.1) := ⟨hq2, hd2, hn2, ht2⟩
        have his := is_any wb p l [41] jb D 0 HRb.out.1 HRb.out.2 HL.out.1 (by decide)
        clear hq2 hd2 hn2 ht2
        go_wp2_with fail
        refine his.mono ?_
        clear his
        rintro e wc ⟨rfl, hb, jc, hjc, hr, hdc⟩
        rw [HQ2.out.2.2.2] at hdc ⊢
        have HBc : Hid (Below p w wc) := HBb.out.trans hb
        by_cases kk : tk [41] q2.2.1 = true
        · rw [if_pos kk] at hdc
          rw [kk]
          have HRc : Hid (Rr wc p l jc D 0 ∧ jc ≤ l.length) := ⟨hr, hjc⟩
          have HS2 : Hid (R = some (q.1, q2.1, go [41] q2.2.1, max q.2.2 q2.2.2) ∧ tb (l.drop jc) = go [41] q2.2.1) := by
            refine ⟨?_, congrArg tb hdc⟩
            rw [← HRR.out]
            unfold pr2
            rw [HQ.out.1]
            show (if tk [44] q.2.1 = true then (cl F n (go [44] q.2.1)).bind (fun p => some (q.1, p.1, p.2.1, max q.2.2 p.2.2)) else none) = _
            rw [if_pos HK.out]
            unfold cl
            rw [HQ2.out.1]
            show Option.bind (if tk [41] q2.2.1 = true then some (q2.1, go [41] q2.2.1, q2.2.2) else none) _ = _
            rw [if_pos kk]
            rfl
          clear hb hr hdc hjc kk
          go_wp2
          go_ret2
          have h1 := HQ.out
          have h2 := HQ2.out
          exact ⟨HBc.out, x, y, jc, 0, rfl, HX.out, HY.out, HRc.out.2, HRc.out.1, .inr ⟨rfl, _, HS2.out.1, by simp only; omega, h1.2.2.1, h2.2.2.1, HS2.out.2⟩⟩
        · rw [Bool.not_eq_true] at kk
          rw [kk]
          have HS2 : Hid (BadOk2 R D 11) := by
            refine ⟨by decide, fun s hs => ?_⟩
            obtain ⟨r, q', h1, _, h3, h4, _⟩ := pr2_some (HRR.out.trans hs)
            rw [HQ.out.1] at h1
            cases h1
            rw [HQ2.out.1] at h3
            cases h3
            rw [kk] at h4; cases h4
          have hff := good_fail wc p l jc D 11 hr
          have HJ : Hid (jc ≤ l.length) := hjc
          clear hb hr hdc hjc kk
          go_wp2_with fail
          refine hff.mono ?_
          clear hff
          rintro e wd ⟨rfl, hb, hr⟩
          have HBd : Hid (Below p w wd) := HBc.out.trans hb
          have HRd : Hid (Rr wd p l jc D 11) := hr
          clear hb hr
          go_wp2
          go_ret2
          exact ⟨HBd.out, x, y, jc, 11, rfl, HX.out, HY.out, HJ.out, HRd.out, .inl HS2.out⟩
    · rw [Bool.not_eq_true] at kk
      rw [kk]
      have HBAD : Hid (BadOk2 R D 11) := by
        refine ⟨by decide, fun s hs => ?_⟩
        obtain ⟨r, q', h1, h2, _, _, _⟩ := pr2_some (HRR.out.trans hs)
        rw [HQ.out.1] at h1
        cases h1
        rw [kk] at h2; cases h2
      have hff := good_fail wa p l ja D 11 hr
      clear hb hr hda hja kk c3
      go_wp2_with fail
      refine hff.mono ?_
      clear hff
      rintro e wb ⟨rfl, hb, hr⟩
      have HBb : Hid (Below p w wb) := HBa.out.trans hb
      have HRb : Hid (Rr wb p l ja D 11 ∧ ja ≤ l.length) := ⟨hr, HRa.out.2⟩
      have c3 := hr.c3
      have HB0 : Hid ((11 : Int) ≠ 0) := by unfold Hid; decide
      clear hb hr
      go_wp2_with fail
      refine (bad_is _ p l [41] _ D _ HRb.out.1 HRb.out.2 HL.out.1 (by decide)).mono ?_
      rintro e wc ⟨v, jc, rfl, hb, hj, hr⟩
      have HBc : Hid (Below p w wc) := HBb.out.trans hb
      have HRc : Hid (Rr wc p l jc D 11 ∧ jc ≤ l.length) := ⟨hr, hj⟩
      clear hb hj hr
      cases v with
      | true =>
        go_wp2
        go_ret2
        exact ⟨HBc.out, x, 0, jc, 11, rfl, HX.out, HN.out, HRc.out.2, HRc.out.1, .inl HBAD.out⟩
      | false =>
        go_wp2_with fail
        refine (bad_fail _ p l _ D _ 11 HRc.out.1 HB0.out).mono ?_
        rintro e wd ⟨rfl, hb, hr⟩
        have HBd : Hid (Below p w wd) := HBc.out.trans hb
        have HRd : Hid (Rr wd p l jc D 11) := hr
        clear hb hr
        go_wp2
        go_ret2
        exact ⟨HBd.out, x, 0, jc, 11, rfl, HX.out, HN.out, HRc.out.2, HRd.out, .inl HBAD.out⟩

end Go.Proofs.YtalifohnieclhaaGreatDoor.Oct
