/-
  The document's reader of expressions: what stands within a factor.
-/
import Derived.Test.YtalifohnieclhaaGreatDoorRc
namespace Go.Proofs.YtalifohnieclhaaGreatDoor.Oct
open Go.RowKit
open Go.Proofs.YtalifohnieclhaaGreatDoor.Fl

/-- What stands behind a sign, a bracket, a function's bracket. -/
def gk (n : Nat) (c : Nat) (u : List UInt8) : Res :=
  if c = 45 then (pF n u).bind fun r => some (negN r.1, r.2.1, r.2.2)
  else if c = 109 then (pr2 (pF n) n u).bind fun s => some (pick (-1) s.1 s.2.1, s.2.2.1, s.2.2.2)
  else if c = 77 then (pr2 (pF n) n u).bind fun s => some (pick 1 s.1 s.2.1, s.2.2.1, s.2.2.2)
  else if c = 97 then (cl (pF n) n u).bind fun q => some (absN q.1, q.2.1, q.2.2)
  else cl (pF n) n u

theorem neg_ran (x : Nat) (w : World) : (Op.unary .neg (.float .f64 x)).run Tryz.prog w = .ok (.float .f64 (Op.negFloat .f64 x)) w := rfl

theorem bad_map {R : Res} {g : Nat × List UInt8 × Nat → Nat} {D b : Int} (h : BadOk R D b) : BadOk (R.bind fun r => some (g r, r.2.1, r.2.2)) D b := by
  refine ⟨h.1, fun q hq => ?_⟩
  obtain ⟨q', h1, h2⟩ := bind_some hq
  cases h2
  exact h.2 q' h1

theorem bad_map2 {R : Option (Nat × Nat × List UInt8 × Nat)} {g : Nat × Nat × List UInt8 × Nat → Nat} {D b : Int} (h : BadOk2 R D b) : BadOk (R.bind fun s => some (g s, s.2.2.1, s.2.2.2)) D b := by
  refine ⟨h.1, fun q hq => ?_⟩
  obtain ⟨q', h1, h2⟩ := Option.bind_eq_some_iff.1 hq
  cases h2
  exact h.2 q' h1

theorem c3_or (x y : Nat) : c3 x y = -1 ∨ c3 x y = 0 ∨ c3 x y = 1 := by
  unfold c3; split
  · exact .inl rfl
  · split
    · exact .inr (.inr rfl)
    · exact .inr (.inl rfl)

/-- Too deep. -/
theorem within_deep (c : Nat) (w : World) (p : Nat) (l : List UInt8) (i : Nat) (D : Int) (h : Rr w p l i D 0) (hD : 32 < D) :
    Calls Tryz.prog 130 #[.pointer (some ⟨p, 0, none⟩), .int .u8 c] w fun e w' => e = .returned (.float .f64 0) ∧ Below p w w' ∧ Rr w' p l i D 3 := by
  have c2 := h.c2
  have hf := good_fail w p l i D 3 h
  clear h
  go_enter Tryz.func130, Tryz.ntmps130
  go_wp2_with fail
  refine hf.mono ?_
  clear hf
  rintro e w1 ⟨rfl, hb, hr⟩
  have HB : Hid (Below p w w1) := hb
  have HR : Hid (Rr w1 p l i D 3) := hr
  clear hb hr
  go_wp2
  go_ret
  exact ⟨rfl, HB.out, HR.out⟩

set_option maxHeartbeats 2000000 in
theorem within_neg (n : Nat) (hF : RT 91 n (pF n)) :
    ∀ w p l i D, Rr w p l i D 0 → i ≤ l.length → l.length ≤ 10000 → (tb (l.drop i)).length < n → -2199023255552 ≤ D → D ≤ 32 → Calls Tryz.prog 130 #[.pointer (some ⟨p, 0, none⟩), .int .u8 45] w (RE p l (gk n 45 (tb (l.drop i))) D w) := by
  intro w p l i D h hi hl hn hD0 hD1
  have c2 := h.c2
  have hf := hF w p l i D h hi hl hn hD0 hD1
  have hD' : ¬ 32 < D := by omega
  have hg : gk n 45 (tb (l.drop i)) = (pF n (tb (l.drop i))).bind fun r => some (negN r.1, r.2.1, r.2.2) := if_pos rfl
  rw [hg]
  clear hF h hi hl hn hD0 hD1 hg
  go_enter Tryz.func130, Tryz.ntmps130
  go_wp2_with fail
  refine hf.mono ?_
  clear hf
  rintro e w1 ⟨hb, x, j, b, rfl, hx, hj, hr, hres⟩
  have HB : Hid (Below p w w1) := hb
  have HR : Hid (Rr w1 p l j D b ∧ j ≤ l.length) := ⟨hr, hj⟩
  have hnv := neg_val hx
  have HRS : Hid (RefRes ((pF n (tb (l.drop i))).bind fun r => some (negN r.1, r.2.1, r.2.2)) D l (Op.negFloat .f64 x) j b) := by
    rcases hres with hbad | ⟨h0, q, hq, hd, hnq, ht⟩
    · exact .inl (bad_map hbad)
    · refine .inr ⟨h0, (negN q.1, q.2.1, q.2.2), by rw [hq]; rfl, hd, ?_, ht⟩
      rw [hnv.2, hnq]
  have HX : Hid (Op.negFloat .f64 x < 2 ^ 64) := hnv.1
  have hng := neg_ran x w1
  generalize Op.negFloat .f64 x = y at *
  clear hb hx hj hr hres hnv
  go_wp2
  go_ret
  exact ⟨HB.out, y, j, b, rfl, HX.out, HR.out.2, HR.out.1, HRS.out⟩

set_option maxHeartbeats 4000000 in
theorem within_pick (n : Nat) (c : Nat) (o : Int) (hc : (c = 109 ∧ o = -1) ∨ (c = 77 ∧ o = 1)) (hE : RT 47 n (pE (pF n) n)) :
    ∀ w p l i D, Rr w p l i D 0 → i ≤ l.length → l.length ≤ 10000 → (tb (l.drop i)).length < n → -2199023255552 ≤ D → D ≤ 32 → Calls Tryz.prog 130 #[.pointer (some ⟨p, 0, none⟩), .int .u8 c] w (RE p l ((pr2 (pF n) n (tb (l.drop i))).bind fun s => some (pick o s.1 s.2.1, s.2.2.1, s.2.2.2)) D w) := by
  intro w p l i D h hi hl hn hD0 hD1
  have c2 := h.c2
  have hf := pair_any n (pF n) (pF_len n) hE w p l i D h hi hl hn hD0 hD1
  have hD' : ¬ 32 < D := by omega
  obtain ⟨R, hR⟩ : ∃ R, pr2 (pF n) n (tb (l.drop i)) = R := ⟨_, rfl⟩
  rw [hR] at hf ⊢
  clear h hi hl hn hD0 hD1 hR hE
  have fin : ∀ {w1 : World} {x y j : Nat} {b : Int}, Below p w w1 → x < 2 ^ 64 → y < 2 ^ 64 → j ≤ l.length → Rr w1 p l j D b → (BadOk2 R D b ∨ (b = 0 ∧ ∃ s, R = some s ∧ D + (s.2.2.2 : Int) ≤ 32 ∧ nb x = s.1 ∧ nb y = s.2.1 ∧ tb (l.drop j) = s.2.2.1)) →
      RE p l (R.bind fun s => some (pick o s.1 s.2.1, s.2.2.1, s.2.2.2)) D w (.returned (.float .f64 (if c3 (rk x) (rk y) = o then x else y))) w1 := by
    intro w1 x y j b hb hx hy hj hr hres
    refine ⟨hb, _, j, b, rfl, by split <;> assumption, hj, hr, ?_⟩
    rcases hres with hbad | ⟨h0, s, hs, hd, h1, h2, ht⟩
    · exact .inl (bad_map2 hbad)
    · refine .inr ⟨h0, (pick o s.1 s.2.1, s.2.2.1, s.2.2.2), by rw [hs]; rfl, hd, ?_, ht⟩
      simp only
      unfold pick
      rw [← h1, ← h2, rk_nb, rk_nb]
      split <;> rfl
  have FIN : Hid (∀ {w1 : World} {x y j : Nat} {b : Int}, Below p w w1 → x < 2 ^ 64 → y < 2 ^ 64 → j ≤ l.length → Rr w1 p l j D b → (BadOk2 R D b ∨ (b = 0 ∧ ∃ s, R = some s ∧ D + (s.2.2.2 : Int) ≤ 32 ∧ nb x = s.1 ∧ nb y = s.2.1 ∧ tb (l.drop j) = s.2.2.1)) →
      RE p l (R.bind fun s => some (pick o s.1 s.2.1, s.2.2.1, s.2.2.2)) D w (.returned (.float .f64 (if c3 (rk x) (rk y) = o then x else y))) w1) := @fin
  clear fin
  rcases hc with ⟨rfl, rfl⟩ | ⟨rfl, rfl⟩
  · go_enter Tryz.func130, Tryz.ntmps130
    go_wp2_with fail
    refine hf.mono ?_
    clear hf
    rintro e w1 ⟨hb, x, y, j, b, rfl, hx, hy, hj, hr, hres⟩
    have hcmp := fun w => refcompare_any x y w hx hy
    have HR : Hid (RE p l (R.bind fun s => some (pick (-1) s.1 s.2.1, s.2.2.1, s.2.2.2)) D w (.returned (.float .f64 (if c3 (rk x) (rk y) = -1 then x else y))) w1) := FIN.out hb hx hy hj hr hres
    rcases c3_or (rk x) (rk y) with h3 | h3 | h3
    all_goals
      rw [h3] at hcmp HR
      clear hb hx hy hj hr hres h3
      go_wp2_with fail
      refine (hcmp _).mono ?_
      rintro e w' ⟨rfl, rfl⟩
      go_wp2
      go_ret
      exact HR.out
  · go_enter Tryz.func130, Tryz.ntmps130
    go_wp2_with fail
    refine hf.mono ?_
    clear hf
    rintro e w1 ⟨hb, x, y, j, b, rfl, hx, hy, hj, hr, hres⟩
    have hcmp := fun w => refcompare_any x y w hx hy
    have HR : Hid (RE p l (R.bind fun s => some (pick 1 s.1 s.2.1, s.2.2.1, s.2.2.2)) D w (.returned (.float .f64 (if c3 (rk x) (rk y) = 1 then x else y))) w1) := FIN.out hb hx hy hj hr hres
    rcases c3_or (rk x) (rk y) with h3 | h3 | h3
    all_goals
      rw [h3] at hcmp HR
      clear hb hx hy hj hr hres h3
      go_wp2_with fail
      refine (hcmp _).mono ?_
      rintro e w' ⟨rfl, rfl⟩
      go_wp2
      go_ret
      exact HR.out

set_option maxHeartbeats 4000000 in
theorem within_sum (n : Nat) (c : Nat) (hc : c = 40 ∨ c = 97) (hE : RT 47 n (pE (pF n) n)) :
    ∀ w p l i D, Rr w p l i D 0 → i ≤ l.length → l.length ≤ 10000 → (tb (l.drop i)).length < n → -2199023255552 ≤ D → D ≤ 32 → Calls Tryz.prog 130 #[.pointer (some ⟨p, 0, none⟩), .int .u8 c] w (RE p l (gk n c (tb (l.drop i))) D w) := by
  intro w p l i D h hi hl hn hD0 hD1
  have c2 := h.c2
  have hf := hE w p l i D h hi hl hn hD0 hD1
  have hD' : ¬ 32 < D := by omega
  have HL : Hid (l.length ≤ 10000) := hl
  obtain ⟨u, hu⟩ : ∃ u, tb (l.drop i) = u := ⟨_, rfl⟩
  rw [hu] at hf ⊢
  have HGK : Hid (∀ (b : Int), BadOk (cl (pF n) n u) D b → BadOk (gk n c u) D b) := by
    intro b hb
    rcases hc with rfl | rfl
    · exact hb
    · exact bad_map hb
  have HGS : Hid (∀ q, cl (pF n) n u = some q → gk n c u = some (if c = 97 then absN q.1 else q.1, q.2.1, q.2.2)) := by
    intro q hq
    rcases hc with rfl | rfl
    · exact hq
    · show (cl (pF n) n u).bind _ = _
      rw [hq]; rfl
  generalize gk n c u = R at *
  clear hE h hi hl hn hD0 hD1 hu
  rcases hc with rfl | rfl
  · go_enter Tryz.func130, Tryz.ntmps130
    go_wp2_with fail
    refine hf.mono ?_
    clear hf
    rintro e w1 ⟨hb, x, j, b, rfl, hx, hj, hr, hres⟩
    have HB : Hid (Below p w w1) := hb
    have HX : Hid (x < 2 ^ 64) := hx
    have HR : Hid (Rr w1 p l j D b ∧ j ≤ l.length) := ⟨hr, hj⟩
    clear hb hx hj hr
    rcases hres with hbad | ⟨h0, q, hq, hd, hnq, ht⟩
    · have HB0 : Hid (b ≠ 0) := hbad.1
      have HBAD : Hid (BadOk (cl (pF n) n u) D b) := by
        refine ⟨hbad.1, fun q hq => ?_⟩
        unfold cl at hq
        obtain ⟨q', h1, h2⟩ := bind_some hq
        split at h2
        · cases h2; exact hbad.2 q' h1
        · cases h2
      clear hbad
      go_wp2_with fail
      refine (bad_is _ p l [41] _ D _ HR.out.1 HR.out.2 HL.out (by decide)).mono ?_
      rintro e wa ⟨v, ja, rfl, hb, hj, hr⟩
      have HBa : Hid (Below p w wa) := HB.out.trans hb
      have HRa : Hid (Rr wa p l ja D b ∧ ja ≤ l.length) := ⟨hr, hj⟩
      clear hb hj hr
      cases v with
      | true =>
        go_wp2
        go_ret
        exact ⟨HBa.out, x, ja, b, rfl, HX.out, HRa.out.2, HRa.out.1, .inl (HGK.out _ HBAD.out)⟩
      | false =>
        go_wp2_with fail
        refine (bad_fail _ p l _ D _ 11 HRa.out.1 HB0.out).mono ?_
        rintro e wd ⟨rfl, hb, hr⟩
        have HBd : Hid (Below p w wd) := HBa.out.trans hb
        have HRd : Hid (Rr wd p l ja D b) := hr
        clear hb hr
        go_wp2
        go_ret
        exact ⟨HBd.out, 0, ja, b, rfl, by decide, HRa.out.2, HRd.out, .inl (HGK.out _ HBAD.out)⟩
    · subst h0
      have his := is_any w1 p l [41] j D 0 HR.out.1 HR.out.2 HL.out (by decide)
      go_wp2_with fail
      refine his.mono ?_
      clear his
      rintro e wa ⟨rfl, hb, ja, hja, hr, hda⟩
      rw [ht] at hda ⊢
      have HBa : Hid (Below p w wa) := HB.out.trans hb
      have HRa : Hid (Rr wa p l ja D 0 ∧ ja ≤ l.length) := ⟨hr, hja⟩
      by_cases kk : tk [41] q.2.1 = true
      · rw [if_pos kk] at hda
        rw [kk]
        have HQ : Hid (cl (pF n) n u = some (q.1, go [41] q.2.1, q.2.2) ∧ D + (q.2.2 : Int) ≤ 32 ∧ nb x = q.1 ∧ tb (l.drop ja) = go [41] q.2.1) := by
          refine ⟨?_, hd, hnq, congrArg tb hda⟩
          unfold cl
          rw [hq]
          exact if_pos kk
        clear hb hr hda hja kk hq hd hnq ht
        go_wp2
        go_ret
        exact ⟨HBa.out, x, ja, 0, rfl, HX.out, HRa.out.2, HRa.out.1, .inr ⟨rfl, _, HGS.out _ HQ.out.1, HQ.out.2.1, HQ.out.2.2.1, HQ.out.2.2.2⟩⟩
      · rw [Bool.not_eq_true] at kk
        rw [kk]
        have HBAD : Hid (BadOk (cl (pF n) n u) D 11) := by
          refine ⟨by decide, fun q' hq' => ?_⟩
          unfold cl at hq'
          rw [hq] at hq'
          have h5 : (if tk [41] q.2.1 = true then some (q.1, go [41] q.2.1, q.2.2) else none) = some q' := hq'
          rw [if_neg (by rw [kk]; decide)] at h5
          cases h5
        have hff := good_fail wa p l ja D 11 hr
        clear hb hr hda hja kk hq hd hnq ht
        go_wp2_with fail
        refine hff.mono ?_
        clear hff
        rintro e wd ⟨rfl, hb, hr⟩
        have HBd : Hid (Below p w wd) := HBa.out.trans hb
        have HRd : Hid (Rr wd p l ja D 11) := hr
        clear hb hr
        go_wp2
        go_ret
        exact ⟨HBd.out, 0, ja, 11, rfl, by decide, HRa.out.2, HRd.out, .inl (HGK.out _ HBAD.out)⟩
  · go_enter Tryz.func130, Tryz.ntmps130
    go_wp2_with fail
    refine hf.mono ?_
    clear hf
    rintro e w1 ⟨hb, x, j, b, rfl, hx, hj, hr, hres⟩
    have HB : Hid (Below p w w1) := hb
    have HX : Hid (x < 2 ^ 64) := hx
    have HR : Hid (Rr w1 p l j D b ∧ j ≤ l.length) := ⟨hr, hj⟩
    clear hb hx hj hr
    rcases hres with hbad | ⟨h0, q, hq, hd, hnq, ht⟩
    · have HB0 : Hid (b ≠ 0) := hbad.1
      have HBAD : Hid (BadOk (cl (pF n) n u) D b) := by
        refine ⟨hbad.1, fun q hq => ?_⟩
        unfold cl at hq
        obtain ⟨q', h1, h2⟩ := bind_some hq
        split at h2
        · cases h2; exact hbad.2 q' h1
        · cases h2
      clear hbad
      go_wp2_with fail
      refine (bad_is _ p l [41] _ D _ HR.out.1 HR.out.2 HL.out (by decide)).mono ?_
      rintro e wa ⟨v, ja, rfl, hb, hj, hr⟩
      have HBa : Hid (Below p w wa) := HB.out.trans hb
      have HRa : Hid (Rr wa p l ja D b ∧ ja ≤ l.length) := ⟨hr, hj⟩
      clear hb hj hr
      cases v with
      | true =>
        have habs := fun w => abs_any x w HX.out
        have HV : Hid (x % 2 ^ 63 < 2 ^ 64) := by unfold Hid; omega
        generalize x % 2 ^ 63 = y at *
        go_wp2_with fail
        refine (habs _).mono ?_
        rintro e w' ⟨rfl, rfl⟩
        go_wp2
        go_ret
        exact ⟨HBa.out, y, ja, b, rfl, HV.out, HRa.out.2, HRa.out.1, .inl (HGK.out _ HBAD.out)⟩
      | false =>
        go_wp2_with fail
        refine (bad_fail _ p l _ D _ 11 HRa.out.1 HB0.out).mono ?_
        rintro e wd ⟨rfl, hb, hr⟩
        have HBd : Hid (Below p w wd) := HBa.out.trans hb
        have HRd : Hid (Rr wd p l ja D b) := hr
        clear hb hr
        go_wp2
        go_ret
        exact ⟨HBd.out, 0, ja, b, rfl, by decide, HRa.out.2, HRd.out, .inl (HGK.out _ HBAD.out)⟩
    · subst h0
      have his := is_any w1 p l [41] j D 0 HR.out.1 HR.out.2 HL.out (by decide)
      go_wp2_with fail
      refine his.mono ?_
      clear his
      rintro e wa ⟨rfl, hb, ja, hja, hr, hda⟩
      rw [ht] at hda ⊢
      have HBa : Hid (Below p w wa) := HB.out.trans hb
      have HRa : Hid (Rr wa p l ja D 0 ∧ ja ≤ l.length) := ⟨hr, hja⟩
      by_cases kk : tk [41] q.2.1 = true
      · rw [if_pos kk] at hda
        rw [kk]
        have HQ : Hid (cl (pF n) n u = some (q.1, go [41] q.2.1, q.2.2) ∧ D + (q.2.2 : Int) ≤ 32 ∧ nb x = q.1 ∧ tb (l.drop ja) = go [41] q.2.1) := by
          refine ⟨?_, hd, hnq, congrArg tb hda⟩
          unfold cl
          rw [hq]
          exact if_pos kk
        clear hb hr hda hja kk hq hd hnq ht
        have hav := abs_val x
        have habs := fun w => abs_any x w HX.out
        have HV : Hid (x % 2 ^ 63 < 2 ^ 64 ∧ nb (x % 2 ^ 63) = absN (nb x)) := ⟨by omega, hav⟩
        generalize x % 2 ^ 63 = y at *
        clear hav
        go_wp2_with fail
        refine (habs _).mono ?_
        rintro e w' ⟨rfl, rfl⟩
        go_wp2
        go_ret
        exact ⟨HBa.out, y, ja, 0, rfl, HV.out.1, HRa.out.2, HRa.out.1, .inr ⟨rfl, _, HGS.out _ HQ.out.1, HQ.out.2.1, (by rw [HV.out.2, HQ.out.2.2.1]; rfl), HQ.out.2.2.2⟩⟩
      · rw [Bool.not_eq_true] at kk
        rw [kk]
        have HBAD : Hid (BadOk (cl (pF n) n u) D 11) := by
          refine ⟨by decide, fun q' hq' => ?_⟩
          unfold cl at hq'
          rw [hq] at hq'
          have h5 : (if tk [41] q.2.1 = true then some (q.1, go [41] q.2.1, q.2.2) else none) = some q' := hq'
          rw [if_neg (by rw [kk]; decide)] at h5
          cases h5
        have hff := good_fail wa p l ja D 11 hr
        clear hb hr hda hja kk hq hd hnq ht
        go_wp2_with fail
        refine hff.mono ?_
        clear hff
        rintro e wd ⟨rfl, hb, hr⟩
        have HBd : Hid (Below p w wd) := HBa.out.trans hb
        have HRd : Hid (Rr wd p l ja D 11) := hr
        clear hb hr
        go_wp2
        go_ret
        exact ⟨HBd.out, 0, ja, 11, rfl, by decide, HRa.out.2, HRd.out, .inl (HGK.out _ HBAD.out)⟩

/-- What stands within, one deeper. -/
theorem within_any (n : Nat) (c : Nat) (hc : c = 45 ∨ c = 109 ∨ c = 77 ∨ c = 97 ∨ c = 40) (hF : RT 91 n (pF n)) :
    ∀ w p l i D, Rr w p l i D 0 → i ≤ l.length → l.length ≤ 10000 → (tb (l.drop i)).length < n → -2199023255552 ≤ D → D ≤ 32 → Calls Tryz.prog 130 #[.pointer (some ⟨p, 0, none⟩), .int .u8 c] w (RE p l (gk n c (tb (l.drop i))) D w) := by
  have hE := rexpr_any n (pF n) (pF_len n) hF
  rcases hc with rfl | rfl | rfl | rfl | rfl
  · exact within_neg n hF
  · exact within_pick n 109 (-1) (.inl ⟨rfl, rfl⟩) hE
  · exact within_pick n 77 1 (.inr ⟨rfl, rfl⟩) hE
  · exact within_sum n 97 (.inr rfl) hE
  · exact within_sum n 40 (.inl rfl) hE

theorem dp_refres {R : Res} {D : Int} {l : List UInt8} {x j : Nat} {b : Int} (h : RefRes R (D + 1) l x j b) : RefRes (dp R) D l x j b := by
  rcases h with h | ⟨h0, q, hq, hd, hn, ht⟩
  · refine .inl ⟨h.1, fun q hq => ?_⟩
    obtain ⟨q', h1, rfl⟩ := dp_some hq
    have := h.2 q' h1
    exact ⟨by simp only; omega, this.2⟩
  · refine .inr ⟨h0, (q.1, q.2.1, q.2.2 + 1), by rw [hq]; rfl, by simp only; omega, hn, ht⟩

set_option maxHeartbeats 1000000 in
theorem deeper_any (n : Nat) (c : Nat) (hc : c = 45 ∨ c = 109 ∨ c = 77 ∨ c = 97 ∨ c = 40) (hF : RT 91 n (pF n)) :
    ∀ w p l i D, Rr w p l i D 0 → i ≤ l.length → l.length ≤ 10000 → (tb (l.drop i)).length < n → -2199023255552 ≤ D → D ≤ 32 → Calls Tryz.prog 113 #[.pointer (some ⟨p, 0, none⟩), .int .u8 c] w (RE p l (dp (gk n c (tb (l.drop i)))) D w) := by
  intro w p l i D h hi hl hn hD0 hD1
  have c2 := h.c2
  have z2 := h.z2
  have hw : Calls Tryz.prog 130 #[.pointer (some ⟨p, 0, none⟩), .int .u8 c] (w.setCell ⟨p, 2, none⟩ (.int .i64 (D + 1))) fun e w' => Below p w w' ∧ ∃ x j b, e = .returned (.float .f64 x) ∧ x < 2 ^ 64 ∧ j ≤ l.length ∧ Rr w' p l j (D + 1) b ∧ RefRes (dp (gk n c (tb (l.drop i)))) D l x j b := by
    by_cases hd : 32 < D + 1
    · refine (within_deep c _ p l i (D + 1) (h.set2 (D + 1)) hd).mono ?_
      rintro e w' ⟨rfl, hb, hr⟩
      refine ⟨(rset _ p 2 _).trans hb, 0, i, 3, rfl, by decide, hi, hr, .inl ⟨by decide, fun q hq => ?_⟩⟩
      obtain ⟨q', _, rfl⟩ := dp_some hq
      exact ⟨by simp only; omega, rfl⟩
    · refine (within_any n c hc hF _ p l i (D + 1) (h.set2 (D + 1)) hi hl hn (by omega) (by omega)).mono ?_
      rintro e w' ⟨hb, x, j, b, rfl, hx, hj, hr, hres⟩
      exact ⟨(rset _ p 2 _).trans hb, x, j, b, rfl, hx, hj, hr, dp_refres hres⟩
  generalize dp (gk n c (tb (l.drop i))) = R at *
  clear h hc hF hi hl hn
  go_enter Tryz.func113, Tryz.ntmps113
  go_wp2_with fail
  refine hw.mono ?_
  clear hw c2 z2
  rintro e w1 ⟨hb, x, j, b, rfl, hx, hj, hr, hres⟩
  have c2 := hr.c2
  have z2 := hr.z2
  have HB : Hid (Below p w w1) := hb
  have HR : Hid (Rr (w1.setCell ⟨p, 2, none⟩ (.int .i64 D)) p l j D b) := hr.set2 D
  have HX : Hid (x < 2 ^ 64 ∧ j ≤ l.length ∧ RefRes R D l x j b) := ⟨hx, hj, hres⟩
  clear hb hx hj hr hres
  go_wp2
  go_ret
  exact ⟨HB.out.trans (rset _ p 2 _), x, j, b, rfl, HX.out.1, HX.out.2.1, HR.out, HX.out.2.2⟩

theorem bad_factor : RX 91 := by
  intro w p l i D b hb hr hi
  have c3 := hr.c3
  have hb' : (b == 0) = false := by simpa using hb
  have HR : Hid (Rr w p l i D b) := hr
  clear hr hb
  go_enter Tryz.func91, Tryz.ntmps91
  go_wp2
  go_ret
  exact ⟨Below.refl _ _, 0, i, rfl, by decide, hi, HR.out⟩

end Go.Proofs.YtalifohnieclhaaGreatDoor.Oct
