/-
  The document's reader of expressions: products, sums.
-/
import Derived.Test.YtalifohnieclhaaGreatDoorRa
namespace Go.Proofs.YtalifohnieclhaaGreatDoor.Oct
open Go.RowKit
open Go.Proofs.YtalifohnieclhaaGreatDoor.Fl

theorem lp_ge {F : List UInt8 → Res} {c1 c2 : UInt8} {f1 f2 : Nat → Nat → Nat} : ∀ n x l k q, lp F c1 c2 f1 f2 n x l k = some q → k ≤ q.2.2
  | 0, _, _, _, _, h => by simp [lp] at h
  | n + 1, x, l, k, q, h => by
    unfold lp at h
    split at h
    · obtain ⟨p, hp, hq⟩ := bind_some h
      have := lp_ge n _ _ _ _ hq
      omega
    · split at h
      · obtain ⟨p, hp, hq⟩ := bind_some h
        have := lp_ge n _ _ _ _ hq
        omega
      · cases h; exact Nat.le_refl _

/-- What is wrong. -/
def badn (w : World) (p : Nat) : Int := match w.cell? ⟨p, 3, none⟩ with | some (.int _ b) => b | _ => 0
theorem Rr.badn {w : World} {p : Nat} {l : List UInt8} {i : Nat} {D b : Int} (h : Rr w p l i D b) : badn w p = b := by
  unfold Go.Proofs.YtalifohnieclhaaGreatDoor.Oct.badn; rw [h.c3]

/-- It is wrong, and so the answer. -/
def BadOk (R : Res) (D b : Int) : Prop := b ≠ 0 ∧ ∀ q, R = some q → 32 < D + (q.2.2 : Int) ∧ b = 3
/-- What the document's reader says of R. -/
def RefRes (R : Res) (D : Int) (l : List UInt8) (x j : Nat) (b : Int) : Prop :=
  BadOk R D b ∨ (b = 0 ∧ ∃ q, R = some q ∧ D + (q.2.2 : Int) ≤ 32 ∧ nb x = q.1 ∧ tb (l.drop j) = q.2.1)
def RE (p : Nat) (l : List UInt8) (R : Res) (D : Int) (w : World) (e : Ending) (w' : World) : Prop :=
  Below p w w' ∧ ∃ x j b, e = .returned (.float .f64 x) ∧ x < 2 ^ 64 ∧ j ≤ l.length ∧ Rr w' p l j D b ∧ RefRes R D l x j b
def RBad (p : Nat) (l : List UInt8) (D b : Int) (w : World) (e : Ending) (w' : World) : Prop :=
  Below p w w' ∧ ∃ x j, e = .returned (.float .f64 x) ∧ x < 2 ^ 64 ∧ j ≤ l.length ∧ Rr w' p l j D b

def RT (f : FuncId) (n : Nat) (R : List UInt8 → Res) : Prop :=
  ∀ w p l i D, Rr w p l i D 0 → i ≤ l.length → l.length ≤ 10000 → (tb (l.drop i)).length < n → -2199023255552 ≤ D → D ≤ 32 → Calls Tryz.prog f #[.pointer (some ⟨p, 0, none⟩)] w (RE p l (R (tb (l.drop i))) D w)
def RX (f : FuncId) : Prop :=
  ∀ w p l i D b, b ≠ 0 → Rr w p l i D b → i ≤ l.length → Calls Tryz.prog f #[.pointer (some ⟨p, 0, none⟩)] w (RBad p l D b w)

theorem bad_lp {F : List UInt8 → Res} {c1 c2 : UInt8} {f1 f2 : Nat → Nat → Nat} {r : Res} {D b : Int} {n : Nat} {g : Nat → Nat} {k : Nat} (h : BadOk r D b) :
    BadOk (r.bind fun q => lp F c1 c2 f1 f2 n (g q.1) q.2.1 (max k q.2.2)) D b := by
  refine ⟨h.1, fun q hq => ?_⟩
  obtain ⟨q', h1, h2⟩ := bind_some hq
  have h3 := h.2 q' h1
  have := lp_ge _ _ _ _ _ h2
  exact ⟨by omega, h3.2⟩

theorem bad_ps {F : List UInt8 → Res} {c1 c2 : UInt8} {f1 f2 : Nat → Nat → Nat} {u : List UInt8} {D b : Int} {n : Nat} (h : BadOk (F u) D b) : BadOk (ps F c1 c2 f1 f2 n u) D b := by
  refine ⟨h.1, fun q hq => ?_⟩
  obtain ⟨q', h1, h2⟩ := bind_some hq
  have h3 := h.2 q' h1
  have := lp_ge _ _ _ _ _ h2
  exact ⟨by omega, h3.2⟩

theorem bad_product (hX : RX 91) : RX 69 := by
  intro w p l i D b hb hr hi
  have hf := hX w p l i D b hb hr hi
  have hb' : (b == 0) = false := by simpa using hb
  clear hX hr hb
  go_enter Tryz.func69, Tryz.ntmps69
  go_wp2_with fail
  refine hf.mono ?_
  clear hf
  rintro e w1 ⟨hb1, x, j, rfl, hx, hj, hr⟩
  have HB : Hid (Below p w w1) := hb1
  have HR : Hid (Rr w1 p l j D b) := hr
  have c3 := hr.c3
  clear hb1 hr hx
  go_wp2
  refine wp_loop_rounds 1 ?_
  rw [rounds_succ]
  go_wp2
  go_ret
  exact ⟨HB.out, 0, j, rfl, by decide, hj, HR.out⟩

set_option maxHeartbeats 4000000 in
theorem rproduct_any (n : Nat) (F : List UInt8 → Res) (hS : Sh F) (hF : RT 91 n F) : RT 69 n (ps F 42 47 mulN quoN n) := by
  intro w p l i D h hi hl hn hD0 hD1
  have hf := hF w p l i D h hi hl hn hD0 hD1
  have HF : Hid (RT 91 n F) := hF
  have HS : Hid (Sh F) := hS
  have HL : Hid (l.length ≤ 10000 ∧ (tb (l.drop i)).length < n ∧ -2199023255552 ≤ D ∧ D ≤ 32) := ⟨hl, hn, hD0, hD1⟩
  obtain ⟨u, hu⟩ : ∃ u, tb (l.drop i) = u := ⟨_, rfl⟩
  rw [hu] at hf HL ⊢
  obtain ⟨R, hR⟩ : ∃ R, ps F 42 47 mulN quoN n u = R := ⟨_, rfl⟩
  have HRR : Hid (ps F 42 47 mulN quoN n u = R) := hR
  rw [hR]
  clear hF hS h hi hl hn hD0 hD1 hu hR
  go_enter Tryz.func69, Tryz.ntmps69
  go_wp2_with fail
  refine hf.mono ?_
  clear hf
  rintro e w1 ⟨hb, x, j, b, rfl, hx, hj, hr, hres⟩
  have HB : Hid (Below p w w1) := hb
  have HX : Hid (x < 2 ^ 64 ∧ j ≤ l.length) := ⟨hx, hj⟩
  have HR : Hid (Rr w1 p l j D b) := hr
  have HE : Hid (RefRes (F u) D l x j b) := hres
  clear hb hx hj hr hres
  go_wp2
  go_loopw [3] (fun y wr => ∃ (z j : Nat) (b : Int), y = .float .f64 z ∧ Hid (z < 2 ^ 64 ∧ j ≤ l.length) ∧ Hid (Rr wr p l j D b) ∧ Hid (Below p w wr) ∧
      Hid (BadOk R D b ∨ (b = 0 ∧ ∃ m k, lp F 42 47 mulN quoN m (nb z) (tb (l.drop j)) k = R ∧ D + (k : Int) ≤ 32 ∧ (tb (l.drop j)).length < m ∧ (tb (l.drop j)).length < n))) (fun _ wr => if badn wr p = 0 then 1 + (tb (l.drop (posn wr p))).length else 0)
  case atStart =>
    refine ⟨x, j, b, rfl, HX.out, HR.out, HB.out, ?_⟩
    rcases HE.out with hbad | ⟨h0, q, hq, hd, hn, ht⟩
    · refine .inl ?_
      rw [← HRR.out]; exact bad_ps hbad
    · have h1 := HS.out _ _ hq
      have h2 := HL.out
      refine .inr ⟨h0, n, q.2.2, ?_, hd, by rw [ht]; omega, by rw [ht]; omega⟩
      rw [← HRR.out]; unfold ps; rw [hq, hn, ht]; rfl
  case round =>
    obtain ⟨z, j, b, rfl, HZ, HJ, HB2, HI⟩ := hrel
    have c3 := HJ.out.c3
    rcases HI.out with hbad | ⟨hb0, m, k, hlp, hdk, htm, htn⟩
    · have hb' : (b == 0) = false := by simpa using hbad.1
      go_wp2
      go_ret
      exact ⟨HB2.out, 0, j, b, rfl, by decide, HZ.out.2, HJ.out, .inl hbad⟩
    · subst hb0
      rcases m with _ | m
      · exact absurd htm (Nat.not_lt_zero _)
      have HLP : Hid (lp F 42 47 mulN quoN (m + 1) (nb z) (tb (l.drop j)) k = R ∧ D + (k : Int) ≤ 32 ∧ (tb (l.drop j)).length < m + 1 ∧ (tb (l.drop j)).length < n) := ⟨hlp, hdk, htm, htn⟩
      have HMS : Hid ((if badn wr p = 0 then 1 + (tb (l.drop (posn wr p))).length else 0) = 1 + (tb (l.drop j)).length) := by
        unfold Hid; rw [HJ.out.badn, if_pos rfl, HJ.out.posn]
      clear hlp hdk htm htn HI
      have his := is_any wr p l [42] j D 0 HJ.out HZ.out.2 HL.out.1 (by decide)
      by_cases kk : tk [42] (tb (l.drop j)) = true
      · have HBx : Hid (Below p w wr) := HB2.out
        go_wp2_with fail
        refine his.mono ?_
        clear his
        rintro e w2 ⟨rfl, hb2, j2, hj2, hr2, hd2⟩
        rw [if_pos kk] at hd2
        rw [kk]
        have HG : Hid (tb (l.drop j2) = go [42] (tb (l.drop j))) := congrArg tb hd2
        have HGL : Hid ((go [42] (tb (l.drop j))).length < (tb (l.drop j)).length) := go_len kk (by simp)
        have HE2 : Hid ((F (go [42] (tb (l.drop j)))).bind (fun r => lp F 42 47 mulN quoN m (mulN (nb z) r.1) r.2.1 (max k r.2.2)) = R) := by
          have h1 := HLP.out.1
          unfold lp at h1
          rw [if_pos kk] at h1
          exact h1
        have HB3 : Hid (Below p w w2) := HBx.out.trans hb2
        have hf := HF.out w2 p l j2 D hr2 hj2 HL.out.1 (by rw [HG.out]; have := HGL.out; have := HLP.out; omega) HL.out.2.2.1 HL.out.2.2.2
        rw [HG.out] at hf
        clear hb2 hr2 hd2 hj2 kk
        go_wp2_with fail
        refine hf.mono ?_
        clear hf
        rintro e w3 ⟨hb, y, j3, b3, rfl, hy, hj3, hr3, hres⟩
        obtain ⟨r, w4, hb4, hr4, hn4, hop⟩ := run_op (op := .mul) (by simp [Ar]) z y w3
        have HB5 : Hid (Below p w w4) := (HB3.out.trans hb).trans (hb4.mono (Nat.le_of_lt hr3.lt))
        have HR5 : Hid (Rr w4 p l j3 D b3) := hr3.below hb4
        have HX5 : Hid (r < 2 ^ 64 ∧ j3 ≤ l.length) := ⟨hr4, hj3⟩
        have HI5 : Hid ((BadOk R D b3 ∨ (b3 = 0 ∧ ∃ m k, lp F 42 47 mulN quoN m (nb r) (tb (l.drop j3)) k = R ∧ D + (k : Int) ≤ 32 ∧ (tb (l.drop j3)).length < m ∧ (tb (l.drop j3)).length < n)) ∧ (b3 = 0 → (tb (l.drop j3)).length < (tb (l.drop j)).length)) := by
          rcases hres with hbad | ⟨h0, q, hq, hd, hnq, ht⟩
          · refine ⟨.inl ?_, fun h => absurd h hbad.1⟩
            rw [← HE2.out]; exact bad_lp hbad
          · have h1 := HS.out _ _ hq
            have h2 := HGL.out
            have h3 := HLP.out
            refine ⟨.inr ⟨h0, m, max k q.2.2, ?_, by omega, by rw [ht]; omega, by rw [ht]; omega⟩, fun _ => by rw [ht]; omega⟩
            rw [← HE2.out, hq, hn4, hnq, ht]; rfl
        clear hb hy hj3 hr3 hres hb4 hr4 hn4
        go_wp2
        go_roundw
        case rel => exact ⟨r, j3, b3, rfl, HX5.out, HR5.out, HB5.out, HI5.out.1⟩
        case measure =>
          show (if badn w4 p = 0 then 1 + (tb (l.drop (posn w4 p))).length else 0) < (if badn wr p = 0 then 1 + (tb (l.drop (posn wr p))).length else 0)
          rw [HMS.out, HR5.out.badn, HR5.out.posn]
          split
          · rename_i h0; have := HI5.out.2 h0; omega
          · omega
      · rw [Bool.not_eq_true] at kk
        have K1 : Hid (tk [42] (tb (l.drop j)) = false) := kk
        go_wp2_with fail
        refine his.mono ?_
        clear his
        rintro e wa ⟨rfl, hba, ja, hja, hra, hda⟩
        rw [if_neg (by rw [kk]; decide)] at hda
        rw [kk]
        have HTB : Hid (tb (l.drop ja) = tb (l.drop j)) := by unfold Hid; rw [hda, tb_tb]
        have HBx : Hid (Below p w wa) := HB2.out.trans hba
        have his : Calls Tryz.prog 70 #[.pointer (some ⟨p, 0, none⟩), .string ⟨#[47]⟩] wa fun e w' => e = .returned (.bool (tk [47] (tb (l.drop j)))) ∧ Below p wa w' ∧ ∃ i, i ≤ l.length ∧ Rr w' p l i D 0 ∧ (if tk [47] (tb (l.drop j)) then l.drop i = (tb (l.drop j)).drop 1 else l.drop i = tb (l.drop j)) := by
          have := is_any wa p l [47] ja D 0 hra hja HL.out.1 (by decide)
          refine this.mono fun e w' h => ?_
          unfold IsEnd at h
          rw [HTB.out] at h
          exact h
        clear kk hba hra hda hja
        by_cases kk : tk [47] (tb (l.drop j)) = true
        · go_wp2_with fail
          refine his.mono ?_
          clear his
          rintro e w2 ⟨rfl, hb2, j2, hj2, hr2, hd2⟩
          rw [if_pos kk] at hd2
          rw [kk]
          have HG : Hid (tb (l.drop j2) = go [47] (tb (l.drop j))) := congrArg tb hd2
          have HGL : Hid ((go [47] (tb (l.drop j))).length < (tb (l.drop j)).length) := go_len kk (by simp)
          have HE2 : Hid ((F (go [47] (tb (l.drop j)))).bind (fun r => lp F 42 47 mulN quoN m (quoN (nb z) r.1) r.2.1 (max k r.2.2)) = R) := by
            have h1 := HLP.out.1
            unfold lp at h1
            rw [if_neg (by rw [K1.out]; decide), if_pos kk] at h1
            exact h1
          have HB3 : Hid (Below p w w2) := HBx.out.trans hb2
          have hf := HF.out w2 p l j2 D hr2 hj2 HL.out.1 (by rw [HG.out]; have := HGL.out; have := HLP.out; omega) HL.out.2.2.1 HL.out.2.2.2
          rw [HG.out] at hf
          clear hb2 hr2 hd2 hj2 kk
          go_wp2_with fail
          refine hf.mono ?_
          clear hf
          rintro e w3 ⟨hb, y, j3, b3, rfl, hy, hj3, hr3, hres⟩
          obtain ⟨r, w4, hb4, hr4, hn4, hop⟩ := run_op (op := .quo) (by simp [Ar]) z y w3
          have HB5 : Hid (Below p w w4) := (HB3.out.trans hb).trans (hb4.mono (Nat.le_of_lt hr3.lt))
          have HR5 : Hid (Rr w4 p l j3 D b3) := hr3.below hb4
          have HX5 : Hid (r < 2 ^ 64 ∧ j3 ≤ l.length) := ⟨hr4, hj3⟩
          have HI5 : Hid ((BadOk R D b3 ∨ (b3 = 0 ∧ ∃ m k, lp F 42 47 mulN quoN m (nb r) (tb (l.drop j3)) k = R ∧ D + (k : Int) ≤ 32 ∧ (tb (l.drop j3)).length < m ∧ (tb (l.drop j3)).length < n)) ∧ (b3 = 0 → (tb (l.drop j3)).length < (tb (l.drop j)).length)) := by
            rcases hres with hbad | ⟨h0, q, hq, hd, hnq, ht⟩
            · refine ⟨.inl ?_, fun h => absurd h hbad.1⟩
              rw [← HE2.out]; exact bad_lp hbad
            · have h1 := HS.out _ _ hq
              have h2 := HGL.out
              have h3 := HLP.out
              refine ⟨.inr ⟨h0, m, max k q.2.2, ?_, by omega, by rw [ht]; omega, by rw [ht]; omega⟩, fun _ => by rw [ht]; omega⟩
              rw [← HE2.out, hq, hn4, hnq, ht]; rfl
          clear hb hy hj3 hr3 hres hb4 hr4 hn4
          go_wp2
          go_roundw
          case rel => exact ⟨r, j3, b3, rfl, HX5.out, HR5.out, HB5.out, HI5.out.1⟩
          case measure =>
            show (if badn w4 p = 0 then 1 + (tb (l.drop (posn w4 p))).length else 0) < (if badn wr p = 0 then 1 + (tb (l.drop (posn wr p))).length else 0)
            rw [HMS.out, HR5.out.badn, HR5.out.posn]
            split
            · rename_i h0; have := HI5.out.2 h0; omega
            · omega
        · rw [Bool.not_eq_true] at kk
          have HRS : Hid (some (nb z, tb (l.drop j), k) = R) := by
            have h1 := HLP.out.1
            unfold lp at h1
            rw [if_neg (by rw [K1.out]; decide), if_neg (by rw [kk]; decide)] at h1
            exact h1
          go_wp2_with fail
          refine his.mono ?_
          clear his
          rintro e w2 ⟨rfl, hb2, j2, hj2, hr2, hd2⟩
          rw [if_neg (by rw [kk]; decide)] at hd2
          rw [kk]
          have HTB2 : Hid (tb (l.drop j2) = tb (l.drop j)) := by unfold Hid; rw [hd2, tb_tb]
          have HB3 : Hid (Below p w w2) := HBx.out.trans hb2
          have HR2 : Hid (Rr w2 p l j2 D 0 ∧ j2 ≤ l.length) := ⟨hr2, hj2⟩
          clear hb2 hr2 hd2 hj2 kk
          go_wp2
          go_ret
          exact ⟨HB3.out, z, j2, 0, rfl, HZ.out.1, HR2.out.2, HR2.out.1, .inr ⟨rfl, _, HRS.out.symm, HLP.out.2.1, rfl, HTB2.out⟩⟩

theorem bad_sum (hX : RX 69) : RX 47 := by
  intro w p l i D b hb hr hi
  have hf := hX w p l i D b hb hr hi
  have hb' : (b == 0) = false := by simpa using hb
  clear hX hr hb
  go_enter Tryz.func47, Tryz.ntmps47
  go_wp2_with fail
  refine hf.mono ?_
  clear hf
  rintro e w1 ⟨hb1, x, j, rfl, hx, hj, hr⟩
  have HB : Hid (Below p w w1) := hb1
  have HR : Hid (Rr w1 p l j D b) := hr
  have c3 := hr.c3
  clear hb1 hr hx
  go_wp2
  refine wp_loop_rounds 1 ?_
  rw [rounds_succ]
  go_wp2
  go_ret
  exact ⟨HB.out, 0, j, rfl, by decide, hj, HR.out⟩

set_option maxHeartbeats 4000000 in
theorem rsum_any (n : Nat) (F : List UInt8 → Res) (hS : Sh F) (hF : RT 69 n F) : RT 47 n (ps F 43 45 addN subN n) := by
  intro w p l i D h hi hl hn hD0 hD1
  have hf := hF w p l i D h hi hl hn hD0 hD1
  have HF : Hid (RT 69 n F) := hF
  have HS : Hid (Sh F) := hS
  have HL : Hid (l.length ≤ 10000 ∧ (tb (l.drop i)).length < n ∧ -2199023255552 ≤ D ∧ D ≤ 32) := ⟨hl, hn, hD0, hD1⟩
  obtain ⟨u, hu⟩ : ∃ u, tb (l.drop i) = u := ⟨_, rfl⟩
  rw [hu] at hf HL ⊢
  obtain ⟨R, hR⟩ : ∃ R, ps F 43 45 addN subN n u = R := ⟨_, rfl⟩
  have HRR : Hid (ps F 43 45 addN subN n u = R) := hR
  rw [hR]
  clear hF hS h hi hl hn hD0 hD1 hu hR
  go_enter Tryz.func47, Tryz.ntmps47
  go_wp2_with fail
  refine hf.mono ?_
  clear hf
  rintro e w1 ⟨hb, x, j, b, rfl, hx, hj, hr, hres⟩
  have HB : Hid (Below p w w1) := hb
  have HX : Hid (x < 2 ^ 64 ∧ j ≤ l.length) := ⟨hx, hj⟩
  have HR : Hid (Rr w1 p l j D b) := hr
  have HE : Hid (RefRes (F u) D l x j b) := hres
  clear hb hx hj hr hres
  go_wp2
  go_loopw [3] (fun y wr => ∃ (z j : Nat) (b : Int), y = .float .f64 z ∧ Hid (z < 2 ^ 64 ∧ j ≤ l.length) ∧ Hid (Rr wr p l j D b) ∧ Hid (Below p w wr) ∧
      Hid (BadOk R D b ∨ (b = 0 ∧ ∃ m k, lp F 43 45 addN subN m (nb z) (tb (l.drop j)) k = R ∧ D + (k : Int) ≤ 32 ∧ (tb (l.drop j)).length < m ∧ (tb (l.drop j)).length < n))) (fun _ wr => if badn wr p = 0 then 1 + (tb (l.drop (posn wr p))).length else 0)
  case atStart =>
    refine ⟨x, j, b, rfl, HX.out, HR.out, HB.out, ?_⟩
    rcases HE.out with hbad | ⟨h0, q, hq, hd, hn, ht⟩
    · refine .inl ?_
      rw [← HRR.out]; exact bad_ps hbad
    · have h1 := HS.out _ _ hq
      have h2 := HL.out
      refine .inr ⟨h0, n, q.2.2, ?_, hd, by rw [ht]; omega, by rw [ht]; omega⟩
      rw [← HRR.out]; unfold ps; rw [hq, hn, ht]; rfl
  case round =>
    obtain ⟨z, j, b, rfl, HZ, HJ, HB2, HI⟩ := hrel
    have c3 := HJ.out.c3
    rcases HI.out with hbad | ⟨hb0, m, k, hlp, hdk, htm, htn⟩
    · have hb' : (b == 0) = false := by simpa using hbad.1
      go_wp2
      go_ret
      exact ⟨HB2.out, 0, j, b, rfl, by decide, HZ.out.2, HJ.out, .inl hbad⟩
    · subst hb0
      rcases m with _ | m
      · exact absurd htm (Nat.not_lt_zero _)
      have HLP : Hid (lp F 43 45 addN subN (m + 1) (nb z) (tb (l.drop j)) k = R ∧ D + (k : Int) ≤ 32 ∧ (tb (l.drop j)).length < m + 1 ∧ (tb (l.drop j)).length < n) := ⟨hlp, hdk, htm, htn⟩
      have HMS : Hid ((if badn wr p = 0 then 1 + (tb (l.drop (posn wr p))).length else 0) = 1 + (tb (l.drop j)).length) := by
        unfold Hid; rw [HJ.out.badn, if_pos rfl, HJ.out.posn]
      clear hlp hdk htm htn HI
      have his := is_any wr p l [43] j D 0 HJ.out HZ.out.2 HL.out.1 (by decide)
      by_cases kk : tk [43] (tb (l.drop j)) = true
      · have HBx : Hid (Below p w wr) := HB2.out
        go_wp2_with fail
        refine his.mono ?_
        clear his
        rintro e w2 ⟨rfl, hb2, j2, hj2, hr2, hd2⟩
        rw [if_pos kk] at hd2
        rw [kk]
        have HG : Hid (tb (l.drop j2) = go [43] (tb (l.drop j))) := congrArg tb hd2
        have HGL : Hid ((go [43] (tb (l.drop j))).length < (tb (l.drop j)).length) := go_len kk (by simp)
        have HE2 : Hid ((F (go [43] (tb (l.drop j)))).bind (fun r => lp F 43 45 addN subN m (addN (nb z) r.1) r.2.1 (max k r.2.2)) = R) := by
          have h1 := HLP.out.1
          unfold lp at h1
          rw [if_pos kk] at h1
          exact h1
        have HB3 : Hid (Below p w w2) := HBx.out.trans hb2
        have hf := HF.out w2 p l j2 D hr2 hj2 HL.out.1 (by rw [HG.out]; have := HGL.out; have := HLP.out; omega) HL.out.2.2.1 HL.out.2.2.2
        rw [HG.out] at hf
        clear hb2 hr2 hd2 hj2 kk
        go_wp2_with fail
        refine hf.mono ?_
        clear hf
        rintro e w3 ⟨hb, y, j3, b3, rfl, hy, hj3, hr3, hres⟩
        obtain ⟨r, w4, hb4, hr4, hn4, hop⟩ := run_op (op := .add) (by simp [Ar]) z y w3
        have HB5 : Hid (Below p w w4) := (HB3.out.trans hb).trans (hb4.mono (Nat.le_of_lt hr3.lt))
        have HR5 : Hid (Rr w4 p l j3 D b3) := hr3.below hb4
        have HX5 : Hid (r < 2 ^ 64 ∧ j3 ≤ l.length) := ⟨hr4, hj3⟩
        have HI5 : Hid ((BadOk R D b3 ∨ (b3 = 0 ∧ ∃ m k, lp F 43 45 addN subN m (nb r) (tb (l.drop j3)) k = R ∧ D + (k : Int) ≤ 32 ∧ (tb (l.drop j3)).length < m ∧ (tb (l.drop j3)).length < n)) ∧ (b3 = 0 → (tb (l.drop j3)).length < (tb (l.drop j)).length)) := by
          rcases hres with hbad | ⟨h0, q, hq, hd, hnq, ht⟩
          · refine ⟨.inl ?_, fun h => absurd h hbad.1⟩
            rw [← HE2.out]; exact bad_lp hbad
          · have h1 := HS.out _ _ hq
            have h2 := HGL.out
            have h3 := HLP.out
            refine ⟨.inr ⟨h0, m, max k q.2.2, ?_, by omega, by rw [ht]; omega, by rw [ht]; omega⟩, fun _ => by rw [ht]; omega⟩
            rw [← HE2.out, hq, hn4, hnq, ht]; rfl
        clear hb hy hj3 hr3 hres hb4 hr4 hn4
        go_wp2
        go_roundw
        case rel => exact ⟨r, j3, b3, rfl, HX5.out, HR5.out, HB5.out, HI5.out.1⟩
        case measure =>
          show (if badn w4 p = 0 then 1 + (tb (l.drop (posn w4 p))).length else 0) < (if badn wr p = 0 then 1 + (tb (l.drop (posn wr p))).length else 0)
          rw [HMS.out, HR5.out.badn, HR5.out.posn]
          split
          · rename_i h0; have := HI5.out.2 h0; omega
          · omega
      · rw [Bool.not_eq_true] at kk
        have K1 : Hid (tk [43] (tb (l.drop j)) = false) := kk
        go_wp2_with fail
        refine his.mono ?_
        clear his
        rintro e wa ⟨rfl, hba, ja, hja, hra, hda⟩
        rw [if_neg (by rw [kk]; decide)] at hda
        rw [kk]
        have HTB : Hid (tb (l.drop ja) = tb (l.drop j)) := by unfold Hid; rw [hda, tb_tb]
        have HBx : Hid (Below p w wa) := HB2.out.trans hba
        have his : Calls Tryz.prog 70 #[.pointer (some ⟨p, 0, none⟩), .string ⟨#[45]⟩] wa fun e w' => e = .returned (.bool (tk [45] (tb (l.drop j)))) ∧ Below p wa w' ∧ ∃ i, i ≤ l.length ∧ Rr w' p l i D 0 ∧ (if tk [45] (tb (l.drop j)) then l.drop i = (tb (l.drop j)).drop 1 else l.drop i = tb (l.drop j)) := by
          have := is_any wa p l [45] ja D 0 hra hja HL.out.1 (by decide)
          refine this.mono fun e w' h => ?_
          unfold IsEnd at h
          rw [HTB.out] at h
          exact h
        clear kk hba hra hda hja
        by_cases kk : tk [45] (tb (l.drop j)) = true
        · go_wp2_with fail
          refine his.mono ?_
          clear his
          rintro e w2 ⟨rfl, hb2, j2, hj2, hr2, hd2⟩
          rw [if_pos kk] at hd2
          rw [kk]
          have HG : Hid (tb (l.drop j2) = go [45] (tb (l.drop j))) := congrArg tb hd2
          have HGL : Hid ((go [45] (tb (l.drop j))).length < (tb (l.drop j)).length) := go_len kk (by simp)
          have HE2 : Hid ((F (go [45] (tb (l.drop j)))).bind (fun r => lp F 43 45 addN subN m (subN (nb z) r.1) r.2.1 (max k r.2.2)) = R) := by
            have h1 := HLP.out.1
            unfold lp at h1
            rw [if_neg (by rw [K1.out]; decide), if_pos kk] at h1
            exact h1
          have HB3 : Hid (Below p w w2) := HBx.out.trans hb2
          have hf := HF.out w2 p l j2 D hr2 hj2 HL.out.1 (by rw [HG.out]; have := HGL.out; have := HLP.out; omega) HL.out.2.2.1 HL.out.2.2.2
          rw [HG.out] at hf
          clear hb2 hr2 hd2 hj2 kk
          go_wp2_with fail
          refine hf.mono ?_
          clear hf
          rintro e w3 ⟨hb, y, j3, b3, rfl, hy, hj3, hr3, hres⟩
          obtain ⟨r, w4, hb4, hr4, hn4, hop⟩ := run_op (op := .sub) (by simp [Ar]) z y w3
          have HB5 : Hid (Below p w w4) := (HB3.out.trans hb).trans (hb4.mono (Nat.le_of_lt hr3.lt))
          have HR5 : Hid (Rr w4 p l j3 D b3) := hr3.below hb4
          have HX5 : Hid (r < 2 ^ 64 ∧ j3 ≤ l.length) := ⟨hr4, hj3⟩
          have HI5 : Hid ((BadOk R D b3 ∨ (b3 = 0 ∧ ∃ m k, lp F 43 45 addN subN m (nb r) (tb (l.drop j3)) k = R ∧ D + (k : Int) ≤ 32 ∧ (tb (l.drop j3)).length < m ∧ (tb (l.drop j3)).length < n)) ∧ (b3 = 0 → (tb (l.drop j3)).length < (tb (l.drop j)).length)) := by
            rcases hres with hbad | ⟨h0, q, hq, hd, hnq, ht⟩
            · refine ⟨.inl ?_, fun h => absurd h hbad.1⟩
              rw [← HE2.out]; exact bad_lp hbad
            · have h1 := HS.out _ _ hq
              have h2 := HGL.out
              have h3 := HLP.out
              refine ⟨.inr ⟨h0, m, max k q.2.2, ?_, by omega, by rw [ht]; omega, by rw [ht]; omega⟩, fun _ => by rw [ht]; omega⟩
              rw [← HE2.out, hq, hn4, hnq, ht]; rfl
          clear hb hy hj3 hr3 hres hb4 hr4 hn4
          go_wp2
          go_roundw
          case rel => exact ⟨r, j3, b3, rfl, HX5.out, HR5.out, HB5.out, HI5.out.1⟩
          case measure =>
            show (if badn w4 p = 0 then 1 + (tb (l.drop (posn w4 p))).length else 0) < (if badn wr p = 0 then 1 + (tb (l.drop (posn wr p))).length else 0)
            rw [HMS.out, HR5.out.badn, HR5.out.posn]
            split
            · rename_i h0; have := HI5.out.2 h0; omega
            · omega
        · rw [Bool.not_eq_true] at kk
          have HRS : Hid (some (nb z, tb (l.drop j), k) = R) := by
            have h1 := HLP.out.1
            unfold lp at h1
            rw [if_neg (by rw [K1.out]; decide), if_neg (by rw [kk]; decide)] at h1
            exact h1
          go_wp2_with fail
          refine his.mono ?_
          clear his
          rintro e w2 ⟨rfl, hb2, j2, hj2, hr2, hd2⟩
          rw [if_neg (by rw [kk]; decide)] at hd2
          rw [kk]
          have HTB2 : Hid (tb (l.drop j2) = tb (l.drop j)) := by unfold Hid; rw [hd2, tb_tb]
          have HB3 : Hid (Below p w w2) := HBx.out.trans hb2
          have HR2 : Hid (Rr w2 p l j2 D 0 ∧ j2 ≤ l.length) := ⟨hr2, hj2⟩
          clear hb2 hr2 hd2 hj2 kk
          go_wp2
          go_ret
          exact ⟨HB3.out, z, j2, 0, rfl, HZ.out.1, HR2.out.2, HR2.out.1, .inr ⟨rfl, _, HRS.out.symm, HLP.out.2.1, rfl, HTB2.out⟩⟩

theorem rexpr_any (n : Nat) (F : List UInt8 → Res) (hS : Sh F) (hF : RT 91 n F) : RT 47 n (pE F n) :=
  rsum_any n (pT F n) (ps_len hS 42 47 mulN quoN n) (rproduct_any n F hS hF)

end Go.Proofs.YtalifohnieclhaaGreatDoor.Oct
