/-
  The document's reader of expressions: factors, whole texts.
-/
import Derived.Test.YtalifohnieclhaaGreatDoorRf2
import Derived.Test.YtalifohnieclhaaGreatDoorRg
import Derived.Test.YtalifohnieclhaaGreatDoorCn
import Derived.Deep.RegionWith
namespace Go.Proofs.YtalifohnieclhaaGreatDoor.Oct
open Go.RowKit
open Go.Proofs.YtalifohnieclhaaGreatDoor.Fl

theorem dgU_q (c : UInt8) (w : World) (n : Nat) : Calls Tryz.prog 65 #[.int .u8 (c.toNat : Int)] (w.drewN n) fun e w'' => e = .returned (.bool (dgU c)) ∧ ∃ m, w'' = w.drewN m := by
  refine (digit_any c (w.drewN n)).mono ?_
  rintro e w' ⟨rfl, rfl⟩
  exact ⟨rfl, n, rfl⟩

theorem nc_eq (c : UInt8) : nc c = (dgU c || c == 46) := by
  have : ∀ i : Fin 256, nc (UInt8.ofNat i.val) = (dgU (UInt8.ofNat i.val) || UInt8.ofNat i.val == 46) := by decide +kernel
  have := this ⟨c.toNat, c.toNat_lt⟩
  simpa using this

/-- Heads that no number has. -/
theorem head_no {u : List UInt8} {c : UInt8} {t : List UInt8} (h : tk (c :: t) u = true) (hc : nc c = false) : u.takeWhile nc = [] := by
  obtain ⟨r, rfl⟩ := List.isPrefixOf_iff_prefix.1 h
  rw [List.cons_append, List.takeWhile_cons, hc]
  rfl

theorem dcm_nil : dcm [] = none := by decide +kernel

theorem tk_heads {c d : UInt8} {s t u : List UInt8} (h : tk (c :: s) u = true) (hcd : c ≠ d) : tk (d :: t) u = false := by
  obtain ⟨r, rfl⟩ := List.isPrefixOf_iff_prefix.1 h
  rw [List.cons_append]
  simp only [tk, List.isPrefixOf]
  rw [show (d == c) = false by simpa using fun e => hcd e.symm]
  rfl

theorem not_min {u : List UInt8} (h : tk [109, 97, 120] u = true) : tk [109, 105, 110] u = false := by
  obtain ⟨r, rfl⟩ := List.isPrefixOf_iff_prefix.1 h
  rfl

theorem nb_a1 : nb 9221120237041090561 = 0x7ff8000000000001 := by decide +kernel
theorem nb_b1 : nb 9218868437227405312 = 0x7ff0000000000000 := by decide +kernel

/-- The number at the end of a factor's questions. -/
theorem pF_num (n : Nat) (u : List UInt8) (h1 : tk [45] u = false) (h2 : tk [40] u = false) (h3 : (tk [109, 105, 110] u && tk [40] (go [109, 105, 110] u)) = false) (h4 : (tk [109, 97, 120] u && tk [40] (go [109, 97, 120] u)) = false) (h5 : (tk [97, 98, 115] u && tk [40] (go [97, 98, 115] u)) = false) (h6 : tk [110, 97, 110] u = false) (h7 : tk [105, 110, 102] u = false) :
    pF (n + 1) u = (dcm (u.takeWhile nc)).bind fun v => some (v, tb (u.dropWhile nc), 0) := by
  unfold pF
  rw [if_neg (ne_t h1), if_neg (ne_t h2)]
  by_cases k3 : tk [109, 105, 110] u = true
  · rw [if_pos k3, head_no k3 (by decide), dcm_nil]
    rw [k3, Bool.true_and] at h3
    unfold ch; rw [if_neg (ne_t h3)]; rfl
  rw [if_neg k3]
  by_cases k4 : tk [109, 97, 120] u = true
  · rw [if_pos k4, head_no k4 (by decide), dcm_nil]
    rw [k4, Bool.true_and] at h4
    unfold ch; rw [if_neg (ne_t h4)]; rfl
  rw [if_neg k4]
  by_cases k5 : tk [97, 98, 115] u = true
  · rw [if_pos k5, head_no k5 (by decide), dcm_nil]
    rw [k5, Bool.true_and] at h5
    unfold ab; rw [if_neg (ne_t h5)]; rfl
  rw [if_neg k5, if_neg (ne_t h6), if_neg (ne_t h7)]

/-- is(t), where u stands. -/
def IsAt (p : Nat) (l t u : List UInt8) (D : Int) (w : World) (e : Ending) (w' : World) : Prop :=
  e = .returned (.bool (tk t u)) ∧ Below p w w' ∧ ∃ j, j ≤ l.length ∧ Rr w' p l j D 0 ∧ (tk t u = true → tb (l.drop j) = go t u) ∧ (tk t u = false → l.drop j = u)

theorem is_at (w : World) (p : Nat) (l t u : List UInt8) (j : Nat) (D : Int) (h : Rr w p l j D 0) (hj : j ≤ l.length) (hl : l.length ≤ 10000) (ht : t.length ≤ 10) (hu : tb (l.drop j) = u) :
    Calls Tryz.prog 70 #[.pointer (some ⟨p, 0, none⟩), .string ⟨t.toArray⟩] w (IsAt p l t u D w) := by
  refine (is_any w p l t j D 0 h hj hl ht).mono ?_
  rintro e w' ⟨rfl, hb, j', hj', hr, hd⟩
  rw [hu] at hd ⊢
  refine ⟨rfl, hb, j', hj', hr, fun hk => ?_, fun hk => ?_⟩
  · rw [if_pos hk] at hd; exact congrArg tb hd
  · rw [if_neg (ne_t hk)] at hd; exact hd

def CallAt (p : Nat) (l t u : List UInt8) (D : Int) (w : World) (e : Ending) (w' : World) : Prop :=
  e = .returned (.bool (tk t u && tk [40] (go t u))) ∧ Below p w w' ∧ ∃ j, j ≤ l.length ∧ Rr w' p l j D 0 ∧ ((tk t u && tk [40] (go t u)) = true → tb (l.drop j) = go [40] (go t u)) ∧ ((tk t u && tk [40] (go t u)) = false → tb (l.drop j) = u)

theorem call_at (w : World) (p : Nat) (l t u : List UInt8) (j : Nat) (D : Int) (h : Rr w p l j D 0) (hj : j ≤ l.length) (hl : l.length ≤ 10000) (ht : t.length ≤ 10) (hu : tb (l.drop j) = u) :
    Calls Tryz.prog 114 #[.pointer (some ⟨p, 0, none⟩), .string ⟨t.toArray⟩] w (CallAt p l t u D w) := by
  refine (call_any w p l t j D 0 h hj hl ht).mono ?_
  rintro e w' ⟨rfl, hb, j', hj', hr, hd⟩
  rw [hu] at hd ⊢
  refine ⟨rfl, hb, j', hj', hr, fun hk => ?_, fun hk => ?_⟩
  · rw [if_pos hk] at hd; exact hd
  · rw [if_neg (ne_t hk)] at hd; rw [hd]; exact hu

theorem tw_of {u pre r : List UInt8} (h : u = pre ++ r) (hp : ∀ c ∈ pre, nc c = true) (hr : ∀ c m, r = c :: m → nc c = false) : u.takeWhile nc = pre ∧ u.dropWhile nc = r := by
  subst h
  induction pre with
  | nil =>
    cases r with
    | nil => exact ⟨rfl, rfl⟩
    | cons c m => rw [List.nil_append, List.takeWhile_cons, List.dropWhile_cons, hr c m rfl]; exact ⟨rfl, rfl⟩
  | cons c pre ih =>
    have h1 := hp c List.mem_cons_self
    have h2 := ih fun d hd => hp d (List.mem_cons_of_mem _ hd)
    rw [List.cons_append, List.takeWhile_cons, List.dropWhile_cons, h1]
    exact ⟨by simp [h2.1], by simp [h2.2]⟩

set_option maxHeartbeats 8000000 in
theorem rfactor_step (n : Nat) (hF : RT 91 n (pF n)) : RT 91 (n + 1) (pF (n + 1)) := by
  intro w p l i D h hi hl hn hD0 hD1
  have HDE : Hid (∀ c, (c = 45 ∨ c = 109 ∨ c = 77 ∨ c = 97 ∨ c = 40) → ∀ w p l i D, Rr w p l i D 0 → i ≤ l.length → l.length ≤ 10000 → (tb (l.drop i)).length < n → -2199023255552 ≤ D → D ≤ 32 → Calls Tryz.prog 113 #[.pointer (some ⟨p, 0, none⟩), .int .u8 (c : Nat)] w (RE p l (dp (gk n c (tb (l.drop i)))) D w)) := fun c hc => deeper_any n c hc hF
  obtain ⟨u, hu⟩ : ∃ u, tb (l.drop i) = u := ⟨_, rfl⟩
  rw [hu] at hn ⊢
  have HUU : Hid (tb u = u) := by unfold Hid; rw [← hu, tb_tb]
  have HL : Hid (l.length ≤ 10000 ∧ u.length < n + 1 ∧ -2199023255552 ≤ D ∧ D ≤ 32) := ⟨hl, hn, hD0, hD1⟩
  have c3 := h.c3
  have HR0 : Hid (Rr w p l i D 0 ∧ i ≤ l.length ∧ tb (l.drop i) = u) := ⟨h, hi, hu⟩
  have HB0 : Hid (Below p w w) := Below.refl _ _
  clear hF h hi hl hn hD0 hD1 hu
  go_enter Tryz.func91, Tryz.ntmps91
  go_wp2_with fail
  refine (is_at _ p l [45] u _ D HR0.out.1 HR0.out.2.1 HL.out.1 (by decide) HR0.out.2.2).mono ?_
  rintro e w1 ⟨rfl, hb, j1, hj, hr, ht, hf⟩
  have HB1 : Hid (Below p w w1) := HB0.out.trans hb
  by_cases kk : tk [45] u = true
  · rw [kk]
    have hg := ht kk
    have HGL : Hid ((go [45] u).length < u.length) := go_len kk (by simp)
    have hde := HDE.out 45 (by simp) w1 p l j1 D hr hj HL.out.1 (by rw [hg]; have := HGL.out; have := HL.out; omega) HL.out.2.2.1 HL.out.2.2.2
    rw [hg] at hde
    have HQ : Hid (pF (n + 1) u = dp (gk n 45 (go [45] u))) := by
      unfold Hid; rw [pF, if_pos kk]; rfl
    clear hb hr hj hg hf kk
    go_wp2_with fail
    refine hde.mono ?_
    clear hde
    rintro e wx ⟨hb, x, j, b, rfl, hx, hj, hr, hres⟩
    have HBx : Hid (Below p w wx) := HB1.out.trans hb
    have HRx : Hid (x < 2 ^ 64 ∧ j ≤ l.length ∧ Rr wx p l j D b ∧ RefRes (pF (n + 1) u) D l x j b) := ⟨hx, hj, hr, by rw [HQ.out]; exact hres⟩
    clear hb hx hj hr hres
    go_wp2
    go_ret
    exact ⟨HBx.out, x, j, b, rfl, HRx.out.1, HRx.out.2.1, HRx.out.2.2.1, HRx.out.2.2.2⟩
  rw [Bool.not_eq_true] at kk
  rw [kk]
  have K1 : Hid (tk [45] u = false) := kk
  have HR1 : Hid (Rr w1 p l j1 D 0 ∧ j1 ≤ l.length ∧ tb (l.drop j1) = u) := ⟨hr, hj, by rw [hf kk, HUU.out]⟩
  clear hb hr hj ht hf kk
  go_wp2_with fail
  refine (is_at _ p l [40] u _ D HR1.out.1 HR1.out.2.1 HL.out.1 (by decide) HR1.out.2.2).mono ?_
  rintro e w2 ⟨rfl, hb, j2, hj, hr, ht, hf⟩
  have HB2 : Hid (Below p w w2) := HB1.out.trans hb
  by_cases kk : tk [40] u = true
  · rw [kk]
    have hg := ht kk
    have HGL : Hid ((go [40] u).length < u.length) := go_len kk (by simp)
    have hde := HDE.out 40 (by simp) w2 p l j2 D hr hj HL.out.1 (by rw [hg]; have := HGL.out; have := HL.out; omega) HL.out.2.2.1 HL.out.2.2.2
    rw [hg] at hde
    have HQ : Hid (pF (n + 1) u = dp (gk n 40 (go [40] u))) := by
      unfold Hid; rw [pF, if_neg (ne_t K1.out), if_pos kk]; rfl
    clear hb hr hj hg hf kk
    go_wp2_with fail
    refine hde.mono ?_
    clear hde
    rintro e wx ⟨hb, x, j, b, rfl, hx, hj, hr, hres⟩
    have HBx : Hid (Below p w wx) := HB2.out.trans hb
    have HRx : Hid (x < 2 ^ 64 ∧ j ≤ l.length ∧ Rr wx p l j D b ∧ RefRes (pF (n + 1) u) D l x j b) := ⟨hx, hj, hr, by rw [HQ.out]; exact hres⟩
    clear hb hx hj hr hres
    go_wp2
    go_ret
    exact ⟨HBx.out, x, j, b, rfl, HRx.out.1, HRx.out.2.1, HRx.out.2.2.1, HRx.out.2.2.2⟩
  rw [Bool.not_eq_true] at kk
  rw [kk]
  have K2 : Hid (tk [40] u = false) := kk
  have HR2 : Hid (Rr w2 p l j2 D 0 ∧ j2 ≤ l.length ∧ tb (l.drop j2) = u) := ⟨hr, hj, by rw [hf kk, HUU.out]⟩
  clear hb hr hj ht hf kk
  go_wp2_with fail
  refine (call_at _ p l [109, 105, 110] u _ D HR2.out.1 HR2.out.2.1 HL.out.1 (by decide) HR2.out.2.2).mono ?_
  rintro e w3 ⟨rfl, hb, j3, hj, hr, ht, hf⟩
  have HB3 : Hid (Below p w w3) := HB2.out.trans hb
  by_cases kk : (tk [109, 105, 110] u && tk [40] (go [109, 105, 110] u)) = true
  · rw [kk]
    have hg := ht kk
    have kk' := (Bool.and_eq_true _ _).mp kk
    have HGL : Hid ((go [40] (go [109, 105, 110] u)).length < u.length) := Nat.lt_trans (go_len kk'.2 (by simp)) (go_len kk'.1 (by simp))
    have hde := HDE.out 109 (by simp) w3 p l j3 D hr hj HL.out.1 (by rw [hg]; have := HGL.out; have := HL.out; omega) HL.out.2.2.1 HL.out.2.2.2
    rw [hg] at hde
    have HQ : Hid (pF (n + 1) u = dp (gk n 109 (go [40] (go [109, 105, 110] u)))) := by
      unfold Hid; rw [pF, if_neg (ne_t K1.out), if_neg (ne_t K2.out), if_pos kk'.1]; rw [ch_pr2, if_pos kk'.2]; rfl
    clear hb hr hj hg hf kk
    go_wp2_with fail
    refine hde.mono ?_
    clear hde
    rintro e wx ⟨hb, x, j, b, rfl, hx, hj, hr, hres⟩
    have HBx : Hid (Below p w wx) := HB3.out.trans hb
    have HRx : Hid (x < 2 ^ 64 ∧ j ≤ l.length ∧ Rr wx p l j D b ∧ RefRes (pF (n + 1) u) D l x j b) := ⟨hx, hj, hr, by rw [HQ.out]; exact hres⟩
    clear hb hx hj hr hres
    go_wp2
    go_ret
    exact ⟨HBx.out, x, j, b, rfl, HRx.out.1, HRx.out.2.1, HRx.out.2.2.1, HRx.out.2.2.2⟩
  rw [Bool.not_eq_true] at kk
  rw [kk]
  have K3 : Hid ((tk [109, 105, 110] u && tk [40] (go [109, 105, 110] u)) = false) := kk
  have HR3 : Hid (Rr w3 p l j3 D 0 ∧ j3 ≤ l.length ∧ tb (l.drop j3) = u) := ⟨hr, hj, hf kk⟩
  clear hb hr hj ht hf kk
  go_wp2_with fail
  refine (call_at _ p l [109, 97, 120] u _ D HR3.out.1 HR3.out.2.1 HL.out.1 (by decide) HR3.out.2.2).mono ?_
  rintro e w4 ⟨rfl, hb, j4, hj, hr, ht, hf⟩
  have HB4 : Hid (Below p w w4) := HB3.out.trans hb
  by_cases kk : (tk [109, 97, 120] u && tk [40] (go [109, 97, 120] u)) = true
  · rw [kk]
    have hg := ht kk
    have kk' := (Bool.and_eq_true _ _).mp kk
    have HGL : Hid ((go [40] (go [109, 97, 120] u)).length < u.length) := Nat.lt_trans (go_len kk'.2 (by simp)) (go_len kk'.1 (by simp))
    have hde := HDE.out 77 (by simp) w4 p l j4 D hr hj HL.out.1 (by rw [hg]; have := HGL.out; have := HL.out; omega) HL.out.2.2.1 HL.out.2.2.2
    rw [hg] at hde
    have HQ : Hid (pF (n + 1) u = dp (gk n 77 (go [40] (go [109, 97, 120] u)))) := by
      unfold Hid; rw [pF, if_neg (ne_t K1.out), if_neg (ne_t K2.out), if_neg (ne_t (not_min kk'.1)), if_pos kk'.1]; rw [ch_pr2, if_pos kk'.2]; rfl
    clear hb hr hj hg hf kk
    go_wp2_with fail
    refine hde.mono ?_
    clear hde
    rintro e wx ⟨hb, x, j, b, rfl, hx, hj, hr, hres⟩
    have HBx : Hid (Below p w wx) := HB4.out.trans hb
    have HRx : Hid (x < 2 ^ 64 ∧ j ≤ l.length ∧ Rr wx p l j D b ∧ RefRes (pF (n + 1) u) D l x j b) := ⟨hx, hj, hr, by rw [HQ.out]; exact hres⟩
    clear hb hx hj hr hres
    go_wp2
    go_ret
    exact ⟨HBx.out, x, j, b, rfl, HRx.out.1, HRx.out.2.1, HRx.out.2.2.1, HRx.out.2.2.2⟩
  rw [Bool.not_eq_true] at kk
  rw [kk]
  have K4 : Hid ((tk [109, 97, 120] u && tk [40] (go [109, 97, 120] u)) = false) := kk
  have HR4 : Hid (Rr w4 p l j4 D 0 ∧ j4 ≤ l.length ∧ tb (l.drop j4) = u) := ⟨hr, hj, hf kk⟩
  clear hb hr hj ht hf kk
  go_wp2_with fail
  refine (call_at _ p l [97, 98, 115] u _ D HR4.out.1 HR4.out.2.1 HL.out.1 (by decide) HR4.out.2.2).mono ?_
  rintro e w5 ⟨rfl, hb, j5, hj, hr, ht, hf⟩
  have HB5 : Hid (Below p w w5) := HB4.out.trans hb
  by_cases kk : (tk [97, 98, 115] u && tk [40] (go [97, 98, 115] u)) = true
  · rw [kk]
    have hg := ht kk
    have kk' := (Bool.and_eq_true _ _).mp kk
    have HGL : Hid ((go [40] (go [97, 98, 115] u)).length < u.length) := Nat.lt_trans (go_len kk'.2 (by simp)) (go_len kk'.1 (by simp))
    have hde := HDE.out 97 (by simp) w5 p l j5 D hr hj HL.out.1 (by rw [hg]; have := HGL.out; have := HL.out; omega) HL.out.2.2.1 HL.out.2.2.2
    rw [hg] at hde
    have HQ : Hid (pF (n + 1) u = dp (gk n 97 (go [40] (go [97, 98, 115] u)))) := by
      unfold Hid; rw [pF, if_neg (ne_t K1.out), if_neg (ne_t K2.out), if_neg (ne_t (tk_heads kk'.1 (by decide))), if_neg (ne_t (tk_heads kk'.1 (by decide))), if_pos kk'.1]; unfold ab; rw [if_pos kk'.2]; rfl
    clear hb hr hj hg hf kk
    go_wp2_with fail
    refine hde.mono ?_
    clear hde
    rintro e wx ⟨hb, x, j, b, rfl, hx, hj, hr, hres⟩
    have HBx : Hid (Below p w wx) := HB5.out.trans hb
    have HRx : Hid (x < 2 ^ 64 ∧ j ≤ l.length ∧ Rr wx p l j D b ∧ RefRes (pF (n + 1) u) D l x j b) := ⟨hx, hj, hr, by rw [HQ.out]; exact hres⟩
    clear hb hx hj hr hres
    go_wp2
    go_ret
    exact ⟨HBx.out, x, j, b, rfl, HRx.out.1, HRx.out.2.1, HRx.out.2.2.1, HRx.out.2.2.2⟩
  rw [Bool.not_eq_true] at kk
  rw [kk]
  have K5 : Hid ((tk [97, 98, 115] u && tk [40] (go [97, 98, 115] u)) = false) := kk
  have HR5 : Hid (Rr w5 p l j5 D 0 ∧ j5 ≤ l.length ∧ tb (l.drop j5) = u) := ⟨hr, hj, hf kk⟩
  clear hb hr hj ht hf kk
  go_wp2_with fail
  refine (is_at _ p l [110, 97, 110] u _ D HR5.out.1 HR5.out.2.1 HL.out.1 (by decide) HR5.out.2.2).mono ?_
  rintro e w6 ⟨rfl, hb, j6, hj, hr, ht, hf⟩
  have HB6 : Hid (Below p w w6) := HB5.out.trans hb
  by_cases kk : tk [110, 97, 110] u = true
  · rw [kk]
    have HQ : Hid (pF (n + 1) u = some (0x7ff8000000000001, go [110, 97, 110] u, 0) ∧ tb (l.drop j6) = go [110, 97, 110] u ∧ j6 ≤ l.length ∧ Rr w6 p l j6 D 0) := by
      refine ⟨?_, ht kk, hj, hr⟩
      rw [pF, if_neg (ne_t K1.out), if_neg (ne_t K2.out), if_neg (ne_t (tk_heads kk (by decide))), if_neg (ne_t (tk_heads kk (by decide))), if_neg (ne_t (tk_heads kk (by decide))), if_pos kk]
    clear hb hr hj ht hf kk
    go_wp2_with fail
    refine (nan_any _).mono ?_
    rintro e w' ⟨rfl, rfl⟩
    go_wp2
    go_ret
    exact ⟨HB6.out, 9221120237041090561, j6, 0, rfl, by decide, HQ.out.2.2.1, HQ.out.2.2.2, .inr ⟨rfl, _, HQ.out.1, by have := HL.out; simp only; omega, nb_a1, HQ.out.2.1⟩⟩
  rw [Bool.not_eq_true] at kk
  rw [kk]
  have K6 : Hid (tk [110, 97, 110] u = false) := kk
  have HR6 : Hid (Rr w6 p l j6 D 0 ∧ j6 ≤ l.length ∧ tb (l.drop j6) = u) := ⟨hr, hj, by rw [hf kk, HUU.out]⟩
  have HX6 : Hid (l.drop j6 = u) := hf kk
  clear hb hr hj ht hf kk
  go_wp2_with fail
  refine (is_at _ p l [105, 110, 102] u _ D HR6.out.1 HR6.out.2.1 HL.out.1 (by decide) HR6.out.2.2).mono ?_
  rintro e w7 ⟨rfl, hb, j7, hj, hr, ht, hf⟩
  have HB7 : Hid (Below p w w7) := HB6.out.trans hb
  by_cases kk : tk [105, 110, 102] u = true
  · rw [kk]
    have HQ : Hid (pF (n + 1) u = some (0x7ff0000000000000, go [105, 110, 102] u, 0) ∧ tb (l.drop j7) = go [105, 110, 102] u ∧ j7 ≤ l.length ∧ Rr w7 p l j7 D 0) := by
      refine ⟨?_, ht kk, hj, hr⟩
      rw [pF, if_neg (ne_t K1.out), if_neg (ne_t K2.out), if_neg (ne_t (tk_heads kk (by decide))), if_neg (ne_t (tk_heads kk (by decide))), if_neg (ne_t (tk_heads kk (by decide))), if_neg (ne_t K6.out), if_pos kk]
    clear hb hr hj ht hf kk
    go_wp2_with fail
    refine (inf_any _).mono ?_
    rintro e w' ⟨rfl, rfl⟩
    go_wp2
    go_ret
    exact ⟨HB7.out, 9218868437227405312, j7, 0, rfl, by decide, HQ.out.2.2.1, HQ.out.2.2.2, .inr ⟨rfl, _, HQ.out.1, by have := HL.out; simp only; omega, nb_b1, HQ.out.2.1⟩⟩
  rw [Bool.not_eq_true] at kk
  rw [kk]
  have K7 : Hid (tk [105, 110, 102] u = false) := kk
  have HR7 : Hid (Rr w7 p l j7 D 0 ∧ j7 ≤ l.length ∧ tb (l.drop j7) = u) := ⟨hr, hj, by rw [hf kk, HUU.out]⟩
  have HX7 : Hid (l.drop j7 = u) := hf kk
  clear hb hr hj ht hf kk
  have HNUM : Hid (pF (n + 1) u = (dcm (u.takeWhile nc)).bind fun v => some (v, tb (u.dropWhile nc), 0)) := pF_num n u K1.out K2.out K3.out K4.out K5.out K6.out K7.out
  have c1 := HR7.out.1.c1
  have HJ7 : Hid (j7 ≤ l.length) := HR7.out.2.1
  have hs := sz_mk l
  have hl1 := HL.out.1
  clear c3
  go_wp2
  clear c1
  go_loopw [] (fun wr => ∃ k pre, k ≤ l.length ∧ Hid (Rr wr p l k D 0) ∧ Hid (Below p w wr) ∧ Hid (k = j7 + pre.length ∧ u = pre ++ l.drop k ∧ ∀ c ∈ pre, nc c = true)) (fun wr => l.length - posn wr p)
  case atStart => exact ⟨j7, [], HJ7.out, HR7.out.1, HB7.out, rfl, HX7.out.symm, fun c hc => by cases hc⟩
  case round =>
    obtain ⟨k, pre, hk, HK, HB, HPR⟩ := hrel
    have c0 := HK.out.c0
    have c1 := HK.out.c1
    have z1 := HK.out.z1
    by_cases hlt : k < l.length
    · have hltI : (k : Int) < (l.length : Int) := by omega
      obtain ⟨c, hc⟩ := drop_next hlt
      have hix := index_at l k c _ hc
      have HC : Hid (l.drop k = c :: l.drop (k + 1)) := hc
      clear hc
      have hdg := fun w n => dgU_q c w n
      by_cases hd : dgU c = true
      · rw [hd] at hdg
        have HNC : Hid (nc c = true) := by unfold Hid; rw [nc_eq, hd]; rfl
        clear hd
        go_wp2_with fail
        go_quiet ((go_at_call 65; exact hdg _ _))
        go_wp2_with fail
        have hq := HK.out.drewN nq
        have HB2 : Hid (Below p w (wr.drewN nq)) := HB.out.trans (bel_drewN _ _ _)
        have HM : Hid (posn wr p = k) := HK.out.posn
        have HPR2 : Hid (k + 1 = j7 + (pre ++ [c]).length ∧ u = (pre ++ [c]) ++ l.drop (k + 1) ∧ ∀ d ∈ pre ++ [c], nc d = true) := by
          obtain ⟨h1, h2, h3⟩ := HPR.out
          refine ⟨by rw [List.length_append, h1]; simp; omega, by rw [List.append_assoc, List.singleton_append, ← HC.out]; exact h2, fun d hd => ?_⟩
          rcases List.mem_append.1 hd with hd | hd
          · exact h3 d hd
          · rw [List.mem_singleton.1 hd]; exact HNC.out
        clear c0 c1 z1 HK HB hix hdg
        generalize wr.drewN nq = wv at hq HB2 ⊢
        have c1 := hq.c1
        have z1 := hq.z1
        have HK : Hid (Rr (wv.setCell ⟨p, 1, none⟩ (.int .i64 ((k : Int) + 1))) p l (k + 1) D 0) := hq.set1 (k + 1)
        clear hq
        go_wp2
        go_roundw
        case rel => exact ⟨k + 1, pre ++ [c], hlt, HK.out, HB2.out.trans (rset _ p 1 _), HPR2.out⟩
        case measure =>
          show l.length - posn (wv.setCell ⟨p, 1, none⟩ (.int .i64 ((k : Int) + 1))) p < l.length - posn wr p
          rw [HK.out.posn, HM.out]; omega
      · rw [Bool.not_eq_true] at hd
        rw [hd] at hdg
        by_cases h46 : c = 46
        · have HNC : Hid (nc c = true) := by unfold Hid; rw [h46]; rfl
          have h46' : ((c.toNat : Int) == 46) = true := by rw [h46]; rfl
          clear hd h46
          go_wp2_with fail
          go_quiet ((go_at_call 65; exact hdg _ _))
          go_wp2_with fail
          have hq := HK.out.drewN nq
          have HB2 : Hid (Below p w (wr.drewN nq)) := HB.out.trans (bel_drewN _ _ _)
          have HM : Hid (posn wr p = k) := HK.out.posn
          have HPR2 : Hid (k + 1 = j7 + (pre ++ [c]).length ∧ u = (pre ++ [c]) ++ l.drop (k + 1) ∧ ∀ d ∈ pre ++ [c], nc d = true) := by
            obtain ⟨h1, h2, h3⟩ := HPR.out
            refine ⟨by rw [List.length_append, h1]; simp; omega, by rw [List.append_assoc, List.singleton_append, ← HC.out]; exact h2, fun d hd => ?_⟩
            rcases List.mem_append.1 hd with hd | hd
            · exact h3 d hd
            · rw [List.mem_singleton.1 hd]; exact HNC.out
          clear c0 c1 z1 HK HB hix hdg
          generalize wr.drewN nq = wv at hq HB2 ⊢
          have c1 := hq.c1
          have z1 := hq.z1
          have HK : Hid (Rr (wv.setCell ⟨p, 1, none⟩ (.int .i64 ((k : Int) + 1))) p l (k + 1) D 0) := hq.set1 (k + 1)
          clear hq
          go_wp2
          go_roundw
          case rel => exact ⟨k + 1, pre ++ [c], hlt, HK.out, HB2.out.trans (rset _ p 1 _), HPR2.out⟩
          case measure =>
            show l.length - posn (wv.setCell ⟨p, 1, none⟩ (.int .i64 ((k : Int) + 1))) p < l.length - posn wr p
            rw [HK.out.posn, HM.out]; omega
        · have h46' : ((c.toNat : Int) == 46) = false := by
            have : c.toNat ≠ 46 := fun h => h46 (UInt8.toNat_inj.1 h)
            simp; omega
          have HEND : Hid (∀ d m, l.drop k = d :: m → nc d = false) := fun d m h => by
            rw [HC.out] at h
            rw [← (List.cons.inj h).1, nc_eq, hd]
            simpa using h46
          clear hd h46
          go_wp2_with fail
          go_quiet ((go_at_call 65; exact hdg _ _))
          go_wp2_with fail
          clear hix hdg h46'
          have hq := HK.out.drewN nq
          have HB2 : Hid (Below p w (wr.drewN nq)) := HB.out.trans (bel_drewN _ _ _)
          clear c0 c1 z1 HK HB
          generalize wr.drewN nq = wv at hq HB2 ⊢
          have c0 := hq.c0
          have c1 := hq.c1
          have HK : Hid (Rr wv p l k D 0) := hq
          clear hq
          obtain ⟨hkj, hupre, hall⟩ := HPR.out
          have htw := tw_of hupre hall HEND.out
          have hsl : ∀ W, (Instr.slice 9 (.string ⟨l.toArray⟩) (some (.int .i64 (j7 : Int))) (some (.int .i64 (k : Int))) none).run Tryz.prog W = .ok (.string ⟨pre.toArray⟩) W := fun W => by
            have h1 := slice_mid ⟨l.toArray⟩ j7 k (by omega) (by rw [sz_mk]; exact hk) W
            have h9 : (⟨l.toArray⟩ : ByteArray).extract j7 k = ⟨pre.toArray⟩ := ba_eq (by have h8 := extract_piece l j7 pre.length; rw [← hkj] at h8; rw [h8, HX7.out, hupre]; exact List.take_left)
            rw [h9] at h1
            exact h1
          have HDC : Hid (∀ W, Calls Tryz.prog 43 #[.string ⟨pre.toArray⟩] W (DecEnd pre W)) := fun W => rdec_any pre W (by have h1 := congrArg List.length hupre; rw [List.length_append] at h1; have h2 := congrArg List.length HX7.out; rw [List.length_drop] at h2; have := HL.out.1; omega)
          have HRS : Hid (pF (n + 1) u = (dcm pre).bind fun v => some (v, tb (l.drop k), 0)) := by
            unfold Hid; rw [HNUM.out, htw.1, htw.2]
          have HJK : Hid (k ≤ l.length) := hk
          clear hkj hupre hall htw
          generalize (⟨pre.toArray⟩ : ByteArray) = ps at *
          go_region_with (go_at_call 43; refine (HDC.out _).mono ?_; rintro e w9 ⟨⟨r, rfl, hr, hok, hno⟩, hb⟩; have HB9 : Hid (Below p w w9) := (HB2.out.drew).trans (hb.mono (Nat.le_of_lt HK.out.lt)); have HR9 : Hid (Rr w9 p l k D 0) := HK.out.below ((Below.refl _ wv).drew.trans hb); have HV : Hid (r < 2 ^ 64 ∧ (dOk pre = true → nb r = dV pre)) := ⟨hr, hok⟩; clear hr hok hno hb)
          all_goals
            by_cases hok : dOk pre = true
            · have HQ : Hid (pF (n + 1) u = some (dV pre, tb (l.drop k), 0) ∧ nb r = dV pre) := ⟨by rw [HRS.out]; unfold dcm; rw [if_pos hok]; rfl, HV.out.2 hok⟩
              rw [hok]
              clear hok
              go_wp2
              go_ret
              exact ⟨HB9.out, r, k, 0, rfl, HV.out.1, HJK.out, HR9.out, .inr ⟨rfl, _, HQ.out.1, by have := HL.out; simp only; omega, HQ.out.2, rfl⟩⟩
            · rw [Bool.not_eq_true] at hok
              have HQ : Hid (BadOk (pF (n + 1) u) D 11) := by
                refine ⟨by decide, fun q hq => ?_⟩
                rw [HRS.out] at hq
                unfold dcm at hq
                rw [if_neg (ne_t hok)] at hq
                cases hq
              have hff := good_fail w9 p l k D 11 HR9.out
              rw [hok]
              clear hok
              go_wp2_with fail
              refine hff.mono ?_
              clear hff
              rintro e wz ⟨rfl, hb, hr⟩
              have HBz : Hid (Below p w wz) := HB9.out.trans hb
              have HRz : Hid (Rr wz p l k D 11) := hr
              clear hb hr
              go_wp2
              go_ret
              exact ⟨HBz.out, 0, k, 11, rfl, by decide, HJK.out, HRz.out, .inl HQ.out⟩
    · obtain rfl : k = l.length := by omega
      have hd : decide ((l.length : Int) < (l.length : Int)) = false := decide_eq_false (by omega)
      have HEND : Hid (∀ d m, l.drop l.length = d :: m → nc d = false) := fun d m h => by rw [List.drop_length] at h; cases h
      clear hlt
      go_wp2_with fail
      go_quiet (fail)
      go_wp2_with fail
      clear hd
      have hq := HK.out.drewN nq
      have HB2 : Hid (Below p w (wr.drewN nq)) := HB.out.trans (bel_drewN _ _ _)
      clear c0 c1 z1 HK HB
      generalize wr.drewN nq = wv at hq HB2 ⊢
      have c0 := hq.c0
      have c1 := hq.c1
      have HK : Hid (Rr wv p l l.length D 0) := hq
      clear hq
      obtain ⟨hkj, hupre, hall⟩ := HPR.out
      have htw := tw_of hupre hall HEND.out
      have hsl : ∀ W, (Instr.slice 9 (.string ⟨l.toArray⟩) (some (.int .i64 (j7 : Int))) (some (.int .i64 (l.length : Int))) none).run Tryz.prog W = .ok (.string ⟨pre.toArray⟩) W := fun W => by
        have h1 := slice_mid ⟨l.toArray⟩ j7 l.length HJ7.out (by rw [sz_mk]; omega) W
        have h9 : (⟨l.toArray⟩ : ByteArray).extract j7 l.length = ⟨pre.toArray⟩ := ba_eq (by have h8 := extract_piece l j7 pre.length; rw [← hkj] at h8; rw [h8, HX7.out, hupre]; exact List.take_left)
        rw [h9] at h1
        exact h1
      have HDC : Hid (∀ W, Calls Tryz.prog 43 #[.string ⟨pre.toArray⟩] W (DecEnd pre W)) := fun W => rdec_any pre W (by have h1 := congrArg List.length hupre; rw [List.length_append] at h1; have h2 := congrArg List.length HX7.out; rw [List.length_drop] at h2; have := HL.out.1; omega)
      have HRS : Hid (pF (n + 1) u = (dcm pre).bind fun v => some (v, tb (l.drop l.length), 0)) := by
        unfold Hid; rw [HNUM.out, htw.1, htw.2]
      have HJK : Hid (l.length ≤ l.length) := hk
      clear hkj hupre hall htw
      generalize (⟨pre.toArray⟩ : ByteArray) = ps at *
      go_region_with (go_at_call 43; refine (HDC.out _).mono ?_; rintro e w9 ⟨⟨r, rfl, hr, hok, hno⟩, hb⟩; have HB9 : Hid (Below p w w9) := (HB2.out.drew).trans (hb.mono (Nat.le_of_lt HK.out.lt)); have HR9 : Hid (Rr w9 p l l.length D 0) := HK.out.below ((Below.refl _ wv).drew.trans hb); have HV : Hid (r < 2 ^ 64 ∧ (dOk pre = true → nb r = dV pre)) := ⟨hr, hok⟩; clear hr hok hno hb)
      all_goals
        by_cases hok : dOk pre = true
        · have HQ : Hid (pF (n + 1) u = some (dV pre, tb (l.drop l.length), 0) ∧ nb r = dV pre) := ⟨by rw [HRS.out]; unfold dcm; rw [if_pos hok]; rfl, HV.out.2 hok⟩
          rw [hok]
          clear hok
          go_wp2
          go_ret
          exact ⟨HB9.out, r, l.length, 0, rfl, HV.out.1, HJK.out, HR9.out, .inr ⟨rfl, _, HQ.out.1, by have := HL.out; simp only; omega, HQ.out.2, rfl⟩⟩
        · rw [Bool.not_eq_true] at hok
          have HQ : Hid (BadOk (pF (n + 1) u) D 11) := by
            refine ⟨by decide, fun q hq => ?_⟩
            rw [HRS.out] at hq
            unfold dcm at hq
            rw [if_neg (ne_t hok)] at hq
            cases hq
          have hff := good_fail w9 p l l.length D 11 HR9.out
          rw [hok]
          clear hok
          go_wp2_with fail
          refine hff.mono ?_
          clear hff
          rintro e wz ⟨rfl, hb, hr⟩
          have HBz : Hid (Below p w wz) := HB9.out.trans hb
          have HRz : Hid (Rr wz p l l.length D 11) := hr
          clear hb hr
          go_wp2
          go_ret
          exact ⟨HBz.out, 0, l.length, 11, rfl, by decide, HJK.out, HRz.out, .inl HQ.out⟩

end Go.Proofs.YtalifohnieclhaaGreatDoor.Oct
