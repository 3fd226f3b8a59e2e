/- The walk: Of two expressions: their sum, difference, product, quotient, the lesser and the greater one are those of their values. -/
import Derived.Test.YtalifohnieclhabGreatDoorAk4
import Derived.Test.YtalifohnieclhabGreatDoorPd
import Derived.WalkKit
import Derived.ProofKit
import Derived.OpenShut
import Derived.ShutString
import Derived.ChangeOld
import Derived.Below
import Derived.LaidMore
import Derived.Lay
import Derived.SevenTiedAt
import Derived.Stop.Joined
namespace Go.Proofs.YtalifohnieclhabGreatDoor.calcParts
open Go.ChangeShapes Go.WideShapes Go.ChangeAt Go.RowKit
open Go.Proofs.YtalifohnieclhabGreatDoor.Oct Go.Proofs.YtalifohnieclhabGreatDoor.Fl
open Go.ChangeMaps (open_string shut_string)
set_option linter.unusedVariables false

/-- Eval of s answers E and V. -/
abbrev Ev (s : ByteArray) (E V : Nat) (w : World) : Prop :=
  Calls Tryz.prog 8 #[.string s] w fun e w' => ∃ x, e = .returned (.tuple #[.float .f64 x, .int .i64 (E : Nat)]) ∧ x < 2 ^ 64 ∧ nb x = V ∧ Below w.heap.size w w'

theorem ev_parts {n : Nat} {l : List UInt8} (hl : l.length ≤ 4096) (h : evE n l = 0) : ∃ v k, k ≤ 32 ∧ pE (pF n) n (tb l) = some (v, [], k) ∧ evV n l = v := by
  unfold evE at h
  rw [if_neg (by omega)] at h
  cases hp : pW n l with
  | none => rw [hp] at h; simp at h
  | some q =>
    rw [hp] at h
    obtain ⟨v, r, k⟩ := q
    obtain ⟨hr, he⟩ := pW_some hp
    simp only at hr h
    subst hr
    have hk : ¬ 32 < k := fun hk => by rw [if_pos hk] at h; cases h
    refine ⟨v, k, by omega, he, ?_⟩
    unfold evV
    rw [if_neg (by omega), hp]
    exact if_neg hk

theorem ev_of {n : Nat} {l : List UInt8} {v k : Nat} (hl : l.length ≤ 4096) (h : pW n l = some (v, [], k)) : evE n l = (if 32 < k then 3 else 0) ∧ (¬ 32 < k → evV n l = v) := by
  have h1 : ¬ 4096 < l.length := by omega
  unfold evE evV
  rw [if_neg h1, if_neg h1, h]
  exact ⟨rfl, fun h => if_neg h⟩

theorem two_of (c : UInt8) (f : Nat → Nat → Nat) (hc : (c = 43 ∧ f = addN) ∨ (c = 45 ∧ f = subN) ∨ (c = 42 ∧ f = mulN) ∨ (c = 47 ∧ f = quoN)) {s t : List UInt8} {v u k j : Nat} (hs : pE (pF 3000) 3000 (tb s) = some (v, [], k)) (ht : pE (pF 3000) 3000 (tb t) = some (u, [], j)) :
    pW 3001 (40 :: (s ++ 41 :: c :: 40 :: (t ++ [41]))) = some (f v u, [], max k j + 1) := by
  have h1 := pF_paren (r := c :: 40 :: (t ++ [41])) hs
  have h2 := pF_paren (r := []) ht
  have hc32 : c ≠ 32 := by rcases hc with ⟨rfl, _⟩ | ⟨rfl, _⟩ | ⟨rfl, _⟩ | ⟨rfl, _⟩ <;> decide
  rw [tb_cons, if_neg hc32] at h1
  have h3 : pF 3001 (tb (40 :: (t ++ [41]))) = some (u, [], j + 1) := by rw [tb_cons, if_neg (by decide)]; exact h2
  have h4 := pE_two (F := pF 3001) 2999 c f hc h1 h3
  refine pW_of ?_
  rw [tb_cons, if_neg (by decide), h4, show max (k + 1) (j + 1) = max k j + 1 by omega]

theorem pick_low (x y : Nat) (o : Int) : pick o (nb x) (nb y) = nb (if c3 (rk x) (rk y) = o then x else y) := by
  unfold pick; rw [rk_nb, rk_nb]; split <;> rfl

theorem c3_three (x y : Nat) : c3 x y = -1 ∨ c3 x y = 0 ∨ c3 x y = 1 := by
  unfold c3; split
  · exact .inl rfl
  · split
    · exact .inr (.inr rfl)
    · exact .inr (.inl rfl)

theorem bits_of {x V : Nat} (h : nb x = V) : ∀ w, Calls Tryz.prog 9 #[.float .f64 x] w fun e w' => e = .returned (.int .u64 (V : Nat)) ∧ w = w' := fun w => by
  have := bits_any x w
  rwa [h] at this

set_option maxHeartbeats 4000000 in
set_option maxRecDepth 10000 in
/-- One of the two is no expression. -/
theorem parts_err (s t : ByteArray) (w : World) (hs : s.size ≤ 1000) (ht : t.size ≤ 1000) (E F X Y : Nat) (h : E ≠ 0 ∨ F ≠ 0) (h1 : Hid (∀ w, Ev s E X w)) (h2 : Hid (∀ w, Ev t F Y w)) :
    Calls Tryz.prog 4 #[.string s, .string t] w fun e w' => e = .returned (.bool true) ∧ Below w.heap.size w w' := by
  have hs' : ¬ (1000 : Int) < (s.size : Int) := by omega
  have ht' : ¬ (1000 : Int) < (t.size : Int) := by omega
  go_enter Tryz.func4, Tryz.ntmps4
  go_wp2_with fail
  refine (awake4 _).mono ?_
  rintro e w1 ⟨rfl, hb⟩
  have HB1 : Hid (Below w.heap.size w w1) := hb
  clear hb
  go_wp2_with fail
  refine Calls.mono (h1.out _) ?_
  rintro e w2 ⟨x, rfl, hx, hn, hb⟩
  have HB2 : Hid (Below w.heap.size w w2) := HB1.out.trans (hb.mono HB1.out.size)
  have HX : Hid (x < 2 ^ 64 ∧ nb x = X) := ⟨hx, hn⟩
  clear hx hn hb h1
  go_wp2_with fail
  refine Calls.mono (h2.out _) ?_
  rintro e w3 ⟨y, rfl, hx, hn, hb⟩
  have HB3 : Hid (Below w.heap.size w w3) := HB2.out.trans (hb.mono HB2.out.size)
  have HY : Hid (y < 2 ^ 64 ∧ nb y = Y) := ⟨hx, hn⟩
  clear hx hn hb h2
  by_cases h0 : E = 0
  · have h3 : ((F : Int) == 0) = false := by simpa using (by omega : F ≠ 0)
    subst h0
    go_wp2
    go_ret
    exact ⟨rfl, HB3.out⟩
  · have h3 : ((E : Int) == 0) = false := by simpa using h0
    go_wp2
    go_ret
    exact ⟨rfl, HB3.out⟩

set_option maxHeartbeats 8000000 in
set_option maxRecDepth 10000 in
/-- Too deep. -/
theorem parts_deep (s t : ByteArray) (w : World) (hs : s.size ≤ 1000) (ht : t.size ≤ 1000) (X Y G A B C D M N : Nat) (hG : G = 3) (h1 : Hid (∀ w, Ev s 0 X w)) (h2 : Hid (∀ w, Ev t 0 Y w)) (hA : Hid (∀ w, Ev (((((⟨#[40]⟩ : ByteArray) ++ s) ++ ⟨#[41, 43, 40]⟩) ++ t) ++ ⟨#[41]⟩) G A w)) (hB : Hid (∀ w, Ev (((((⟨#[40]⟩ : ByteArray) ++ s) ++ ⟨#[41, 45, 40]⟩) ++ t) ++ ⟨#[41]⟩) G B w)) (hC : Hid (∀ w, Ev (((((⟨#[40]⟩ : ByteArray) ++ s) ++ ⟨#[41, 42, 40]⟩) ++ t) ++ ⟨#[41]⟩) G C w)) (hD : Hid (∀ w, Ev (((((⟨#[40]⟩ : ByteArray) ++ s) ++ ⟨#[41, 47, 40]⟩) ++ t) ++ ⟨#[41]⟩) G D w)) (hM : Hid (∀ w, Ev (((((⟨#[109, 105, 110, 40]⟩ : ByteArray) ++ s) ++ ⟨#[44]⟩) ++ t) ++ ⟨#[41]⟩) G M w)) (hN : Hid (∀ w, Ev (((((⟨#[109, 97, 120, 40]⟩ : ByteArray) ++ s) ++ ⟨#[44]⟩) ++ t) ++ ⟨#[41]⟩) G N w)) :
    Calls Tryz.prog 4 #[.string s, .string t] w fun e w' => e = .returned (.bool true) ∧ Below w.heap.size w w' := by
  subst hG
  have hs' : ¬ (1000 : Int) < (s.size : Int) := by omega
  have ht' : ¬ (1000 : Int) < (t.size : Int) := by omega
  go_enter Tryz.func4, Tryz.ntmps4
  go_wp2_with fail
  refine (awake4 _).mono ?_
  rintro e w1 ⟨rfl, hb⟩
  have HB1 : Hid (Below w.heap.size w w1) := hb
  clear hb
  go_wp2_with fail
  refine Calls.mono (h1.out _) ?_
  rintro e w2 ⟨x, rfl, hx, hn, hb⟩
  have HB2 : Hid (Below w.heap.size w w2) := HB1.out.trans (hb.mono HB1.out.size)
  have HX : Hid (x < 2 ^ 64 ∧ nb x = X) := ⟨hx, hn⟩
  clear hx hn hb h1
  go_wp2_with fail
  refine Calls.mono (h2.out _) ?_
  rintro e w3 ⟨y, rfl, hx, hn, hb⟩
  have HB3 : Hid (Below w.heap.size w w3) := HB2.out.trans (hb.mono HB2.out.size)
  have HY : Hid (y < 2 ^ 64 ∧ nb y = Y) := ⟨hx, hn⟩
  clear hx hn hb h2
  go_wp2_with fail
  refine Calls.mono (hA.out _) ?_
  rintro e w4 ⟨a0, rfl, hx, hn, hb⟩
  have HB4 : Hid (Below w.heap.size w w4) := HB3.out.trans (hb.mono HB3.out.size)
  have HA0 : Hid (a0 < 2 ^ 64 ∧ nb a0 = A) := ⟨hx, hn⟩
  clear hx hn hb hA
  go_wp2_with fail
  refine Calls.mono (hB.out _) ?_
  rintro e w5 ⟨b0, rfl, hx, hn, hb⟩
  have HB5 : Hid (Below w.heap.size w w5) := HB4.out.trans (hb.mono HB4.out.size)
  have HB0 : Hid (b0 < 2 ^ 64 ∧ nb b0 = B) := ⟨hx, hn⟩
  clear hx hn hb hB
  go_wp2_with fail
  refine Calls.mono (hC.out _) ?_
  rintro e w6 ⟨c0, rfl, hx, hn, hb⟩
  have HB6 : Hid (Below w.heap.size w w6) := HB5.out.trans (hb.mono HB5.out.size)
  have HC0 : Hid (c0 < 2 ^ 64 ∧ nb c0 = C) := ⟨hx, hn⟩
  clear hx hn hb hC
  go_wp2_with fail
  refine Calls.mono (hD.out _) ?_
  rintro e w7 ⟨d0, rfl, hx, hn, hb⟩
  have HB7 : Hid (Below w.heap.size w w7) := HB6.out.trans (hb.mono HB6.out.size)
  have HD0 : Hid (d0 < 2 ^ 64 ∧ nb d0 = D) := ⟨hx, hn⟩
  clear hx hn hb hD
  go_wp2_with fail
  refine Calls.mono (hM.out _) ?_
  rintro e w8 ⟨m0, rfl, hx, hn, hb⟩
  have HB8 : Hid (Below w.heap.size w w8) := HB7.out.trans (hb.mono HB7.out.size)
  have HM0 : Hid (m0 < 2 ^ 64 ∧ nb m0 = M) := ⟨hx, hn⟩
  clear hx hn hb hM
  go_wp2_with fail
  refine Calls.mono (hN.out _) ?_
  rintro e w9 ⟨n0, rfl, hx, hn, hb⟩
  have HB9 : Hid (Below w.heap.size w w9) := HB8.out.trans (hb.mono HB8.out.size)
  have HN0 : Hid (n0 < 2 ^ 64 ∧ nb n0 = N) := ⟨hx, hn⟩
  clear hx hn hb hN
  go_wp2
  go_ret
  exact ⟨rfl, HB9.out⟩

set_option maxHeartbeats 8000000 in
set_option maxRecDepth 10000 in
/-- Both are expressions. -/
theorem parts_ok (s t : ByteArray) (w : World) (hs : s.size ≤ 1000) (ht : t.size ≤ 1000) (X Y G A B C D M N : Nat) (hG : G = 0) (hA' : A = addN X Y) (hB' : B = subN X Y) (hC' : C = mulN X Y) (hD' : D = quoN X Y) (hM' : M = pick (-1) X Y) (hN' : N = pick 1 X Y) (h1 : Hid (∀ w, Ev s 0 X w)) (h2 : Hid (∀ w, Ev t 0 Y w)) (hA : Hid (∀ w, Ev (((((⟨#[40]⟩ : ByteArray) ++ s) ++ ⟨#[41, 43, 40]⟩) ++ t) ++ ⟨#[41]⟩) G A w)) (hB : Hid (∀ w, Ev (((((⟨#[40]⟩ : ByteArray) ++ s) ++ ⟨#[41, 45, 40]⟩) ++ t) ++ ⟨#[41]⟩) G B w)) (hC : Hid (∀ w, Ev (((((⟨#[40]⟩ : ByteArray) ++ s) ++ ⟨#[41, 42, 40]⟩) ++ t) ++ ⟨#[41]⟩) G C w)) (hD : Hid (∀ w, Ev (((((⟨#[40]⟩ : ByteArray) ++ s) ++ ⟨#[41, 47, 40]⟩) ++ t) ++ ⟨#[41]⟩) G D w)) (hM : Hid (∀ w, Ev (((((⟨#[109, 105, 110, 40]⟩ : ByteArray) ++ s) ++ ⟨#[44]⟩) ++ t) ++ ⟨#[41]⟩) G M w)) (hN : Hid (∀ w, Ev (((((⟨#[109, 97, 120, 40]⟩ : ByteArray) ++ s) ++ ⟨#[44]⟩) ++ t) ++ ⟨#[41]⟩) G N w)) :
    Calls Tryz.prog 4 #[.string s, .string t] w fun e w' => e = .returned (.bool true) ∧ Below w.heap.size w w' := by
  subst hG
  have hs' : ¬ (1000 : Int) < (s.size : Int) := by omega
  have ht' : ¬ (1000 : Int) < (t.size : Int) := by omega
  go_enter Tryz.func4, Tryz.ntmps4
  go_wp2_with fail
  refine (awake4 _).mono ?_
  rintro e w1 ⟨rfl, hb⟩
  have HB1 : Hid (Below w.heap.size w w1) := hb
  clear hb
  go_wp2_with fail
  refine Calls.mono (h1.out _) ?_
  rintro e w2 ⟨x, rfl, hx, hn, hb⟩
  have HB2 : Hid (Below w.heap.size w w2) := HB1.out.trans (hb.mono HB1.out.size)
  have HX : Hid (x < 2 ^ 64 ∧ nb x = X) := ⟨hx, hn⟩
  clear hx hn hb h1
  go_wp2_with fail
  refine Calls.mono (h2.out _) ?_
  rintro e w3 ⟨y, rfl, hx, hn, hb⟩
  have HB3 : Hid (Below w.heap.size w w3) := HB2.out.trans (hb.mono HB2.out.size)
  have HY : Hid (y < 2 ^ 64 ∧ nb y = Y) := ⟨hx, hn⟩
  clear hx hn hb h2
  go_wp2_with fail
  refine Calls.mono (hA.out _) ?_
  rintro e w4 ⟨a0, rfl, hx, hn, hb⟩
  have HB4 : Hid (Below w.heap.size w w4) := HB3.out.trans (hb.mono HB3.out.size)
  have HA0 : Hid (a0 < 2 ^ 64 ∧ nb a0 = A) := ⟨hx, hn⟩
  clear hx hn hb hA
  go_wp2_with fail
  refine Calls.mono (hB.out _) ?_
  rintro e w5 ⟨b0, rfl, hx, hn, hb⟩
  have HB5 : Hid (Below w.heap.size w w5) := HB4.out.trans (hb.mono HB4.out.size)
  have HB0 : Hid (b0 < 2 ^ 64 ∧ nb b0 = B) := ⟨hx, hn⟩
  clear hx hn hb hB
  go_wp2_with fail
  refine Calls.mono (hC.out _) ?_
  rintro e w6 ⟨c0, rfl, hx, hn, hb⟩
  have HB6 : Hid (Below w.heap.size w w6) := HB5.out.trans (hb.mono HB5.out.size)
  have HC0 : Hid (c0 < 2 ^ 64 ∧ nb c0 = C) := ⟨hx, hn⟩
  clear hx hn hb hC
  go_wp2_with fail
  refine Calls.mono (hD.out _) ?_
  rintro e w7 ⟨d0, rfl, hx, hn, hb⟩
  have HB7 : Hid (Below w.heap.size w w7) := HB6.out.trans (hb.mono HB6.out.size)
  have HD0 : Hid (d0 < 2 ^ 64 ∧ nb d0 = D) := ⟨hx, hn⟩
  clear hx hn hb hD
  go_wp2_with fail
  refine Calls.mono (hM.out _) ?_
  rintro e w8 ⟨m0, rfl, hx, hn, hb⟩
  have HB8 : Hid (Below w.heap.size w w8) := HB7.out.trans (hb.mono HB7.out.size)
  have HM0 : Hid (m0 < 2 ^ 64 ∧ nb m0 = M) := ⟨hx, hn⟩
  clear hx hn hb hM
  go_wp2_with fail
  refine Calls.mono (hN.out _) ?_
  rintro e w9 ⟨n0, rfl, hx, hn, hb⟩
  have HB9 : Hid (Below w.heap.size w w9) := HB8.out.trans (hb.mono HB8.out.size)
  have HN0 : Hid (n0 < 2 ^ 64 ∧ nb n0 = N) := ⟨hx, hn⟩
  clear hx hn hb hN
  have HV : Hid (A = addN X Y ∧ B = subN X Y ∧ C = mulN X Y ∧ D = quoN X Y ∧ M = pick (-1) X Y ∧ N = pick 1 X Y) := ⟨hA', hB', hC', hD', hM', hN'⟩
  clear hA' hB' hC' hD' hM' hN'
  have hcmp := fun w => compare_any x y w HX.out.1 HY.out.1
  obtain ⟨r1, v1, b1, l1, n1, o1⟩ := run_op (op := .add) (by simp [Ar]) x y w9
  obtain ⟨r2, v2, b2, l2, n2, o2⟩ := run_op (op := .sub) (by simp [Ar]) x y v1
  obtain ⟨r3, v3, b3, l3, n3, o3⟩ := run_op (op := .mul) (by simp [Ar]) x y v2
  obtain ⟨r4, v4, b4, l4, n4, o4⟩ := run_op (op := .quo) (by simp [Ar]) x y v3
  have HB10 : Hid (Below w.heap.size w v4) := (((HB9.out.trans (b1.mono HB9.out.size)).trans (b2.mono (Nat.le_trans HB9.out.size b1.size))).trans (b3.mono (Nat.le_trans (Nat.le_trans HB9.out.size b1.size) b2.size))).trans (b4.mono (Nat.le_trans (Nat.le_trans (Nat.le_trans HB9.out.size b1.size) b2.size) b3.size))
  rw [HX.out.2, HY.out.2] at n1 n2 n3 n4
  have qa := bits_of (x := a0) (V := A) HA0.out.2
  have qb := bits_of (x := b0) (V := B) HB0.out.2
  have qc := bits_of (x := c0) (V := C) HC0.out.2
  have qd := bits_of (x := d0) (V := D) HD0.out.2
  have qm := bits_of (x := m0) (V := M) HM0.out.2
  have qn := bits_of (x := n0) (V := N) HN0.out.2
  have p1 := bits_of (x := r1) (V := A) (by rw [n1, HV.out.1]; rfl)
  have p2 := bits_of (x := r2) (V := B) (by rw [n2, HV.out.2.1]; rfl)
  have p3 := bits_of (x := r3) (V := C) (by rw [n3, HV.out.2.2.1]; rfl)
  have p4 := bits_of (x := r4) (V := D) (by rw [n4, HV.out.2.2.2.1]; rfl)
  have hM : M = nb (if c3 (rk x) (rk y) = -1 then x else y) := by rw [HV.out.2.2.2.2.1, ← HX.out.2, ← HY.out.2, pick_low]
  have hN : N = nb (if c3 (rk x) (rk y) = 1 then x else y) := by rw [HV.out.2.2.2.2.2, ← HX.out.2, ← HY.out.2, pick_low]
  have h3 := c3_three (rk x) (rk y)
  have HM3 : Hid (M = nb (if c3 (rk x) (rk y) = -1 then x else y)) := hM
  have HN3 : Hid (N = nb (if c3 (rk x) (rk y) = 1 then x else y)) := hN
  generalize c3 (rk x) (rk y) = c at *
  clear hM hN HX HY HA0 HB0 HC0 HD0 HM0 HN0 n1 n2 n3 n4 l1 l2 l3 l4 b1 b2 b3 b4 HV
  rcases h3 with rfl | rfl | rfl
  · have HL : Hid (nb x = M) := by unfold Hid; rw [HM3.out]; rfl
    have HH : Hid (nb y = N) := by unfold Hid; rw [HN3.out]; rfl
    have pl := bits_of (x := x) (V := M) HL.out
    have ph := bits_of (x := y) (V := N) HH.out
    clear HL HH HM3 HN3
    go_wp2_with fail
    refine (hcmp _).mono ?_
    rintro e w' ⟨rfl, rfl⟩
    go_wp2_with fail
    refine (hcmp _).mono ?_
    rintro e w' ⟨rfl, rfl⟩
    go_wp2_with fail
    refine (qa _).mono ?_
    rintro e w' ⟨rfl, rfl⟩
    go_wp2_with fail
    refine (p1 _).mono ?_
    rintro e w' ⟨rfl, rfl⟩
    go_wp2_with fail
    refine (qb _).mono ?_
    rintro e w' ⟨rfl, rfl⟩
    go_wp2_with fail
    refine (p2 _).mono ?_
    rintro e w' ⟨rfl, rfl⟩
    go_wp2_with fail
    refine (qc _).mono ?_
    rintro e w' ⟨rfl, rfl⟩
    go_wp2_with fail
    refine (p3 _).mono ?_
    rintro e w' ⟨rfl, rfl⟩
    go_wp2_with fail
    refine (qd _).mono ?_
    rintro e w' ⟨rfl, rfl⟩
    go_wp2_with fail
    refine (p4 _).mono ?_
    rintro e w' ⟨rfl, rfl⟩
    go_wp2_with fail
    refine (qm _).mono ?_
    rintro e w' ⟨rfl, rfl⟩
    go_wp2_with fail
    refine (pl _).mono ?_
    rintro e w' ⟨rfl, rfl⟩
    go_wp2_with fail
    refine (qn _).mono ?_
    rintro e w' ⟨rfl, rfl⟩
    go_wp2_with fail
    refine (ph _).mono ?_
    rintro e w' ⟨rfl, rfl⟩
    go_wp2
    go_ret
    exact ⟨rfl, HB10.out⟩
  · have HL : Hid (nb y = M) := by unfold Hid; rw [HM3.out]; rfl
    have HH : Hid (nb y = N) := by unfold Hid; rw [HN3.out]; rfl
    have pl := bits_of (x := y) (V := M) HL.out
    have ph := bits_of (x := y) (V := N) HH.out
    clear HL HH HM3 HN3
    go_wp2_with fail
    refine (hcmp _).mono ?_
    rintro e w' ⟨rfl, rfl⟩
    go_wp2_with fail
    refine (hcmp _).mono ?_
    rintro e w' ⟨rfl, rfl⟩
    go_wp2_with fail
    refine (qa _).mono ?_
    rintro e w' ⟨rfl, rfl⟩
    go_wp2_with fail
    refine (p1 _).mono ?_
    rintro e w' ⟨rfl, rfl⟩
    go_wp2_with fail
    refine (qb _).mono ?_
    rintro e w' ⟨rfl, rfl⟩
    go_wp2_with fail
    refine (p2 _).mono ?_
    rintro e w' ⟨rfl, rfl⟩
    go_wp2_with fail
    refine (qc _).mono ?_
    rintro e w' ⟨rfl, rfl⟩
    go_wp2_with fail
    refine (p3 _).mono ?_
    rintro e w' ⟨rfl, rfl⟩
    go_wp2_with fail
    refine (qd _).mono ?_
    rintro e w' ⟨rfl, rfl⟩
    go_wp2_with fail
    refine (p4 _).mono ?_
    rintro e w' ⟨rfl, rfl⟩
    go_wp2_with fail
    refine (qm _).mono ?_
    rintro e w' ⟨rfl, rfl⟩
    go_wp2_with fail
    refine (pl _).mono ?_
    rintro e w' ⟨rfl, rfl⟩
    go_wp2_with fail
    refine (qn _).mono ?_
    rintro e w' ⟨rfl, rfl⟩
    go_wp2_with fail
    refine (ph _).mono ?_
    rintro e w' ⟨rfl, rfl⟩
    go_wp2
    go_ret
    exact ⟨rfl, HB10.out⟩
  · have HL : Hid (nb y = M) := by unfold Hid; rw [HM3.out]; rfl
    have HH : Hid (nb x = N) := by unfold Hid; rw [HN3.out]; rfl
    have pl := bits_of (x := y) (V := M) HL.out
    have ph := bits_of (x := x) (V := N) HH.out
    clear HL HH HM3 HN3
    go_wp2_with fail
    refine (hcmp _).mono ?_
    rintro e w' ⟨rfl, rfl⟩
    go_wp2_with fail
    refine (hcmp _).mono ?_
    rintro e w' ⟨rfl, rfl⟩
    go_wp2_with fail
    refine (qa _).mono ?_
    rintro e w' ⟨rfl, rfl⟩
    go_wp2_with fail
    refine (p1 _).mono ?_
    rintro e w' ⟨rfl, rfl⟩
    go_wp2_with fail
    refine (qb _).mono ?_
    rintro e w' ⟨rfl, rfl⟩
    go_wp2_with fail
    refine (p2 _).mono ?_
    rintro e w' ⟨rfl, rfl⟩
    go_wp2_with fail
    refine (qc _).mono ?_
    rintro e w' ⟨rfl, rfl⟩
    go_wp2_with fail
    refine (p3 _).mono ?_
    rintro e w' ⟨rfl, rfl⟩
    go_wp2_with fail
    refine (qd _).mono ?_
    rintro e w' ⟨rfl, rfl⟩
    go_wp2_with fail
    refine (p4 _).mono ?_
    rintro e w' ⟨rfl, rfl⟩
    go_wp2_with fail
    refine (qm _).mono ?_
    rintro e w' ⟨rfl, rfl⟩
    go_wp2_with fail
    refine (pl _).mono ?_
    rintro e w' ⟨rfl, rfl⟩
    go_wp2_with fail
    refine (qn _).mono ?_
    rintro e w' ⟨rfl, rfl⟩
    go_wp2_with fail
    refine (ph _).mono ?_
    rintro e w' ⟨rfl, rfl⟩
    go_wp2
    go_ret
    exact ⟨rfl, HB10.out⟩

set_option maxHeartbeats 1000000 in
set_option maxRecDepth 10000 in
theorem parts_big (s t : ByteArray) (w : World) (h : 1000 < s.size ∨ 1000 < t.size) :
    Calls Tryz.prog 4 #[.string s, .string t] w fun e w' => e = .returned (.bool true) ∧ Below w.heap.size w w' := by
  by_cases h1 : (1000 : Int) < (s.size : Int)
  · clear h
    go_enter Tryz.func4, Tryz.ntmps4
    go_wp2_with fail
    refine (awake4 _).mono ?_
    rintro e w1 ⟨rfl, hb⟩
    have HB1 : Hid (Below w.heap.size w w1) := hb
    clear hb
    go_wp2
    go_ret
    exact ⟨rfl, HB1.out⟩
  · have h2 : (1000 : Int) < (t.size : Int) := by omega
    have h1' : decide ((1000 : Int) < (s.size : Int)) = false := decide_eq_false h1
    clear h
    go_enter Tryz.func4, Tryz.ntmps4
    go_wp2_with fail
    refine (awake4 _).mono ?_
    rintro e w1 ⟨rfl, hb⟩
    have HB1 : Hid (Below w.heap.size w w1) := hb
    clear hb
    go_wp2
    go_ret
    exact ⟨rfl, HB1.out⟩

set_option maxHeartbeats 4000000 in
set_option maxRecDepth 100000 in
theorem walk (a0 : ByteArray) (a1 : ByteArray) (w : World) (w0 : a0.size ≤ maxLen) (w1 : a1.size ≤ maxLen) :
    Calls Tryz.prog 4 #[.string a0, .string a1] w fun e w' => e = .returned (.bool true) ∧ Below w.heap.size w w' := by
  obtain ⟨l, hl⟩ : ∃ l, a0.data.toList = l := ⟨_, rfl⟩
  obtain ⟨k, hk⟩ : ∃ k, a1.data.toList = k := ⟨_, rfl⟩
  have hls : a0.size = l.length := by rw [← hl]; rfl
  have hks : a1.size = k.length := by rw [← hk]; rfl
  by_cases hb : 1000 < a0.size ∨ 1000 < a1.size
  · exact parts_big a0 a1 w hb
  have h1 : Hid (∀ w, Ev a0 (evE 3000 l) (evV 3000 l) w) := fun w => eval_ba 3000 a0 l w hl (by omega)
  have h2 : Hid (∀ w, Ev a1 (evE 3000 k) (evV 3000 k) w) := fun w => eval_ba 3000 a1 k w hk (by omega)
  by_cases he : evE 3000 l ≠ 0 ∨ evE 3000 k ≠ 0
  · exact parts_err a0 a1 w (by omega) (by omega) _ _ _ _ he h1 h2
  have e1 : evE 3000 l = 0 := by omega
  have e2 : evE 3000 k = 0 := by omega
  rw [e1] at h1
  rw [e2] at h2
  obtain ⟨v, i, hi, hpl, hv⟩ := ev_parts (by omega) e1
  obtain ⟨u, j, hj, hpk, hu⟩ := ev_parts (by omega) e2
  rw [hv] at h1
  rw [hu] at h2
  have hA := two_of 43 addN (by simp) hpl hpk
  have hB := two_of 45 subN (by simp) hpl hpk
  have hC := two_of 42 mulN (by simp) hpl hpk
  have hD := two_of 47 quoN (by simp) hpl hpk
  have hM := pW_one 3000 (by rw [tb_cons, if_neg (by decide)]) (pF_min (r := []) hpl hpk)
  have hN := pW_one 3000 (by rw [tb_cons, if_neg (by decide)]) (pF_max (r := []) hpl hpk)
  have hlen : ∀ c, (40 :: (l ++ 41 :: c :: 40 :: (k ++ [41]))).length ≤ 2500 := fun c => by simp; omega
  have hlen2 : ∀ a b c, (a :: b :: c :: 40 :: (l ++ 44 :: (k ++ 41 :: ([] : List UInt8)))).length ≤ 2500 := fun a b c => by simp; omega
  have fA := ev_of (by have := hlen 43; omega) hA
  have fB := ev_of (by have := hlen 45; omega) hB
  have fC := ev_of (by have := hlen 42; omega) hC
  have fD := ev_of (by have := hlen 47; omega) hD
  have fM := ev_of (by have := hlen2 109 105 110; omega) hM
  have fN := ev_of (by have := hlen2 109 97 120; omega) hN
  have gA := fun w => eval_ba 3001 (((((⟨#[40]⟩ : ByteArray) ++ a0) ++ ⟨#[41, 43, 40]⟩) ++ a1) ++ ⟨#[41]⟩) _ w (by simp [ByteArray.data_append, hl, hk]; rfl) (by have := hlen 43; omega)
  have gB := fun w => eval_ba 3001 (((((⟨#[40]⟩ : ByteArray) ++ a0) ++ ⟨#[41, 45, 40]⟩) ++ a1) ++ ⟨#[41]⟩) _ w (by simp [ByteArray.data_append, hl, hk]; rfl) (by have := hlen 45; omega)
  have gC := fun w => eval_ba 3001 (((((⟨#[40]⟩ : ByteArray) ++ a0) ++ ⟨#[41, 42, 40]⟩) ++ a1) ++ ⟨#[41]⟩) _ w (by simp [ByteArray.data_append, hl, hk]; rfl) (by have := hlen 42; omega)
  have gD := fun w => eval_ba 3001 (((((⟨#[40]⟩ : ByteArray) ++ a0) ++ ⟨#[41, 47, 40]⟩) ++ a1) ++ ⟨#[41]⟩) _ w (by simp [ByteArray.data_append, hl, hk]; rfl) (by have := hlen 47; omega)
  have gM := fun w => eval_ba 3001 (((((⟨#[109, 105, 110, 40]⟩ : ByteArray) ++ a0) ++ ⟨#[44]⟩) ++ a1) ++ ⟨#[41]⟩) _ w (by simp [ByteArray.data_append, hl, hk]; rfl) (by have := hlen2 109 105 110; omega)
  have gN := fun w => eval_ba 3001 (((((⟨#[109, 97, 120, 40]⟩ : ByteArray) ++ a0) ++ ⟨#[44]⟩) ++ a1) ++ ⟨#[41]⟩) _ w (by simp [ByteArray.data_append, hl, hk]; rfl) (by have := hlen2 109 97 120; omega)
  rw [fA.1] at gA
  rw [fB.1] at gB
  rw [fC.1] at gC
  rw [fD.1] at gD
  rw [fM.1] at gM
  rw [fN.1] at gN
  by_cases hd : 32 < max i j + 1
  · exact parts_deep a0 a1 w (by omega) (by omega) _ _ _ _ _ _ _ _ _ (if_pos hd) h1 h2 gA gB gC gD gM gN
  · exact parts_ok a0 a1 w (by omega) (by omega) _ _ _ _ _ _ _ _ _ (if_neg hd) (fA.2 hd) (fB.2 hd) (fC.2 hd) (fD.2 hd) (fM.2 hd) (fN.2 hd) h1 h2 gA gB gC gD gM gN

end Go.Proofs.YtalifohnieclhabGreatDoor.calcParts
