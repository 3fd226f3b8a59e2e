/-
  The document's Decimal of any text.
-/
import Derived.Test.YtieldmakbokekaaGreatDoorDd
import Derived.Test.YtieldmakbokekaaGreatDoorRd
import Derived.Test.YtieldmakbokekaaGreatDoorRe
import Derived.Lib.IndexBytes
namespace Go.Proofs.YtieldmakbokekaaGreatDoor.Oct
open Go.RowKit
open Go.Proofs.YtieldmakbokekaaGreatDoor.Fl

theorem index_at (l : List UInt8) (k : Nat) (c : UInt8) (m : List UInt8) (h : l.drop k = c :: m) (W : World) : (Instr.index 9 (.string ⟨l.toArray⟩) (.int .i64 k)).run Tryz.prog W = .ok (.int .u8 (c.toNat : Int)) W := by
  have hk : k < l.length := by
    refine Nat.lt_of_not_le fun hle => ?_
    rw [List.drop_of_length_le hle] at h; cases h
  have hc : l[k] = c := by
    have := List.drop_eq_getElem_cons hk
    rw [h] at this
    exact (List.cons.inj this).1.symm
  rw [run_index_string _ 9 _ .i64 k Tryz.underlying9]
  rw [dif_pos ⟨by omega, by rw [sz_mk]; omega⟩]
  refine congrArg (fun x : Int => Result.ok (Value.int .u8 x) W) ?_
  rw [← hc]
  rfl

theorem drop_next {l : List UInt8} {k : Nat} (hk : k < l.length) : ∃ c, l.drop k = c :: l.drop (k + 1) := ⟨_, List.drop_eq_getElem_cons hk⟩

theorem digit_any (c : UInt8) (w : World) : Calls Tryz.prog 50 #[.int .u8 (c.toNat : Int)] w fun e w' => e = .returned (.bool (dgU c)) ∧ w = w' := by
  obtain ⟨z, hz⟩ : ∃ z : Int, (c.toNat : Int) = z := ⟨_, rfl⟩
  have HZ : Hid ((c.toNat : Int) = z) := hz
  rw [hz]
  by_cases h1 : 48 ≤ z
  · by_cases h2 : z ≤ 57
    · have HD : Hid (dgU c = true) := decide_eq_true (by omega)
      rw [HD.out]
      clear hz
      go_enter Tryz.func50, Tryz.ntmps50
      go_wp2
      go_ret
      exact ⟨rfl, rfl⟩
    · have HD : Hid (dgU c = false) := decide_eq_false (by omega)
      rw [HD.out]
      clear hz
      go_enter Tryz.func50, Tryz.ntmps50
      go_wp2
      go_ret
      exact ⟨rfl, rfl⟩
  · have HD : Hid (dgU c = false) := decide_eq_false (by omega)
    have hd : decide (48 ≤ z) = false := decide_eq_false h1
    rw [HD.out]
    clear hz
    go_enter Tryz.func50, Tryz.ntmps50
    go_wp2
    go_ret
    exact ⟨rfl, rfl⟩

theorem dg_ne46 {a : List UInt8} (h : a.all dgU = true) : ∀ c ∈ a, (c != (46 : UInt8)) = true := fun c hc => by
  have h1 := List.all_eq_true.1 h c hc
  have h2 : c ≠ 46 := by rintro rfl; revert h1; decide
  simpa using h2

theorem dA_app {a r : List UInt8} (h : a.all dgU = true) : dA (a ++ r) = a ++ dA r := by
  unfold dA
  exact List.takeWhile_append_of_pos (dg_ne46 h)

theorem no_0 (r : List UInt8) : dOk (46 :: r) = false := by
  have : dA (46 :: r) = [] := rfl
  unfold dOk; rw [this]; simp

theorem no_A {a r : List UInt8} {c : UInt8} (h : a.all dgU = true) (hc : c ≠ 46) (hd : dgU c = false) : dOk (a ++ c :: r) = false := by
  have h1 : dA (a ++ c :: r) = a ++ c :: dA r := by
    rw [dA_app h]
    unfold dA
    rw [List.takeWhile_cons, show (c != 46) = true by simpa using hc]
    rfl
  have h2 : (dA (a ++ c :: r)).all dgU = false := by
    rw [h1, List.all_append, List.all_cons, hd]; simp
  unfold dOk; rw [h2]; simp

theorem no_B {a b : List UInt8} (h : a.all dgU = true) (hb : b.all dgU = false) : dOk (a ++ 46 :: b) = false := by
  obtain ⟨p1, p2, p3⟩ := a_point (b := b) h
  unfold dOk; rw [p2, p3, hb]; simp

theorem no_Be {a : List UInt8} (h : a.all dgU = true) : dOk (a ++ [46]) = false := by
  obtain ⟨p1, p2, p3⟩ := a_point (b := []) h
  unfold dOk; rw [p2, p3]; simp

theorem no_len {a r : List UInt8} (h : a.all dgU = true) (hl : 15 < a.length) : dOk (a ++ r) = false := by
  have h1 := dA_app (r := r) h
  have h2 : ¬ (dA (a ++ r)).length + (dB (a ++ r)).length ≤ 15 := by rw [h1, List.length_append]; omega
  unfold dOk; rw [decide_eq_false h2]; simp

theorem no_lenB {a b : List UInt8} (h : a.all dgU = true) (hl : 15 < a.length + b.length) : dOk (a ++ 46 :: b) = false := by
  obtain ⟨p1, p2, p3⟩ := a_point (b := b) h
  have h2 : ¬ (dA (a ++ 46 :: b)).length + (dB (a ++ 46 :: b)).length ≤ 15 := by rw [p1, p2]; omega
  unfold dOk; rw [decide_eq_false h2]; simp

/-- What the first k bytes have said. -/
def Pre (m : List UInt8) (k n d : Nat) (pt : Int) : Prop :=
  (pt = -1 ∧ (m.take k).all dgU = true ∧ d = k ∧ n = num ((m.take k).map UInt8.toNat) k) ∨
  ∃ a b, m.take k = a ++ 46 :: b ∧ a ≠ [] ∧ a.all dgU = true ∧ b.all dgU = true ∧ pt = (b.length : Int) ∧ d = a.length + b.length ∧ n = num ((a ++ b).map UInt8.toNat) (a ++ b).length

theorem take_next {m : List UInt8} {k : Nat} {c : UInt8} {r : List UInt8} (h : m.drop k = c :: r) : m.take (k + 1) = m.take k ++ [c] ∧ m = m.take k ++ c :: r ∧ k < m.length := by
  have hk : k < m.length := by
    refine Nat.lt_of_not_le fun hle => ?_
    rw [List.drop_of_length_le hle] at h; cases h
  refine ⟨?_, ?_, hk⟩
  · have := List.drop_eq_getElem_cons hk
    rw [h] at this
    rw [List.take_add_one, List.getElem?_eq_getElem hk, (List.cons.inj this).1]
    rfl
  · rw [← h, List.take_append_drop]

theorem num_step (a : List UInt8) (c : UInt8) : num ((a ++ [c]).map UInt8.toNat) (a ++ [c]).length = 10 * num (a.map UInt8.toNat) a.length + (c.toNat - 48) := by
  have := num_snoc (a.map UInt8.toNat) c.toNat
  rw [List.length_append, List.length_map] at this
  rw [List.map_append, List.length_append]
  exact this

theorem pre_point {m : List UInt8} {k n d : Nat} {r : List UInt8} (hp : Pre m k n d (-1)) (hk : 0 < k) (h : m.drop k = 46 :: r) : Pre m (k + 1) n d 0 := by
  obtain ⟨h1, h2, h3⟩ := take_next h
  rcases hp with ⟨_, ha, hd, hn⟩ | ⟨a, b, _, _, _, _, hpt, _⟩
  · refine .inr ⟨m.take k, [], h1, ?_, ha, rfl, rfl, ?_, ?_⟩
    · intro h0
      have := congrArg List.length h0
      rw [List.length_take, Nat.min_eq_left (by omega), List.length_nil] at this
      omega
    · show d = (m.take k).length + 0
      rw [List.length_take, Nat.min_eq_left (by omega)]; omega
    · rw [List.append_nil, List.length_take, Nat.min_eq_left (by omega)]; exact hn
  · omega

theorem pre_digit {m : List UInt8} {k n d : Nat} {pt : Int} {c : UInt8} {r : List UInt8} (hp : Pre m k n d pt) (hc : dgU c = true) (h : m.drop k = c :: r) :
    Pre m (k + 1) (10 * n + (c.toNat - 48)) (d + 1) (if 0 ≤ pt then pt + 1 else pt) := by
  obtain ⟨h1, h2, h3⟩ := take_next h
  rcases hp with ⟨hpt, ha, hd, hn⟩ | ⟨a, b, he, hne, ha, hb, hpt, hd, hn⟩
  · refine .inl ⟨by rw [if_neg (by omega)]; exact hpt, ?_, by omega, ?_⟩
    · rw [h1, List.all_append, ha]; simp [hc]
    · have hl : (m.take k).length = k := by rw [List.length_take]; omega
      have := num_step (m.take k) c
      rw [hl, List.length_append, hl] at this
      rw [h1, hn, ← this]; rfl
  · refine .inr ⟨a, b ++ [c], by rw [h1, he, List.append_assoc]; rfl, hne, ha, ?_, ?_, ?_, ?_⟩
    · rw [List.all_append, hb]; simp [hc]
    · rw [if_pos (by omega), hpt, List.length_append]; simp
    · rw [List.length_append]; simp; omega
    · rw [← List.append_assoc, num_step, hn]

theorem pre_bad {m : List UInt8} {k n d : Nat} {pt : Int} {c : UInt8} {r : List UInt8} (hp : Pre m k n d pt) (hc : dgU c = false) (hc2 : c = 46 → pt ≠ -1 ∨ k = 0) (h : m.drop k = c :: r) : dOk m = false := by
  obtain ⟨h1, h2, h3⟩ := take_next h
  rw [h2]
  rcases hp with ⟨hpt, ha, hd, hn⟩ | ⟨a, b, he, hne, ha, hb, hpt, hd, hn⟩
  · by_cases h46 : c = 46
    · rcases hc2 h46 with h | h
      · exact absurd hpt h
      · subst h; subst h46; exact no_0 r
    · exact no_A ha h46 hc
  · rw [he, List.append_assoc]
    refine no_B ha ?_
    show ((b ++ c :: r).all dgU) = false
    rw [List.all_append, List.all_cons, hc]; simp

theorem pre_long {m : List UInt8} {k n d : Nat} {pt : Int} (hp : Pre m k n d pt) (hk : k ≤ m.length) (hd : 15 < d) : dOk m = false := by
  have e := List.take_append_drop k m
  rw [← e]
  rcases hp with ⟨hpt, ha, hdk, hn⟩ | ⟨a, b, he, hne, ha, hb, hpt, hdd, hn⟩
  · exact no_len ha (by rw [List.length_take]; omega)
  · rw [he, List.append_assoc]
    exact no_lenB (b := b ++ m.drop k) ha (by rw [List.length_append]; omega)

/-- The whole text. -/
theorem pre_end {m : List UInt8} {n d : Nat} {pt : Int} (hp : Pre m m.length n d pt) (hd : d ≤ 15) :
    (d = 0 → dOk m = false) ∧ (pt = 0 → dOk m = false) ∧ (∀ c r, m = c :: r → c = 48 → 1 < (d : Int) - max pt 0 → dOk m = false) ∧
    (d ≠ 0 → pt ≠ 0 → (∀ c r, m = c :: r → ¬ (c = 48 ∧ 1 < (d : Int) - max pt 0)) → dOk m = true ∧ dV m = opN .quo (floatOfInt .f64 (n : Int)) (floatOfInt .f64 ((10 ^ (max pt 0).toNat : Nat) : Int)) ∧ n < 1000000000000000) := by
  unfold Pre at hp
  rw [List.take_length] at hp
  rcases hp with ⟨hpt, ha, hdk, hn⟩ | ⟨a, b, he, hne, ha, hb, hpt, hdd, hn⟩
  · obtain ⟨p1, p2, p3⟩ := no_point ha
    refine ⟨fun h0 => ?_, fun h => by omega, fun c r hm hc h1 => ?_, fun h0 _ hz => ?_⟩
    · have : m = [] := List.length_eq_zero_iff.1 (by omega)
      subst this; rfl
    · unfold dOk
      rw [p1, decide_eq_true (by omega : 1 < m.length), show (m.head? == some 48) = true by rw [hm, hc]; rfl]
      simp
    · refine ⟨?_, ?_, ?_⟩
      · unfold dOk
        rw [p1, p2, p3, ha]
        cases hm : m with
        | nil => rw [hm] at hdk; simp at hdk; omega
        | cons c r =>
          have h4 := hz c r hm
          have h5 : (decide (1 < (c :: r).length) && ((c :: r).head? == some 48)) = false := by
            rw [← hm]
            by_cases h6 : c = 48
            · have : ¬ 1 < m.length := fun h7 => h4 ⟨h6, by omega⟩
              rw [decide_eq_false this]; rfl
            · rw [hm, show ((c :: r).head? == some 48) = false by simpa using h6]; simp
          rw [h5]
          rw [hm] at hdk
          simp at hdk ⊢
          omega
      · unfold dV
        rw [p1, p2, List.append_nil, hn, hpt]; rfl
      · have := num_lt (l := m.map UInt8.toNat) (by unfold dgs; rw [List.all_map]; exact ha) m.length (by simp)
        rw [← hn] at this
        exact Nat.lt_of_lt_of_le this (Nat.pow_le_pow_right (n := 10) (by omega) (by omega : m.length ≤ 15))
  · obtain ⟨p1, p2, p3⟩ := a_point (b := b) ha
    rw [← he] at p1 p2 p3
    refine ⟨fun h0 => ?_, fun h0 => ?_, fun c r hm hc h1 => ?_, fun h0 hp0 hz => ?_⟩
    · have : 0 < a.length := List.length_pos_iff.2 hne
      omega
    · have : b = [] := List.length_eq_zero_iff.1 (by omega)
      subst this
      rw [he]; exact no_Be ha
    · unfold dOk
      have h5 : a.head? = some 48 := by
        cases a with
        | nil => exact absurd rfl hne
        | cons d a => rw [hm] at he; have := (List.cons.inj he).1; rw [← this, hc]; rfl
      rw [p1, decide_eq_true (by omega : 1 < a.length), h5]
      simp
    · refine ⟨?_, ?_, ?_⟩
      · unfold dOk
        rw [p1, p2, p3, ha, hb]
        cases a with
        | nil => exact absurd rfl hne
        | cons c a =>
          have h4 := hz c (a ++ 46 :: b) he
          have h5 : (decide (1 < (c :: a).length) && ((c :: a).head? == some 48)) = false := by
            by_cases h6 : c = 48
            · have : ¬ 1 < (c :: a).length := fun h7 => h4 ⟨h6, by omega⟩
              rw [decide_eq_false this]; rfl
            · rw [show ((c :: a).head? == some 48) = false by simpa using h6]; simp
          rw [h5]
          have hbn : b.isEmpty = false := by
            cases b with
            | nil => simp at hpt; exact absurd hpt hp0
            | cons => rfl
          rw [hbn]
          simp at hdd ⊢
          omega
      · unfold dV
        rw [p1, p2, hn, hpt, show (max (b.length : Int) 0).toNat = b.length by omega]
      · have := num_lt (l := (a ++ b).map UInt8.toNat) (by unfold dgs; rw [List.all_map, List.all_append]; show (a.all dgU && b.all dgU) = true; rw [ha, hb]; rfl) (a ++ b).length (by simp)
        rw [← hn] at this
        exact Nat.lt_of_lt_of_le this (Nat.pow_le_pow_right (n := 10) (by omega) (by rw [List.length_append]; omega : (a ++ b).length ≤ 15))

/-- Powers of ten. -/
def tens (j : Nat) : Nat := floatOfInt .f64 ((10 ^ j : Nat) : Int)
theorem tens_step : ∀ j : Fin 15, floatBits .mul .f64 (tens j.val) 4621819117588971520 = some (tens (j.val + 1)) := by decide +kernel
theorem tens_num : ∀ j : Fin 16, ¬ Nan (tens j.val) := by decide +kernel
theorem fi_nan {n : Nat} (h : n < 1000000000000000) : ¬ Nan (floatOfInt .f64 (n : Int)) := by
  rw [floatOfInt_nat, nan_iff]
  have := (fi_num h).1
  omega

/-- What Decimal ends in. -/
def DecEnd (m : List UInt8) (w : World) (e : Ending) (w' : World) : Prop :=
  (∃ r, e = .returned (.tuple #[.float .f64 r, .bool (dOk m)]) ∧ r < 2 ^ 64 ∧ (dOk m = true → nb r = dV m) ∧ (dOk m = false → r = 0)) ∧ Below w.heap.size w w'

theorem dec_no {m : List UInt8} {w w' : World} (h : dOk m = false) (hb : Below w.heap.size w w') : DecEnd m w (.returned (.tuple #[.float .f64 0, .bool false])) w' := by
  refine ⟨⟨0, by rw [h], by decide, (fun h' => by rw [h] at h'; cases h'), fun _ => rfl⟩, hb⟩

set_option maxHeartbeats 4000000 in
theorem rdec_any (m : List UInt8) (w : World) (hm : m.length ≤ 10000) : Calls Tryz.prog 31 #[.string ⟨m.toArray⟩] w (DecEnd m w) := by
  have hs := sz_mk m
  have HIX : Hid (∀ k c r, m.drop k = c :: r → ∀ W, (Instr.index 9 (.string ⟨m.toArray⟩) (.int .i64 k)).run Tryz.prog W = .ok (.int .u8 (c.toNat : Int)) W) := fun k c r h W => index_at m k c r h W
  generalize (⟨m.toArray⟩ : ByteArray) = s at *
  go_enter Tryz.func31, Tryz.ntmps31
  go_wp2
  go_loop [4, 5, 6, 7] (fun n d pt i => ∃ (N d' k : Nat) (pt' : Int), k ≤ m.length ∧ n = .int .i64 (N : Int) ∧ d = .int .i64 (d' : Int) ∧ pt = .int .i64 pt' ∧ i = .int .i64 (k : Int) ∧ d' ≤ 15 ∧ Hid (Pre m k N d' pt') ∧ N < 1000000000000000 ∧ -1 ≤ pt' ∧ pt' ≤ 15) (fun _ _ _ i => m.length - (intOf i).toNat)
  case atStart => exact ⟨0, 0, 0, -1, Nat.zero_le _, rfl, rfl, rfl, rfl, by omega, .inl ⟨rfl, rfl, rfl, rfl⟩, by omega, by omega, by omega⟩
  case round =>
    obtain ⟨N, d, k, pt, hk, rfl, rfl, rfl, rfl, hd, HP, hN, hp0, hp1⟩ := hrel
    by_cases hlt : k < m.length
    · obtain ⟨c, hc⟩ := drop_next hlt
      have hix := HIX.out k c _ hc
      have HC : Hid (m.drop k = c :: m.drop (k + 1)) := hc
      clear hc
      have hdg := digit_any c
      by_cases h46 : c = 46
      · subst h46
        by_cases hpk : pt = -1 ∧ 0 < k
        · obtain ⟨rfl, hk0⟩ := hpk
          have HP2 : Hid (Pre m (k + 1) N d 0) := pre_point HP.out hk0 HC.out
          have hk0' : (0 : Int) < (k : Int) := by omega
          have hd15 : ¬ (15 : Int) < (d : Int) := by omega
          go_wp2
          go_round
          case rel => exact ⟨N, d, k + 1, 0, by omega, rfl, rfl, rfl, by go_num, hd, HP2.out, hN, by omega, by omega⟩
          case measure => simp [intOf]; omega
        · have HF : Hid (dOk m = false) := pre_bad HP.out (by decide) (fun _ => by
            by_cases h1 : pt = -1
            · exact .inr (by omega)
            · exact .inl h1) HC.out
          by_cases hpt : pt < 0
          · have hk0 : k = 0 := by omega
            subst hk0
            have hdz : decide ((0 : Int) < ((0 : Nat) : Int)) = false := by decide
            have hix0 : ∀ W, (Instr.index 9 (.string s) (.int .i64 0)).run Tryz.prog W = .ok (.int .u8 46) W := hix
            clear hix
            go_wp2_with fail
            refine (hdg _).mono ?_
            rintro e w' ⟨rfl, rfl⟩
            go_wp2
            go_ret2
            exact dec_no HF.out (Below.refl _ _)
          · have hpd : decide (pt < 0) = false := decide_eq_false hpt
            go_wp2_with fail
            refine (hdg _).mono ?_
            rintro e w' ⟨rfl, rfl⟩
            go_wp2
            go_ret2
            exact dec_no HF.out (Below.refl _ _)
      · have h46' : ((c.toNat : Int) == 46) = false := by
          have : c.toNat ≠ 46 := fun h => h46 (UInt8.toNat_inj.1 h)
          simp; omega
        by_cases hdc : dgU c = true
        · rw [hdc] at hdg
          have hcb : 48 ≤ c.toNat ∧ c.toNat ≤ 57 := of_decide_eq_true hdc
          have HP2 : Hid (Pre m (k + 1) (10 * N + (c.toNat - 48)) (d + 1) (if 0 ≤ pt then pt + 1 else pt)) := pre_digit HP.out hdc HC.out
          obtain ⟨z, hz⟩ : ∃ z : Nat, c.toNat = z := ⟨_, rfl⟩
          rw [hz] at hix hdg hcb HP2 h46'
          obtain ⟨hz0, hz1⟩ := hcb
          clear hz
          by_cases hlong : 15 < d + 1
          · have HF : Hid (dOk m = false) := pre_long HP2.out (by omega) hlong
            have hl' : (15 : Int) < (d : Int) + 1 := by omega
            by_cases hpt : 0 ≤ pt
            · go_wp2_with fail
              refine (hdg _).mono ?_
              rintro e w' ⟨rfl, rfl⟩
              go_wp2
              go_ret2
              exact dec_no HF.out (Below.refl _ _)
            · have hpd : decide (0 ≤ pt) = false := decide_eq_false hpt
              go_wp2_with fail
              refine (hdg _).mono ?_
              rintro e w' ⟨rfl, rfl⟩
              go_wp2
              go_ret2
              exact dec_no HF.out (Below.refl _ _)
          · have hl' : ¬ (15 : Int) < (d : Int) + 1 := by omega
            have hNb : 10 * N + (z - 48) < 1000000000000000 := by
              rcases HP2.out with ⟨_, ha, hdk, hn⟩ | ⟨a, b, he, hne, ha, hb, hpt, hdd, hn⟩
              · have h5 := num_lt (l := (m.take (k + 1)).map UInt8.toNat) (by unfold dgs; rw [List.all_map]; exact ha) (k + 1) (by simp; omega)
                rw [← hn] at h5
                exact Nat.lt_of_lt_of_le h5 (Nat.pow_le_pow_right (n := 10) (by omega) (by omega : k + 1 ≤ 15))
              · have h5 := num_lt (l := (a ++ b).map UInt8.toNat) (by unfold dgs; rw [List.all_map, List.all_append]; show (a.all dgU && b.all dgU) = true; rw [ha, hb]; rfl) (a ++ b).length (by simp)
                rw [← hn] at h5
                exact Nat.lt_of_lt_of_le h5 (Nat.pow_le_pow_right (n := 10) (by omega) (by rw [List.length_append]; omega : (a ++ b).length ≤ 15))
            by_cases hpt : 0 ≤ pt
            · have hpb : pt + 1 ≤ 15 := by
                rcases HP.out with ⟨h1, _⟩ | ⟨a, b, _, hne, _, _, h1, h2, _⟩
                · omega
                · have : 0 < a.length := List.length_pos_iff.2 hne
                  omega
              rw [if_pos hpt] at HP2
              go_wp2_with fail
              refine (hdg _).mono ?_
              rintro e w' ⟨rfl, rfl⟩
              go_wp2
              go_round
              case rel => exact ⟨10 * N + (z - 48), d + 1, k + 1, pt + 1, by omega, congrArg (fun x : Int => Value.int .i64 x) (by omega), by go_num, rfl, by go_num, by omega, HP2.out, hNb, by omega, hpb⟩
              case measure => simp [intOf]; omega
            · rw [if_neg hpt] at HP2
              have hpd : decide (0 ≤ pt) = false := decide_eq_false hpt
              go_wp2_with fail
              refine (hdg _).mono ?_
              rintro e w' ⟨rfl, rfl⟩
              go_wp2
              go_round
              case rel => exact ⟨10 * N + (z - 48), d + 1, k + 1, pt, by omega, congrArg (fun x : Int => Value.int .i64 x) (by omega), by go_num, rfl, by go_num, by omega, HP2.out, hNb, by omega, by omega⟩
              case measure => simp [intOf]; omega
        · rw [Bool.not_eq_true] at hdc
          have HF : Hid (dOk m = false) := pre_bad HP.out hdc (fun h => absurd h h46) HC.out
          rw [hdc] at hdg
          go_wp2_with fail
          refine (hdg _).mono ?_
          rintro e w' ⟨rfl, rfl⟩
          go_wp2
          go_ret2
          exact dec_no HF.out (Below.refl _ _)
    · obtain rfl : k = m.length := by omega
      obtain ⟨e1, e2, e3, e4⟩ := pre_end HP.out hd
      have HE1 : Hid (d = 0 → dOk m = false) := e1
      have HE2 : Hid (pt = 0 → dOk m = false) := e2
      have HE3 : Hid (∀ c r, m = c :: r → c = 48 → 1 < (d : Int) - max pt 0 → dOk m = false) := e3
      have HE4 : Hid (d ≠ 0 → pt ≠ 0 → (∀ c r, m = c :: r → ¬ (c = 48 ∧ 1 < (d : Int) - max pt 0)) → dOk m = true ∧ dV m = opN .quo (floatOfInt .f64 (N : Int)) (floatOfInt .f64 ((10 ^ (max pt 0).toNat : Nat) : Int)) ∧ N < 1000000000000000) := e4
      clear e1 e2 e3 e4 hlt
      by_cases hd0 : d = 0
      · have HF : Hid (dOk m = false) := HE1.out hd0
        subst hd0
        go_wp2
        go_ret2
        exact dec_no HF.out (Below.refl _ _)
      have hd0' : ((d : Int) == 0) = false := by simpa using hd0
      by_cases hpt0 : pt = 0
      · have HF : Hid (dOk m = false) := HE2.out hpt0
        subst hpt0
        go_wp2
        go_ret2
        exact dec_no HF.out (Below.refl _ _)
      have hpt0' : (pt == 0) = false := by simpa using hpt0
      have hml : 0 < m.length := by
        rcases HP.out with ⟨_, _, h1, _⟩ | ⟨a, b, h1, hne, _⟩
        · omega
        · rw [List.take_length] at h1; rw [h1]; simp; omega
      obtain ⟨c, hc⟩ := drop_next hml
      rw [List.drop_zero] at hc
      obtain ⟨r, hcr⟩ : ∃ r, m = c :: r := ⟨_, hc⟩
      have hix0 : ∀ W, (Instr.index 9 (.string s) (.int .i64 0)).run Tryz.prog W = .ok (.int .u8 (c.toNat : Int)) W := HIX.out 0 c r (by rw [List.drop_zero]; exact hcr)
      have HCR : Hid (m = c :: r) := hcr
      clear hc hcr
      obtain ⟨M, hM⟩ : ∃ M : Nat, max pt 0 = (M : Int) := ⟨(max pt 0).toNat, by omega⟩
      have hMb : M ≤ 15 := by omega
      have hmx : (if (0 : Int) > pt then (0 : Int) else pt) = (M : Int) := by split <;> omega
      rw [hM] at HE3 HE4
      have hMpt : M = 0 ∨ pt = (M : Int) := by omega
      by_cases hz : c = 48 ∧ 1 < (d : Int) - (M : Int)
      · have HF : Hid (dOk m = false) := HE3.out c r HCR.out hz.1 hz.2
        obtain ⟨rfl, hz2⟩ := hz
        have hz3 : (1 : Int) < (d : Int) - max pt 0 := by omega
        go_wp2
        go_ret2
        exact dec_no HF.out (Below.refl _ _)
      · obtain ⟨hok, hval, _⟩ := HE4.out hd0 hpt0 (fun c' r' h => by
          rw [HCR.out] at h
          obtain ⟨h1, h2⟩ := List.cons.inj h
          rw [← h1]; exact hz)
        rw [Int.toNat_natCast] at hval
        have HOK : Hid (dOk m = true ∧ dV m = opN .quo (floatOfInt .f64 (N : Int)) (tens M)) := ⟨hok, hval⟩
        clear hok hval
        obtain ⟨X, hX⟩ : ∃ X, floatOfInt .f64 (N : Int) = X := ⟨_, rfl⟩
        have HXN : Hid (¬ Nan X) := by unfold Hid; rw [← hX]; exact fi_nan hN
        rw [hX] at HOK
        by_cases hc48 : c = 48
        · subst hc48
          have hng : ¬ (1 : Int) < (d : Int) - (M : Int) := fun h => hz ⟨rfl, h⟩
          have hng2 : ¬ (1 : Int) < (d : Int) - max pt 0 := by omega
          clear hz
          go_wp2
          clear hX
          go_loop [9, 10] (fun t i => ∃ j : Nat, j ≤ M ∧ i = .int .i64 (j : Int) ∧ t = .float .f64 (tens j)) (fun _ i => M - (intOf i).toNat)
          case atStart => exact ⟨0, Nat.zero_le _, rfl, congrArg (fun x => Value.float .f64 x) (by decide +kernel)⟩
          case round =>
            obtain ⟨j, hj, rfl, rfl⟩ := hrel
            by_cases hlt : (j : Int) < pt
            · have hjM : j < M := by omega
              have hmul : ∀ W, (binOp .mul 22 (.float .f64 (tens j)) (.float .f64 4621819117588971520)).run Tryz.prog W = .ok (.float .f64 (tens (j + 1))) W := fun W => run_float_arith W .mul 22 .f64 _ _ _ (tens_step ⟨j, Nat.lt_of_lt_of_le hjM hMb⟩)
              obtain ⟨u, hu⟩ : ∃ u, tens (j + 1) = u := ⟨_, rfl⟩
              have HU : Hid (tens (j + 1) = u) := hu
              rw [hu] at hmul
              clear hu
              go_wp2
              go_round
              case rel => exact ⟨j + 1, hjM, by go_num, by rw [HU.out]⟩
              case measure => simp [intOf]; omega
            · have hjM : j = M := by omega
              subst hjM
              have htn : ¬ Nan (tens j) := tens_num ⟨j, Nat.lt_of_le_of_lt hMb (by decide)⟩
              obtain ⟨q, w8, hb8, hq8, hn8, hop⟩ := run_op (op := .quo) (by simp [Ar]) X (tens j) w
              rw [nb_num HXN.out, nb_num htn] at hn8
              have HQ : Hid (Below w.heap.size w w8 ∧ q < 2 ^ 64 ∧ nb q = opN .quo X (tens j)) := ⟨hb8, hq8, hn8⟩
              generalize tens j = T at *
              clear hb8 hq8 hn8 htn
              go_wp2
              go_ret2
              refine ⟨⟨q, by rw [HOK.out.1]; rfl, HQ.out.2.1, fun _ => by rw [HQ.out.2.2, HOK.out.2], fun h => by rw [HOK.out.1] at h; cases h⟩, HQ.out.1⟩
        · have hc' : ((c.toNat : Int) == 48) = false := by
            have : c.toNat ≠ 48 := fun h => hc48 (UInt8.toNat_inj.1 h)
            simp; omega
          clear hz
          go_wp2
          clear hX
          go_loop [9, 10] (fun t i => ∃ j : Nat, j ≤ M ∧ i = .int .i64 (j : Int) ∧ t = .float .f64 (tens j)) (fun _ i => M - (intOf i).toNat)
          case atStart => exact ⟨0, Nat.zero_le _, rfl, congrArg (fun x => Value.float .f64 x) (by decide +kernel)⟩
          case round =>
            obtain ⟨j, hj, rfl, rfl⟩ := hrel
            by_cases hlt : (j : Int) < pt
            · have hjM : j < M := by omega
              have hmul : ∀ W, (binOp .mul 22 (.float .f64 (tens j)) (.float .f64 4621819117588971520)).run Tryz.prog W = .ok (.float .f64 (tens (j + 1))) W := fun W => run_float_arith W .mul 22 .f64 _ _ _ (tens_step ⟨j, Nat.lt_of_lt_of_le hjM hMb⟩)
              obtain ⟨u, hu⟩ : ∃ u, tens (j + 1) = u := ⟨_, rfl⟩
              have HU : Hid (tens (j + 1) = u) := hu
              rw [hu] at hmul
              clear hu
              go_wp2
              go_round
              case rel => exact ⟨j + 1, hjM, by go_num, by rw [HU.out]⟩
              case measure => simp [intOf]; omega
            · have hjM : j = M := by omega
              subst hjM
              have htn : ¬ Nan (tens j) := tens_num ⟨j, Nat.lt_of_le_of_lt hMb (by decide)⟩
              obtain ⟨q, w8, hb8, hq8, hn8, hop⟩ := run_op (op := .quo) (by simp [Ar]) X (tens j) w
              rw [nb_num HXN.out, nb_num htn] at hn8
              have HQ : Hid (Below w.heap.size w w8 ∧ q < 2 ^ 64 ∧ nb q = opN .quo X (tens j)) := ⟨hb8, hq8, hn8⟩
              generalize tens j = T at *
              clear hb8 hq8 hn8 htn
              go_wp2
              go_ret2
              refine ⟨⟨q, by rw [HOK.out.1]; rfl, HQ.out.2.1, fun _ => by rw [HQ.out.2.2, HOK.out.2], fun h => by rw [HOK.out.1] at h; cases h⟩, HQ.out.1⟩

end Go.Proofs.YtieldmakbokekaaGreatDoor.Oct
