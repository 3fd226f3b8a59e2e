/-
  Both Reads, side by side.
-/
import Derived.Test.YtieldmakbokekaaGreatDoorXk
namespace Go.Proofs.YtieldmakbokekaaGreatDoor.Oct
open Go.RowKit
open Go.Proofs.YtieldmakbokekaaGreatDoor.Fl

/-- A number and a Boolean, the number up to NaN. -/
def RE (N : Nat) (ok : Bool) (w : World) (e : Ending) (w' : World) : Prop := (∃ r, e = .returned (.tuple #[.float .f64 r, .bool ok]) ∧ nb r = N) ∧ Below w.heap.size w w'

theorem nb_zero : nb 0 = 0 := nb_num (by rw [nan_iff]; decide)

theorem nb_mod {v D : Nat} (h : nb v = D) (hD : D < 2 ^ 63) : nb (v % 2 ^ 63) = D := by
  by_cases hn : Nan v
  · have : Nan (v % 2 ^ 63) := by rw [nan_iff] at hn ⊢; omega
    rw [nb_nan hn] at h
    rw [nb_nan this]
    exact h
  · rw [nb_num hn] at h
    rw [h, Nat.mod_eq_of_lt hD, ← h, nb_num hn]

def negD (D : Nat) : Nat := if Nan D then 0x7ff8000000000001 else D + 2 ^ 63

theorem nb_neg {v D : Nat} (h : nb v = D) (hD : D < 2 ^ 63) : nb (v % 2 ^ 63 + 2 ^ 63) = negD D := by
  unfold negD
  by_cases hn : Nan v
  · have : Nan (v % 2 ^ 63 + 2 ^ 63) := by rw [nan_iff] at hn ⊢; omega
    rw [nb_nan hn] at h
    rw [nb_nan this, ← h, if_pos nan_can]
  · rw [nb_num hn] at h
    subst h
    rw [if_neg hn, Nat.mod_eq_of_lt hD]
    exact nb_num (by rw [nan_iff] at hn ⊢; omega)

theorem toL_len (s : ByteArray) : s.data.toList.length = s.size := Array.length_toList

/-- Where the document does not ask for a power. -/
theorem no01 (s : ByteArray) (h : ¬ ((∃ m, s.data.toList = 48 :: 120 :: 49 :: m) ∧ 4 ≤ s.size ∧ s.size ≤ 39)) :
    decide ((3 : Int) < (s.size : Int)) = false ∨ ((3 : Int) < (s.size : Int) ∧ decide ((s.size : Int) < 40) = false) ∨ ((3 : Int) < (s.size : Int) ∧ (s.size : Int) < 40 ∧ ((s.extract 0 3).toList == [48, 120, 49]) = false) := by
  by_cases h1 : 3 < s.size
  · by_cases h2 : s.size < 40
    · refine .inr (.inr ⟨by omega, by omega, ?_⟩)
      have hl := toL_len s
      obtain ⟨a, b, c, m, he⟩ : ∃ a b c m, s.data.toList = a :: b :: c :: m := by
        match hm : s.data.toList with
        | [] => rw [hm] at hl; simp at hl; omega
        | [_] => rw [hm] at hl; simp at hl; omega
        | [_, _] => rw [hm] at hl; simp at hl; omega
        | a :: b :: c :: m => exact ⟨a, b, c, m, rfl⟩
      have e3 : (s.extract 0 3).toList = [a, b, c] := by
        have hd : s.data = (a :: b :: c :: m).toArray := by rw [← he]
        rw [ByteArray.toList_eq, ByteArray.data_extract, hd]
        simp
      rw [e3]
      refine Bool.eq_false_iff.2 fun e => h ⟨⟨m, ?_⟩, by omega, by omega⟩
      have : [a, b, c] = [48, 120, 49] := by simpa using e
      rw [he]
      injection this with p q
      injection q with q r
      injection r with r _
      rw [p, q, r]
    · exact .inr (.inl ⟨by omega, decide_eq_false (by omega)⟩)
  · exact .inl (decide_eq_false (by omega))

theorem dOk_x (m : List UInt8) : dOk (48 :: 120 :: m) = false := no_A (a := [48]) (c := 120) (r := m) (by decide) (by decide) (by decide)

theorem dOk_long {m : List UInt8} (h : 100 < m.length) : dOk m = false := by
  unfold dOk
  have : ¬ (dA m).length + (dB m).length ≤ 15 := fun h' => by
    have h1 : m.length ≤ (dA m).length + (dB m).length + 1 := by
      unfold dA dB
      have := congrArg List.length (List.takeWhile_append_dropWhile (p := (· != (46 : UInt8))) (l := m))
      rw [List.length_append] at this
      rw [List.length_drop]
      omega
    omega
  rw [decide_eq_false this]
  rfl

/-- Two answers to a text in hex. -/
theorem ans_one {s : ByteArray} {x v : Nat} {ok : Bool} (w : World) (hx : x < 2 ^ 64) (hn : ¬ Nan x) (ht : Tab w) (hz : Tz w) (hF : Fi w) (h : tx x = s) (ha : Ans s v ok) : ok = true ∧ v = x := by
  rcases ha with ⟨h1, h2, h3, h4⟩ | ⟨_, _, h3⟩
  · refine ⟨h1, ?_⟩
    rw [tx_num h4] at h2
    rw [tx_num hn] at h
    exact shw_inj w h3 hx h4 hn ht hz hF (h2.trans h.symm)
  · exact absurd h (h3 x hx)

theorem ans_no {s : ByteArray} {v : Nat} {ok : Bool} (h : ∀ x, x < 2 ^ 64 → tx x ≠ s) (ha : Ans s v ok) : ok = false ∧ v = 0 := by
  rcases ha with ⟨_, h2, h3, _⟩ | ⟨h1, h2, _⟩
  · exact absurd h2 (h v h3)
  · exact ⟨h1, h2⟩

/-- What both answer. -/
def Both (s : ByteArray) (u : World) (N : Nat) (ok : Bool) : Prop :=
  (∀ v, Al u v → Calls Tryz.prog 7 #[.string s] v (RE N ok v)) ∧ (s.size ≤ 5000 → ∀ v, Calls Tryz.prog 10 #[.string s] v (RE N ok v)) ∧ (5000 < s.size → ok = false)

theorem both_word {s : ByteArray} {u : World} {v : Nat} (hsz : s.size ≤ 5000)
    (c1 : ∀ w, Calls Tryz.prog 7 #[.string s] w fun e w' => e = .returned (.tuple #[.float .f64 v, .bool true]) ∧ w = w')
    (c2 : ∀ w, Calls Tryz.prog 10 #[.string s] w fun e w' => e = .returned (.tuple #[.float .f64 v, .bool true]) ∧ w = w') : Both s u (nb v) true := by
  refine ⟨fun w _ => (c1 w).mono ?_, fun _ w => (c2 w).mono ?_, fun h => absurd h (by omega)⟩
  · rintro e w' ⟨rfl, rfl⟩
    exact ⟨⟨v, rfl, rfl⟩, Below.refl _ _⟩
  · rintro e w' ⟨rfl, rfl⟩
    exact ⟨⟨v, rfl, rfl⟩, Below.refl _ _⟩

theorem ba_mk (s : ByteArray) : (⟨s.data.toList.toArray⟩ : ByteArray) = s := ba_eq rfl

/-- A text in hex without a sign. -/
theorem both_x (s : ByteArray) (m : List UInt8) (hs : s.data.toList = 48 :: 120 :: m) (hm : (s.size : Int) ≤ 140737488355328) (u : World) (hA : Al u u) : ∃ N ok, Both s u N ok := by
  by_cases hex : ∃ x, x < 2 ^ 64 ∧ tx x = s
  · obtain ⟨x, hx, ht⟩ := hex
    obtain ⟨hn, _⟩ := tx_hn ht (by rw [hs]; intro e; cases e)
    obtain ⟨_, T, Xs, Z, hv, hl⟩ := tx_px hx hs ht
    have hz := sz_hx hl
    have hfr : frL T.length ≤ 14 := by have := hv.ht; unfold frL; split <;> omega
    have h1 := hv.h1
    have h4 := hv.h4
    obtain ⟨q, hq⟩ : ∃ q, s.data.toList = 48 :: 120 :: 49 :: q := ⟨_, hl⟩
    refine ⟨x, true, fun v hV => ?_, fun _ v => ?_, fun h => absurd h (by omega)⟩
    · have c := read_t x v hx hV.1 hV.2.1 hV.2.2.1
      rw [ht] at c
      refine c.mono ?_
      rintro e w' ⟨rfl, hb⟩
      exact ⟨⟨nb x, rfl, by rw [nb_nb, nb_num hn]⟩, hb⟩
    · refine (rread_px s q v hq (by omega) (by omega)).mono ?_
      rintro e w' ⟨⟨y, ok, rfl, ha⟩, hb⟩
      obtain ⟨rfl, rfl⟩ := ans_one u hx hn hA.1 hA.2.1 hA.2.2.1 ht ha
      exact ⟨⟨y, rfl, nb_num hn⟩, hb⟩
  · have hno : ∀ x, x < 2 ^ 64 → tx x ≠ s := fun x hx h => hex ⟨x, hx, h⟩
    refine ⟨0, false, fun v hV => ?_, fun h5 v => ?_, fun _ => rfl⟩
    · refine (read_x s m hs hm u v hV hno).mono ?_
      rintro e w' ⟨rfl, hb⟩
      exact ⟨⟨0, rfl, nb_zero⟩, hb⟩
    · by_cases h01 : (∃ q, s.data.toList = 48 :: 120 :: 49 :: q) ∧ 4 ≤ s.size ∧ s.size ≤ 39
      · obtain ⟨⟨q, hq⟩, h4, h39⟩ := h01
        refine (rread_px s q v hq (by omega) (by omega)).mono ?_
        rintro e w' ⟨⟨y, ok, rfl, ha⟩, hb⟩
        obtain ⟨rfl, rfl⟩ := ans_no hno ha
        exact ⟨⟨0, rfl, nb_zero⟩, hb⟩
      · have hsz := toL_len s
        rw [hs] at hsz
        simp only [List.length_cons] at hsz
        refine (rread_pos s s.data.toList v (ba_mk s).symm (by rw [toL_len]; omega) (by rw [ByteArray.toList_eq, hs]; rfl) (by rw [ByteArray.toList_eq, hs]; rfl) (by rw [ByteArray.toList_eq, hs]; rfl) (.inr ⟨by omega, fun e => ?_, 48, by decide, fun W => ?_⟩) (no01 s h01)).mono ?_
        · have : s.size = 0 := by rw [e]; rfl
          omega
        · have := idx_cb s 0 0 rfl (by omega) W
          unfold cb at this
          rw [hs] at this
          exact this
        · rintro e w' ⟨⟨r, rfl, _, h0⟩, hb⟩
          rw [hs, dOk_x] at h0 ⊢
          exact ⟨⟨r, rfl, by rw [h0 rfl]; exact nb_zero⟩, hb⟩

/-- A text in hex with a sign. -/
theorem both_mx (z : ByteArray) (m : List UInt8) (hz : z.data.toList = 45 :: 48 :: 120 :: m) (hm : (z.size : Int) ≤ 140737488355328) (u : World) (hA : Al u u) : ∃ N ok, Both z u N ok := by
  obtain ⟨s, hzs, hs⟩ : ∃ s : ByteArray, z.data.toList = 45 :: s.data.toList ∧ s.data.toList = 48 :: 120 :: m := ⟨⟨(48 :: 120 :: m).toArray⟩, hz, rfl⟩
  have hsz : z.size = s.size + 1 := by rw [← toL_len z, ← toL_len s, hzs, List.length_cons]
  by_cases hex : ∃ x, x < 2 ^ 64 ∧ tx x = z
  · obtain ⟨x, hx, ht⟩ := hex
    obtain ⟨hn, _⟩ := tx_hn ht (by rw [hz]; intro e; cases e)
    obtain ⟨a, _, _, T, Xs, Z, hv, hl⟩ := tx_mx hx hzs hs ht
    have hz' := sz_hx hl
    have hfr : frL T.length ≤ 14 := by have := hv.ht; unfold frL; split <;> omega
    have h1 := hv.h1
    have h4 := hv.h4
    obtain ⟨q, hq⟩ : ∃ q, s.data.toList = 48 :: 120 :: 49 :: q := ⟨_, hl⟩
    refine ⟨x, true, fun v hV => ?_, fun _ v => ?_, fun h => absurd h (by omega)⟩
    · have c := read_t x v hx hV.1 hV.2.1 hV.2.2.1
      rw [ht] at c
      refine c.mono ?_
      rintro e w' ⟨rfl, hb⟩
      exact ⟨⟨nb x, rfl, by rw [nb_nb, nb_num hn]⟩, hb⟩
    · refine (rread_nx z s q v hzs hq (by omega) (by omega)).mono ?_
      rintro e w' ⟨⟨y, ok, rfl, ha⟩, hb⟩
      obtain ⟨rfl, rfl⟩ := ans_one u hx hn hA.1 hA.2.1 hA.2.2.1 ht ha
      exact ⟨⟨y, rfl, nb_num hn⟩, hb⟩
  · have hno : ∀ x, x < 2 ^ 64 → tx x ≠ z := fun x hx h => hex ⟨x, hx, h⟩
    refine ⟨0, false, fun v hV => ?_, fun h5 v => ?_, fun _ => rfl⟩
    · refine (read_mx z m hz hm u v hV hno).mono ?_
      rintro e w' ⟨rfl, hb⟩
      exact ⟨⟨0, rfl, nb_zero⟩, hb⟩
    · by_cases h01 : (∃ q, s.data.toList = 48 :: 120 :: 49 :: q) ∧ 4 ≤ s.size ∧ s.size ≤ 39
      · obtain ⟨⟨q, hq⟩, h4, h39⟩ := h01
        refine (rread_nx z s q v hzs hq (by omega) (by omega)).mono ?_
        rintro e w' ⟨⟨y, ok, rfl, ha⟩, hb⟩
        obtain ⟨rfl, rfl⟩ := ans_no hno ha
        exact ⟨⟨0, rfl, nb_zero⟩, hb⟩
      · refine (rread_neg z s s.data.toList v (ba_mk s).symm (by rw [toL_len]; omega) (by rw [ByteArray.toList_eq, hz]; rfl) (by rw [ByteArray.toList_eq, hz]; rfl) (by rw [ByteArray.toList_eq, hz]; rfl) (by omega) (fun e => ?_) (fun W => ?_) (sl_one z s hzs hm) (no01 s h01)).mono ?_
        · have : z.size = 0 := by rw [e]; rfl
          omega
        · have := idx_cb z 0 0 rfl (by omega) W
          unfold cb at this
          rw [hz] at this
          exact this
        · rintro e w' ⟨⟨r, rfl, _, h0⟩, hb⟩
          rw [hs, dOk_x] at h0 ⊢
          exact ⟨⟨r, rfl, by rw [h0 rfl]; exact nb_zero⟩, hb⟩

/-- A decimal text with a sign. -/
theorem both_m (z : ByteArray) (m : List UInt8) (hz : z.data.toList = 45 :: m) (hm : (z.size : Int) ≤ 140737488355328) (hx : ∀ q, m ≠ 48 :: 120 :: q) (hi : m ≠ [105, 110, 102]) (u : World) : ∃ N ok, Both z u N ok := by
  obtain ⟨s, hzs, hs⟩ : ∃ s : ByteArray, z.data.toList = 45 :: s.data.toList ∧ s.data.toList = m := ⟨⟨m.toArray⟩, hz, rfl⟩
  have hsz : z.size = s.size + 1 := by rw [← toL_len z, ← toL_len s, hzs, List.length_cons]
  have hml : m.length = s.size := by rw [← hs, toL_len]
  have hze : z = ⟨(45 :: m).toArray⟩ := by rw [← hz]
  have hx' : tk [48, 120] m = false := by
    refine Bool.eq_false_iff.2 fun e => ?_
    unfold tk at e
    obtain ⟨q, hq⟩ := List.isPrefixOf_iff_prefix.1 e
    exact hx q hq.symm
  have done : ∀ (v : World) e w', RdEnd m true v e w' → RE (if dOk m then negD (dV m) else 0) (dOk m) v e w' := by
    rintro v e w' ⟨⟨r, rfl, h1, h2⟩, hb⟩
    cases hd : dOk m with
    | false => exact ⟨⟨r, rfl, by rw [h2 hd]; exact nb_zero⟩, hb⟩
    | true =>
      obtain ⟨y, _, hn, rfl⟩ := h1 hd
      exact ⟨⟨_, rfl, nb_neg hn (dV_lt m)⟩, hb⟩
  refine ⟨if dOk m then negD (dV m) else 0, dOk m, fun v _ => ?_, fun h5 v => ?_, fun h => dOk_long (by omega)⟩
  · rw [hze]
    exact (read_neg m v hi hx' (by omega)).mono (done v)
  · have h01 : ¬ ((∃ q, s.data.toList = 48 :: 120 :: 49 :: q) ∧ 4 ≤ s.size ∧ s.size ≤ 39) := by
      rintro ⟨⟨q, hq⟩, _⟩
      exact hx (49 :: q) (by rw [← hs, hq])
    refine (rread_neg z s m v (by rw [← hs]) (by omega) (by rw [ByteArray.toList_eq, hz]; rfl) (by rw [ByteArray.toList_eq, hz]; rfl) (by rw [ByteArray.toList_eq, hz]; simpa using hi) (by omega) (fun e => ?_) (fun W => ?_) (sl_one z s hzs hm) (no01 s h01)).mono (done v)
    · have : z.size = 0 := by rw [e]; rfl
      omega
    · have := idx_cb z 0 0 rfl (by omega) W
      unfold cb at this
      rw [hz] at this
      exact this

/-- A decimal text without a sign. -/
theorem both_p (s : ByteArray) (hm : (s.size : Int) ≤ 140737488355328) (hx : ∀ q, s.data.toList ≠ 48 :: 120 :: q) (h45 : ∀ q, s.data.toList ≠ 45 :: q) (h1 : s.data.toList ≠ [110, 97, 110]) (h2 : s.data.toList ≠ [105, 110, 102]) (u : World) : ∃ N ok, Both s u N ok := by
  obtain ⟨m, hs⟩ : ∃ m, s.data.toList = m := ⟨_, rfl⟩
  rw [hs] at hx h45 h1 h2
  have hml : m.length = s.size := by rw [← hs, toL_len]
  have hse : s = ⟨m.toArray⟩ := by rw [← hs]
  have hx' : tk [48, 120] m = false := by
    refine Bool.eq_false_iff.2 fun e => ?_
    unfold tk at e
    obtain ⟨q, hq⟩ := List.isPrefixOf_iff_prefix.1 e
    exact hx q hq.symm
  have h45' : tk [45] m = false := by
    refine Bool.eq_false_iff.2 fun e => ?_
    unfold tk at e
    obtain ⟨q, hq⟩ := List.isPrefixOf_iff_prefix.1 e
    exact h45 q hq.symm
  refine ⟨if dOk m then dV m else 0, dOk m, fun v _ => ?_, fun h5 v => ?_, fun h => dOk_long (by omega)⟩
  · rw [hse]
    refine (read_pos m v h1 h2 h45' hx' (by omega)).mono ?_
    rintro e w' ⟨⟨r, rfl, _, k1, k2⟩, hb⟩
    cases hd : dOk m with
    | false => exact ⟨⟨r, rfl, by rw [k2 hd]; exact nb_zero⟩, hb⟩
    | true => exact ⟨⟨r, rfl, k1 hd⟩, hb⟩
  · have h01 : ¬ ((∃ q, s.data.toList = 48 :: 120 :: 49 :: q) ∧ 4 ≤ s.size ∧ s.size ≤ 39) := by
      rintro ⟨⟨q, hq⟩, _⟩
      exact hx (49 :: q) (by rw [← hs, hq])
    refine (rread_pos s m v hse (by omega) (by rw [ByteArray.toList_eq, hs]; simpa using h1) (by rw [ByteArray.toList_eq, hs]; simpa using h2) (by rw [ByteArray.toList_eq, hs]; simpa using h45 _) ?_ (no01 s h01)).mono ?_
    · by_cases h0 : s.size = 0
      · exact .inl (by omega)
      · refine .inr ⟨by omega, fun e => h0 (by rw [e]; rfl), ((cb s 0).toNat : Int), ?_, fun W => idx_cb s 0 0 rfl (by omega) W⟩
        refine u8_eqb (k := 45) (by decide) fun e => ?_
        have hl := toL_len s
        match hm' : s.data.toList with
        | [] => rw [hm'] at hl; simp at hl; omega
        | c :: q =>
          unfold cb at e
          rw [hm'] at e
          have e' : c = 45 := e
          exact h45 q (by rw [← hs, hm', e'])
    · rintro e w' ⟨⟨r, rfl, k1, k2⟩, hb⟩
      cases hd : dOk m with
      | false => exact ⟨⟨r, rfl, by rw [k2 hd]; exact nb_zero⟩, hb⟩
      | true =>
        obtain ⟨y, _, hn, rfl⟩ := k1 hd
        exact ⟨⟨_, rfl, nb_mod hn (dV_lt m)⟩, hb⟩

/-- Any text. -/
theorem both_any (s : ByteArray) (hm : (s.size : Int) ≤ 140737488355328) (u : World) (hA : Al u u) : ∃ N ok, Both s u N ok := by
  by_cases h1 : s.data.toList = [110, 97, 110]
  · have e : s = ⟨#[110, 97, 110]⟩ := ba_eq h1
    subst e
    exact ⟨_, _, both_word (by decide) read_nan_word rread_nan_word⟩
  by_cases h2 : s.data.toList = [105, 110, 102]
  · have e : s = ⟨#[105, 110, 102]⟩ := ba_eq h2
    subst e
    exact ⟨_, _, both_word (by decide) read_inf_word rread_inf_word⟩
  by_cases h3 : s.data.toList = [45, 105, 110, 102]
  · have e : s = ⟨#[45, 105, 110, 102]⟩ := ba_eq h3
    subst e
    exact ⟨_, _, both_word (by decide) read_minf_word rread_minf_word⟩
  by_cases h4 : ∃ q, s.data.toList = 48 :: 120 :: q
  · obtain ⟨q, hq⟩ := h4
    exact both_x s q hq hm u hA
  by_cases h5 : ∃ q, s.data.toList = 45 :: q
  · obtain ⟨q, hq⟩ := h5
    by_cases h6 : ∃ p, q = 48 :: 120 :: p
    · obtain ⟨p, rfl⟩ := h6
      exact both_mx s p hq hm u hA
    · exact both_m s q hq hm (fun p hp => h6 ⟨p, hp⟩) (fun e => h3 (by rw [hq, e])) u
  · exact both_p s hm (fun q hq => h4 ⟨q, hq⟩) (fun q hq => h5 ⟨q, hq⟩) h1 h2 u
end Go.Proofs.YtieldmakbokekaaGreatDoor.Oct
