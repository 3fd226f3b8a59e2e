/-
  cell's lay: a leaf of pieces, an inner page of kids.
-/
import Derived.Test.YtaeooehilncokaaYj
namespace Go.Proofs.Ytaeooehilncokaa.Oct
open Go.RowKit

theorem layB_no {t : Bool} {lv : Int} {l : List C4} {k : Nat} (hk : k < l.length) (h : okC t (l.getD k c40) = false) : layB t lv l = false := by
  cases hB : layB t lv l
  · rfl
  · have := (layB_out hB).2.2 _ (getD_mem hk)
    rw [h] at this
    cases this
theorem layB_yes {t : Bool} {lv : Int} {l : List C4} (ht : takesB (shtT t) lv l.length = true) (h : ∀ k, k < l.length → okC t (l.getD k c40) = true) : layB t lv l = true := by
  unfold layB
  rw [ht, Bool.true_and, List.all_eq_true]
  intro q hq
  obtain ⟨i, hi, rfl⟩ := List.getElem_of_mem hq
  have := h i hi
  rwa [List.getD_eq_getElem?_getD, List.getElem?_eq_getElem hi] at this
theorem take_next (l : List C4) (k : Nat) (hk : k < l.length) : l.take (k + 1) = l.take k ++ [l.getD k c40] := by
  rw [List.take_add_one, List.getElem?_eq_getElem hk, List.getD_eq_getElem?_getD, List.getElem?_eq_getElem hk]; rfl
theorem layZ_yes {t : Bool} {lv : Int} {l : List C4} (h : layB t lv l = true) : layE t lv l = 0 ∧ layZ t lv l = sealL (pgC t lv l) ∧ slE (shtT t) lv l.length (celsC t l) = 0 ∧ slZ (shtT t) lv l.length (celsC t l) = sealL (pgC t lv l) := by
  have ht : takesB (shtT t) lv l.length = true := by
    unfold layB at h
    rw [Bool.and_eq_true] at h
    exact h.1
  have hs : sealE ⟨(shtT t).kind, lv, l.length, celsC t l⟩ = 0 := pgC_ok h
  refine ⟨by unfold layE; rw [if_pos h], by unfold layZ; rw [if_pos h], by unfold slE; rw [if_pos ht]; exact hs, ?_⟩
  unfold slZ sealZ
  rw [if_pos ht, if_pos hs]
  rfl
theorem lay_no {t : Bool} {lv : Int} {l : List C4} (h : layB t lv l = false) : layE t lv l = 1 ∧ layZ t lv l = [] := by
  constructor
  · unfold layE; rw [h]; rfl
  · unfold layZ; rw [h]; rfl

theorem cels_grown {t : Bool} {l : List C4} {q : C4} {k base : Nat} {w : World} {v : Value} (ht : l.take (k + 1) = l.take k ++ [q]) (hl : (l.take k).length = k) (h : Own base w v (celsC t (l.take k) ++ celC t q)) :
    ∃ a c, v = .slice a ((k + 1) * szC t) c ∧ Hid (Own base w (.slice a ((k + 1) * szC t) c) (celsC t (l.take (k + 1)))) := by
  rw [← cels_snoc, ← ht] at h
  obtain ⟨a, c, hv, _⟩ := h.row (cels_bys _ _)
  have e : (celsC t (l.take (k + 1))).length = (k + 1) * szC t := by rw [cels_len, ht, List.length_append, hl]; rfl
  rw [e] at hv
  subst hv
  exact ⟨a, c, rfl, h⟩

theorem pieceLay_box (w w1 : World) (hb : Below ((w.alloc (.cells #[.int .i64 3, .int .i64 0, .int .i64 0, .int .i64 20] 53)).alloc (.cells #[.int .i64 12, .func (Fn.func 45) #[] #[], .func (Fn.func 46) #[] #[]] 58)).heap.size ((w.alloc (.cells #[.int .i64 3, .int .i64 0, .int .i64 0, .int .i64 20] 53)).alloc (.cells #[.int .i64 12, .func (Fn.func 45) #[] #[], .func (Fn.func 46) #[] #[]] 58)) w1) :
    Hid (Below w.heap.size w w1) ∧ (w1.cell? ⟨w.heap.size, 0, none⟩ = some (.int .i64 3) ∧ w1.cell? ⟨w.heap.size, 1, none⟩ = some (.int .i64 0) ∧ w1.cell? ⟨w.heap.size, 2, none⟩ = some (.int .i64 0) ∧ w1.cell? ⟨w.heap.size, 3, none⟩ = some (.int .i64 20)) ∧
      (w1.cell? ⟨w.heap.size + 1, 0, none⟩ = some (.int .i64 12) ∧ w1.cell? ⟨w.heap.size + 1, 1, none⟩ = some (.func (Fn.func 45) #[] #[]) ∧ w1.cell? ⟨w.heap.size + 1, 2, none⟩ = some (.func (Fn.func 46) #[] #[])) := by
  have e : ∀ (i j : Nat), i ≤ w.heap.size + 1 → w1.cell? ⟨i, j, none⟩ = ((w.alloc (.cells #[.int .i64 3, .int .i64 0, .int .i64 0, .int .i64 20] 53)).alloc (.cells #[.int .i64 12, .func (Fn.func 45) #[] #[], .func (Fn.func 46) #[] #[]] 58)).cell? ⟨i, j, none⟩ := fun i j hi => hb.cell (p := ⟨i, j, none⟩) (by show i < _; rw [heap_alloc_size, heap_alloc_size]; omega)
  refine ⟨(((Below.refl _ w).alloc (Nat.le_refl _) _).alloc (by simp) _).trans (hb.mono (by simp; omega)), ⟨?_, ?_, ?_, ?_⟩, ?_, ?_, ?_⟩
  all_goals rw [e _ _ (by omega)]; simp

set_option maxHeartbeats 4000000 in
set_option maxRecDepth 20000 in
theorem piecePg_v (lv : Int) (l : List C4) (a : Option Addr) (cap n : Nat) (w : World) (hr : RowC w a cap l) (hn : l.length = n) (hlv : lv ≤ 9223372036854775807) (E : Int) (hE : layE false lv l = E) (Z : List Int) (hZ : layZ false lv l = Z) (m : Nat) (hm : Z.length = m) :
    Calls Try.prog 24 #[.agg #[.int .i64 3, .int .i64 0, .int .i64 0, .int .i64 20], .agg #[.int .i64 12, .func (Fn.func 45) #[] #[], .func (Fn.func 46) #[] #[]], .int .i64 lv, .slice a n cap] w fun e w' => ∃ g c, e = .returned (.tuple #[.slice g m c, .int .i64 E]) ∧ Own w.heap.size w' (.slice g m c) Z ∧ Below w.heap.size w w' := by
  have hmx : n ≤ 9223372036854775807 := by have := Nat.le_trans hr.2.1 hr.2.2.1; unfold maxLen at this; omega
  have HNO : Hid (layB false lv l = false → E = 1 ∧ Z = [] ∧ m = 0) := fun h => by
    obtain ⟨e1, e2⟩ := lay_no h
    refine ⟨by rw [← hE, e1], by rw [← hZ, e2], by rw [← hm, ← hZ, e2]; rfl⟩
  cases ht : takesB leafS lv n
  · obtain ⟨e1, e2, e3⟩ := HNO.out (by unfold layB; rw [hn, show shtT false = leafS from rfl, ht]; rfl)
    have HC : Hid (∀ w1, Calls Try.prog 43 #[.agg #[.int .i64 3, .int .i64 0, .int .i64 0, .int .i64 20], .int .i64 lv, .int .i64 n] w1 fun e w' => e = .returned (.bool false) ∧ Below w1.heap.size w1 w') := fun w1 => takes_v leafS lv n w1 _ ht
    clear hE hZ hm ht HNO hr hn
    subst e1
    subst e2
    subst e3
    go_enter Try.func24, Try.ntmps24
    go_wp2_with fail
    refine (HC.out _).mono ?_
    rintro e w1 ⟨rfl, hb⟩
    have HB : Hid (Below w.heap.size w w1) := (pieceLay_box w w1 hb).1
    clear hb
    go_wp2
    go_ret2
    exact ⟨_, _, rfl, World.ownsRow_nil _ _ _ _, HB.out⟩
  · have hct : (1 ≤ n ∧ n ≤ 20) := by
      have := (takes_iff.1 ht).2
      have h2 : (n : Int) ≤ 20 := this.2
      omega
    have HC : Hid (∀ w1, Calls Try.prog 43 #[.agg #[.int .i64 3, .int .i64 0, .int .i64 0, .int .i64 20], .int .i64 lv, .int .i64 n] w1 fun e w' => e = .returned (.bool true) ∧ Below w1.heap.size w1 w') := fun w1 => takes_v leafS lv n w1 _ ht
    have HYES : Hid ((∀ k, k < n → okC false (l.getD k c40) = true) → ∀ g c w1, Row w1 g c (celsC false l) → Calls Try.prog 28 #[.agg #[.int .i64 3, .int .i64 0, .int .i64 0, .int .i64 20], .int .i64 lv, .int .i64 n, .slice g (n * 12) c] w1 fun e w' => ∃ g' c', e = .returned (.tuple #[.slice g' m c', .int .i64 E]) ∧ Own w1.heap.size w' (.slice g' m c') Z ∧ Below w1.heap.size w1 w') := fun hk g c w1 hrow => by
      have hB : layB false lv l = true := layB_yes (by rw [hn]; exact ht) (by rw [hn]; exact hk)
      obtain ⟨y1, y2, y3, y4⟩ := layZ_yes hB
      exact sheetSeal_v leafS lv n g c (n * 12) (celsC false l) w1 hrow (by rw [cels_len, hn]; rfl) (by decide) hlv (by omega) E (by rw [← hE, y1, ← hn]; exact y3) Z (by rw [← hZ, y2, ← hn]; exact y4) m hm
    have HN1 : Hid (∀ k, k < n → okC false (l.getD k c40) = false → E = 1 ∧ Z = [] ∧ m = 0) := fun k hk h => HNO.out (layB_no (by rw [hn]; exact hk) h)
    obtain ⟨b, off, rfl⟩ := hr.some' (by omega)
    have hcap := hr.2.1
    have hmx2 := hr.2.2.1
    unfold maxLen at hmx2
    rw [hn] at hcap
    have HR : Hid (RowC w (some ⟨b, off, none⟩) cap l) := hr
    have HL : Hid (l.length = n) := hn
    clear hE hZ hm ht HNO hr hn
    obtain ⟨i0, hi0, hz0, hz1, hz2⟩ := info_parts info5
    go_enter Try.func24, Try.ntmps24
    go_wp2_with fail
    refine (HC.out _).mono ?_
    rintro e w1 ⟨rfl, hb⟩
    obtain ⟨HB, ⟨k0, k1, k2, k3⟩, p0, p1, p2⟩ := pieceLay_box w w1 hb
    have HK : Hid _ := (And.intro (And.intro k0 (And.intro k1 (And.intro k2 k3))) (And.intro p0 (And.intro p1 p2)))
    have HZ : Hid (w.heap.size + 1 < w1.heap.size) := by have := hb.size; rw [heap_alloc_size, heap_alloc_size] at this; show _ < _; omega
    clear hb HC
    go_wp2_with (at_make; refine wpList_make_own _ rfl _ _ 23 rfl w1.heap.size 5 i0 (.int .u8 0) 1 Try.underlying23 hi0 hz0 hz1 .i64 .i64 _ (n * 12) rfl rfl (by omega) (by rw [hz2]; omega) (by unfold maxLen; omega) (Nat.le_refl _) ?_; intro w2 hown2 hgrow2; have HB2 : Hid (Below w1.heap.size w1 w2) := (Below.refl _ _).grown hgrow2 (Nat.le_refl _) (by simp); have HO2 : Hid (Own w1.heap.size w2 (.slice (some ⟨w1.heap.size, 0, none⟩) 0 (n * 12)) []) := hown2; clear hown2 hgrow2)
    clear k0 k1 k2 k3 p0 p1 p2 hi0 hz0 hz1 hz2
    go_loopw [10, 27] (fun o i wr => ∃ (k : Nat) (g : Option Addr) (c : Nat), k ≤ n ∧ o = .slice g (k * 12) c ∧ i = .int .i64 k ∧ Hid (∀ j, j < k → okC false (l.getD j c40) = true) ∧ Hid (Own w1.heap.size wr (.slice g (k * 12) c) (celsC false (l.take k))) ∧ Hid (Below w1.heap.size w1 wr)) (fun _ i _ => n - (intOf i).toNat)
    case atStart => exact ⟨0, _, _, Nat.zero_le _, rfl, rfl, fun j hj => by omega, by rw [List.take_zero]; exact HO2.out, HB2.out⟩
    case round =>
      obtain ⟨k, g, c, hk, rfl, rfl, HJ, HO, HBR⟩ := hrel
      clear HB2 HO2
      have HKr : Hid _ := HK.out
      have e : ∀ (i j : Nat), i ≤ w.heap.size + 1 → wr.cell? ⟨i, j, none⟩ = w1.cell? ⟨i, j, none⟩ := fun i j hi => HBR.out.cell (p := ⟨i, j, none⟩) (by have := HZ.out; show i < _; omega)
      have k0 := (e w.heap.size 0 (by omega)).trans HK.out.1.1
      have k1 := (e w.heap.size 1 (by omega)).trans HK.out.1.2.1
      have k2 := (e w.heap.size 2 (by omega)).trans HK.out.1.2.2.1
      have k3 := (e w.heap.size 3 (by omega)).trans HK.out.1.2.2.2
      have p0 := (e (w.heap.size + 1) 0 (by omega)).trans HK.out.2.1
      have p1 := (e (w.heap.size + 1) 1 (by omega)).trans HK.out.2.2.1
      have p2 := (e (w.heap.size + 1) 2 (by omega)).trans HK.out.2.2.2
      clear e HKr
      by_cases hlt : k < n
      · have hat := ((HR.out.cells k (by rw [HL.out]; exact hlt)).below HB.out).below HBR.out
        have hwf := HR.out.1 _ (getD_mem (l := l) (i := k) (by rw [HL.out]; exact hlt))
        have HT : Hid (l.take (k + 1) = l.take k ++ [l.getD k c40]) := take_next l k (by rw [HL.out]; exact hlt)
        have HLT : Hid ((l.take k).length = k) := by show _ = _; rw [List.length_take, HL.out]; omega
        have HJ' : Hid (okC false (l.getD k c40) = true → ∀ j, j < k + 1 → okC false (l.getD j c40) = true) := fun hh j hj => by
          by_cases ej : j = k
          · rw [ej]; exact hh
          · exact HJ.out j (by omega)
        have HN2 : Hid (okC false (l.getD k c40) = false → E = 1 ∧ Z = [] ∧ m = 0) := fun hh => HN1.out k hlt hh
        obtain ⟨q, hq⟩ : ∃ q, l.getD k c40 = q := ⟨_, rfl⟩
        rw [hq] at hat hwf HT HJ' HN2
        obtain ⟨x0, x1, x2, x3⟩ := hat
        have HF : Hid (∀ w5 V, okC false q = V → Calls Try.prog 46 #[.agg #[.int .i64 q.a, .int .i64 q.b, .int .i64 q.c, .int .i64 q.d]] w5 fun e w' => e = .returned (.bool V) ∧ Below w5.heap.size w5 w') := fun w5 V hV => pieceFits_v q hwf w5 V hV
        have hlw : w.heap.size + 1 < wr.heap.size := Nat.lt_of_lt_of_le HZ.out HBR.out.size
        have r2 : (wr.alloc (.cells #[.int .i64 q.a, .int .i64 q.b, .int .i64 q.c, .int .i64 q.d] 30)).cell? ⟨w.heap.size + 1, 2, none⟩ = some (.func (Fn.func 46) #[] #[]) := by rw [World.cell?_alloc_lt _ _ _ hlw]; exact p2
        clear hq hwf HJ HN1 HYES hlw
        cases hv : okC false q
        · obtain ⟨e1, e2, e3⟩ := HN2.out hv
          have HF' : Hid (∀ w5, Calls Try.prog 46 #[.agg #[.int .i64 q.a, .int .i64 q.b, .int .i64 q.c, .int .i64 q.d]] w5 fun e w' => e = .returned (.bool false) ∧ Below w5.heap.size w5 w') := fun w5 => HF.out w5 _ hv
          clear hv HF HN2 HJ'
          subst e1
          subst e2
          subst e3
          go_wp2_with fail
          refine (HF'.out _).mono ?_
          rintro e w5 ⟨rfl, hb5⟩
          have HB5 : Hid (Below w.heap.size w w5) := (HB.out.trans (HBR.out.mono HB.out.size)).trans ((((Below.refl _ wr).alloc (Nat.le_refl _) _).trans (hb5.mono (by simp))).mono (Nat.le_trans HB.out.size HBR.out.size))
          clear hb5
          go_wp2
          go_ret2
          exact ⟨_, _, rfl, World.ownsRow_nil _ _ _ _, HB5.out⟩
        · have HF' : Hid (∀ w5, Calls Try.prog 46 #[.agg #[.int .i64 q.a, .int .i64 q.b, .int .i64 q.c, .int .i64 q.d]] w5 fun e w' => e = .returned (.bool true) ∧ Below w5.heap.size w5 w') := fun w5 => HF.out w5 _ hv
          have HV : Hid (okC false q = true) := hv
          have HJ2 := HJ'.out hv
          have HJ3 : Hid (∀ j, j < k + 1 → okC false (l.getD j c40) = true) := HJ2
          clear hv HF HN2 HJ' HJ2
          go_wp2_with fail
          refine (HF'.out _).mono ?_
          rintro e w5 ⟨rfl, hb5⟩
          have hb5' : Below wr.heap.size wr w5 := ((Below.refl _ wr).alloc (Nat.le_refl _) _).trans (hb5.mono (by simp))
          have hz1 := HZ.out
          have hz2 := HBR.out.size
          have y0 := (hb5'.cell (p := ⟨w.heap.size + 1, 0, none⟩) (by show w.heap.size + 1 < _; omega)).trans p0
          have y1 := (hb5'.cell (p := ⟨w.heap.size + 1, 1, none⟩) (by show w.heap.size + 1 < _; omega)).trans p1
          have y2 := (hb5'.cell (p := ⟨w.heap.size + 1, 2, none⟩) (by show w.heap.size + 1 < _; omega)).trans p2
          obtain ⟨z0, z1, z2, z3⟩ := (at4_new wr q 30).below hb5
          have HP5 : Hid (Own w1.heap.size w5 (.slice g (k * 12) c) (celsC false (l.take k))) := HO.out.below' hb5'
          have HB5 : Hid (Below w1.heap.size w1 w5) := HBR.out.trans (hb5'.mono HBR.out.size)
          clear hb5 hb5' hz1 hz2 k0 k1 k2 k3 p0 p1 p2 x0 x1 x2 x3 r2
          go_wp2_with fail
          refine (pieceLay_v q w5 HV.out).mono ?_
          rintro e w6 ⟨g6, c6, rfl, ho6, hb6⟩
          have HO6 : Hid (Row w6 g6 c6 (celC false q)) := (ho6.row' (celC_bys _ _)).2
          have HP6 : Hid (Own w1.heap.size w6 (.slice g (k * 12) c) (celsC false (l.take k))) := HP5.out.below' hb6
          have HB6 : Hid (Below w1.heap.size w1 w6) := HB5.out.trans (hb6.mono HB5.out.size)
          obtain ⟨b6, off6, rfl⟩ := HO6.out.some' (by rw [celC_len]; decide)
          clear ho6 hb6 HP5 HB5 y0 y1 y2 z0 z1 z2 z3
          go_wp2_with (at_builtin; have _t := HP6; refine append_row rfl _ _ rfl w1.heap.size _ (celsC false (l.take k)) rfl HP6.out (some ⟨b6, off6, none⟩) (celC false q) c6 (by rw [celC_len]; rfl) HO6.out (by intro e; cases e) (by rw [cels_len, celC_len, HLT.out]; show k * 12 + 12 ≤ _; omega) HB6.out.size ?_; intro v w7 ho7 hb7; obtain ⟨a7, c7, hv7, HO7⟩ := cels_grown HT.out HLT.out ho7; subst hv7; have HB7 : Hid (Below w1.heap.size w1 w7) := HB6.out.trans hb7; clear _t ho7 hb7 HP6 HO6 HB6)
          go_roundw
          case rel => exact ⟨k + 1, a7, c7, by omega, rfl, by go_num, HJ3.out, HO7.out, HB7.out⟩
          case measure => simp [intOf]; omega
      · have hkn : k = n := by omega
        subst hkn
        have HRW : Hid (Row wr g c (celsC false l)) := by
          have := (HO.out.row' (cels_bys _ _)).2
          rw [List.take_of_length_le (by rw [HL.out]; exact Nat.le_refl _)] at this
          exact this
        have HS : Hid _ := HYES.out HJ.out g c wr HRW.out
        clear HYES HO HJ HRW
        go_wp2_with fail
        refine (Calls.mono HS.out) ?_
        rintro e w3 ⟨g', c', rfl, ho, hb3⟩
        have HB3 : Hid (Below w.heap.size w w3) := (HB.out.trans (HBR.out.mono HB.out.size)).trans (hb3.mono (Nat.le_trans HB.out.size HBR.out.size))
        have HO3 : Hid (Own w.heap.size w3 (.slice g' m c') Z) := ho.weaken (Nat.le_trans HB.out.size HBR.out.size)
        clear hb3 ho k0 k1 k2 k3 p0 p1 p2
        go_wp2
        go_ret2
        exact ⟨_, _, rfl, HO3.out, HB3.out⟩

theorem kidLay_box (w w1 : World) (hb : Below ((w.alloc (.cells #[.int .i64 2, .int .i64 1, .int .i64 32, .int .i64 12] 53)).alloc (.cells #[.int .i64 20, .func (Fn.func 53) #[] #[], .func (Fn.func 54) #[] #[]] 75)).heap.size ((w.alloc (.cells #[.int .i64 2, .int .i64 1, .int .i64 32, .int .i64 12] 53)).alloc (.cells #[.int .i64 20, .func (Fn.func 53) #[] #[], .func (Fn.func 54) #[] #[]] 75)) w1) :
    Hid (Below w.heap.size w w1) ∧ (w1.cell? ⟨w.heap.size, 0, none⟩ = some (.int .i64 2) ∧ w1.cell? ⟨w.heap.size, 1, none⟩ = some (.int .i64 1) ∧ w1.cell? ⟨w.heap.size, 2, none⟩ = some (.int .i64 32) ∧ w1.cell? ⟨w.heap.size, 3, none⟩ = some (.int .i64 12)) ∧
      (w1.cell? ⟨w.heap.size + 1, 0, none⟩ = some (.int .i64 20) ∧ w1.cell? ⟨w.heap.size + 1, 1, none⟩ = some (.func (Fn.func 53) #[] #[]) ∧ w1.cell? ⟨w.heap.size + 1, 2, none⟩ = some (.func (Fn.func 54) #[] #[])) := by
  have e : ∀ (i j : Nat), i ≤ w.heap.size + 1 → w1.cell? ⟨i, j, none⟩ = ((w.alloc (.cells #[.int .i64 2, .int .i64 1, .int .i64 32, .int .i64 12] 53)).alloc (.cells #[.int .i64 20, .func (Fn.func 53) #[] #[], .func (Fn.func 54) #[] #[]] 75)).cell? ⟨i, j, none⟩ := fun i j hi => hb.cell (p := ⟨i, j, none⟩) (by show i < _; rw [heap_alloc_size, heap_alloc_size]; omega)
  refine ⟨(((Below.refl _ w).alloc (Nat.le_refl _) _).alloc (by simp) _).trans (hb.mono (by simp; omega)), ⟨?_, ?_, ?_, ?_⟩, ?_, ?_, ?_⟩
  all_goals rw [e _ _ (by omega)]; simp

set_option maxHeartbeats 4000000 in
set_option maxRecDepth 20000 in
theorem kidPg_v (lv : Int) (l : List C4) (a : Option Addr) (cap n : Nat) (w : World) (hr : RowC w a cap l) (hn : l.length = n) (hlv : lv ≤ 9223372036854775807) (E : Int) (hE : layE true lv l = E) (Z : List Int) (hZ : layZ true lv l = Z) (m : Nat) (hm : Z.length = m) :
    Calls Try.prog 35 #[.agg #[.int .i64 2, .int .i64 1, .int .i64 32, .int .i64 12], .agg #[.int .i64 20, .func (Fn.func 53) #[] #[], .func (Fn.func 54) #[] #[]], .int .i64 lv, .slice a n cap] w fun e w' => ∃ g c, e = .returned (.tuple #[.slice g m c, .int .i64 E]) ∧ Own w.heap.size w' (.slice g m c) Z ∧ Below w.heap.size w w' := by
  have hmx : n ≤ 9223372036854775807 := by have := Nat.le_trans hr.2.1 hr.2.2.1; unfold maxLen at this; omega
  have HNO : Hid (layB true lv l = false → E = 1 ∧ Z = [] ∧ m = 0) := fun h => by
    obtain ⟨e1, e2⟩ := lay_no h
    refine ⟨by rw [← hE, e1], by rw [← hZ, e2], by rw [← hm, ← hZ, e2]; rfl⟩
  cases ht : takesB innerS lv n
  · obtain ⟨e1, e2, e3⟩ := HNO.out (by unfold layB; rw [hn, show shtT true = innerS from rfl, ht]; rfl)
    have HC : Hid (∀ w1, Calls Try.prog 43 #[.agg #[.int .i64 2, .int .i64 1, .int .i64 32, .int .i64 12], .int .i64 lv, .int .i64 n] w1 fun e w' => e = .returned (.bool false) ∧ Below w1.heap.size w1 w') := fun w1 => takes_v innerS lv n w1 _ ht
    clear hE hZ hm ht HNO hr hn
    subst e1
    subst e2
    subst e3
    go_enter Try.func35, Try.ntmps35
    go_wp2_with fail
    refine (HC.out _).mono ?_
    rintro e w1 ⟨rfl, hb⟩
    have HB : Hid (Below w.heap.size w w1) := (kidLay_box w w1 hb).1
    clear hb
    go_wp2
    go_ret2
    exact ⟨_, _, rfl, World.ownsRow_nil _ _ _ _, HB.out⟩
  · have hct : (1 ≤ n ∧ n ≤ 12) := by
      have := (takes_iff.1 ht).2
      have h2 : (n : Int) ≤ 12 := this.2
      omega
    have HC : Hid (∀ w1, Calls Try.prog 43 #[.agg #[.int .i64 2, .int .i64 1, .int .i64 32, .int .i64 12], .int .i64 lv, .int .i64 n] w1 fun e w' => e = .returned (.bool true) ∧ Below w1.heap.size w1 w') := fun w1 => takes_v innerS lv n w1 _ ht
    have HYES : Hid ((∀ k, k < n → okC true (l.getD k c40) = true) → ∀ g c w1, Row w1 g c (celsC true l) → Calls Try.prog 28 #[.agg #[.int .i64 2, .int .i64 1, .int .i64 32, .int .i64 12], .int .i64 lv, .int .i64 n, .slice g (n * 20) c] w1 fun e w' => ∃ g' c', e = .returned (.tuple #[.slice g' m c', .int .i64 E]) ∧ Own w1.heap.size w' (.slice g' m c') Z ∧ Below w1.heap.size w1 w') := fun hk g c w1 hrow => by
      have hB : layB true lv l = true := layB_yes (by rw [hn]; exact ht) (by rw [hn]; exact hk)
      obtain ⟨y1, y2, y3, y4⟩ := layZ_yes hB
      exact sheetSeal_v innerS lv n g c (n * 20) (celsC true l) w1 hrow (by rw [cels_len, hn]; rfl) (by decide) hlv (by omega) E (by rw [← hE, y1, ← hn]; exact y3) Z (by rw [← hZ, y2, ← hn]; exact y4) m hm
    have HN1 : Hid (∀ k, k < n → okC true (l.getD k c40) = false → E = 1 ∧ Z = [] ∧ m = 0) := fun k hk h => HNO.out (layB_no (by rw [hn]; exact hk) h)
    obtain ⟨b, off, rfl⟩ := hr.some' (by omega)
    have hcap := hr.2.1
    have hmx2 := hr.2.2.1
    unfold maxLen at hmx2
    rw [hn] at hcap
    have HR : Hid (RowC w (some ⟨b, off, none⟩) cap l) := hr
    have HL : Hid (l.length = n) := hn
    clear hE hZ hm ht HNO hr hn
    obtain ⟨i0, hi0, hz0, hz1, hz2⟩ := info_parts info5
    go_enter Try.func35, Try.ntmps35
    go_wp2_with fail
    refine (HC.out _).mono ?_
    rintro e w1 ⟨rfl, hb⟩
    obtain ⟨HB, ⟨k0, k1, k2, k3⟩, p0, p1, p2⟩ := kidLay_box w w1 hb
    have HK : Hid _ := (And.intro (And.intro k0 (And.intro k1 (And.intro k2 k3))) (And.intro p0 (And.intro p1 p2)))
    have HZ : Hid (w.heap.size + 1 < w1.heap.size) := by have := hb.size; rw [heap_alloc_size, heap_alloc_size] at this; show _ < _; omega
    clear hb HC
    go_wp2_with (at_make; refine wpList_make_own _ rfl _ _ 23 rfl w1.heap.size 5 i0 (.int .u8 0) 1 Try.underlying23 hi0 hz0 hz1 .i64 .i64 _ (n * 20) rfl rfl (by omega) (by rw [hz2]; omega) (by unfold maxLen; omega) (Nat.le_refl _) ?_; intro w2 hown2 hgrow2; have HB2 : Hid (Below w1.heap.size w1 w2) := (Below.refl _ _).grown hgrow2 (Nat.le_refl _) (by simp); have HO2 : Hid (Own w1.heap.size w2 (.slice (some ⟨w1.heap.size, 0, none⟩) 0 (n * 20)) []) := hown2; clear hown2 hgrow2)
    clear k0 k1 k2 k3 p0 p1 p2 hi0 hz0 hz1 hz2
    go_loopw [10, 27] (fun o i wr => ∃ (k : Nat) (g : Option Addr) (c : Nat), k ≤ n ∧ o = .slice g (k * 20) c ∧ i = .int .i64 k ∧ Hid (∀ j, j < k → okC true (l.getD j c40) = true) ∧ Hid (Own w1.heap.size wr (.slice g (k * 20) c) (celsC true (l.take k))) ∧ Hid (Below w1.heap.size w1 wr)) (fun _ i _ => n - (intOf i).toNat)
    case atStart => exact ⟨0, _, _, Nat.zero_le _, rfl, rfl, fun j hj => by omega, by rw [List.take_zero]; exact HO2.out, HB2.out⟩
    case round =>
      obtain ⟨k, g, c, hk, rfl, rfl, HJ, HO, HBR⟩ := hrel
      clear HB2 HO2
      have HKr : Hid _ := HK.out
      have e : ∀ (i j : Nat), i ≤ w.heap.size + 1 → wr.cell? ⟨i, j, none⟩ = w1.cell? ⟨i, j, none⟩ := fun i j hi => HBR.out.cell (p := ⟨i, j, none⟩) (by have := HZ.out; show i < _; omega)
      have k0 := (e w.heap.size 0 (by omega)).trans HK.out.1.1
      have k1 := (e w.heap.size 1 (by omega)).trans HK.out.1.2.1
      have k2 := (e w.heap.size 2 (by omega)).trans HK.out.1.2.2.1
      have k3 := (e w.heap.size 3 (by omega)).trans HK.out.1.2.2.2
      have p0 := (e (w.heap.size + 1) 0 (by omega)).trans HK.out.2.1
      have p1 := (e (w.heap.size + 1) 1 (by omega)).trans HK.out.2.2.1
      have p2 := (e (w.heap.size + 1) 2 (by omega)).trans HK.out.2.2.2
      clear e HKr
      by_cases hlt : k < n
      · have hat := ((HR.out.cells k (by rw [HL.out]; exact hlt)).below HB.out).below HBR.out
        have hwf := HR.out.1 _ (getD_mem (l := l) (i := k) (by rw [HL.out]; exact hlt))
        have HT : Hid (l.take (k + 1) = l.take k ++ [l.getD k c40]) := take_next l k (by rw [HL.out]; exact hlt)
        have HLT : Hid ((l.take k).length = k) := by show _ = _; rw [List.length_take, HL.out]; omega
        have HJ' : Hid (okC true (l.getD k c40) = true → ∀ j, j < k + 1 → okC true (l.getD j c40) = true) := fun hh j hj => by
          by_cases ej : j = k
          · rw [ej]; exact hh
          · exact HJ.out j (by omega)
        have HN2 : Hid (okC true (l.getD k c40) = false → E = 1 ∧ Z = [] ∧ m = 0) := fun hh => HN1.out k hlt hh
        obtain ⟨q, hq⟩ : ∃ q, l.getD k c40 = q := ⟨_, rfl⟩
        rw [hq] at hat hwf HT HJ' HN2
        obtain ⟨x0, x1, x2, x3⟩ := hat
        have HF : Hid (∀ w5 V, okC true q = V → Calls Try.prog 54 #[.agg #[.int .i64 q.a, .int .i64 q.b, .int .i64 q.c, .int .i64 q.d]] w5 fun e w' => e = .returned (.bool V) ∧ Below w5.heap.size w5 w') := fun w5 V hV => kidFits_v q hwf w5 V hV
        have hlw : w.heap.size + 1 < wr.heap.size := Nat.lt_of_lt_of_le HZ.out HBR.out.size
        have r2 : (wr.alloc (.cells #[.int .i64 q.a, .int .i64 q.b, .int .i64 q.c, .int .i64 q.d] 71)).cell? ⟨w.heap.size + 1, 2, none⟩ = some (.func (Fn.func 54) #[] #[]) := by rw [World.cell?_alloc_lt _ _ _ hlw]; exact p2
        clear hq hwf HJ HN1 HYES hlw
        cases hv : okC true q
        · obtain ⟨e1, e2, e3⟩ := HN2.out hv
          have HF' : Hid (∀ w5, Calls Try.prog 54 #[.agg #[.int .i64 q.a, .int .i64 q.b, .int .i64 q.c, .int .i64 q.d]] w5 fun e w' => e = .returned (.bool false) ∧ Below w5.heap.size w5 w') := fun w5 => HF.out w5 _ hv
          clear hv HF HN2 HJ'
          subst e1
          subst e2
          subst e3
          go_wp2_with fail
          refine (HF'.out _).mono ?_
          rintro e w5 ⟨rfl, hb5⟩
          have HB5 : Hid (Below w.heap.size w w5) := (HB.out.trans (HBR.out.mono HB.out.size)).trans ((((Below.refl _ wr).alloc (Nat.le_refl _) _).trans (hb5.mono (by simp))).mono (Nat.le_trans HB.out.size HBR.out.size))
          clear hb5
          go_wp2
          go_ret2
          exact ⟨_, _, rfl, World.ownsRow_nil _ _ _ _, HB5.out⟩
        · have HF' : Hid (∀ w5, Calls Try.prog 54 #[.agg #[.int .i64 q.a, .int .i64 q.b, .int .i64 q.c, .int .i64 q.d]] w5 fun e w' => e = .returned (.bool true) ∧ Below w5.heap.size w5 w') := fun w5 => HF.out w5 _ hv
          have HV : Hid (okC true q = true) := hv
          have HJ2 := HJ'.out hv
          have HJ3 : Hid (∀ j, j < k + 1 → okC true (l.getD j c40) = true) := HJ2
          clear hv HF HN2 HJ' HJ2
          go_wp2_with fail
          refine (HF'.out _).mono ?_
          rintro e w5 ⟨rfl, hb5⟩
          have hb5' : Below wr.heap.size wr w5 := ((Below.refl _ wr).alloc (Nat.le_refl _) _).trans (hb5.mono (by simp))
          have hz1 := HZ.out
          have hz2 := HBR.out.size
          have y0 := (hb5'.cell (p := ⟨w.heap.size + 1, 0, none⟩) (by show w.heap.size + 1 < _; omega)).trans p0
          have y1 := (hb5'.cell (p := ⟨w.heap.size + 1, 1, none⟩) (by show w.heap.size + 1 < _; omega)).trans p1
          have y2 := (hb5'.cell (p := ⟨w.heap.size + 1, 2, none⟩) (by show w.heap.size + 1 < _; omega)).trans p2
          obtain ⟨z0, z1, z2, z3⟩ := (at4_new wr q 71).below hb5
          have HP5 : Hid (Own w1.heap.size w5 (.slice g (k * 20) c) (celsC true (l.take k))) := HO.out.below' hb5'
          have HB5 : Hid (Below w1.heap.size w1 w5) := HBR.out.trans (hb5'.mono HBR.out.size)
          clear hb5 hb5' hz1 hz2 k0 k1 k2 k3 p0 p1 p2 x0 x1 x2 x3 r2
          go_wp2_with fail
          refine (kidLay_v q w5 HV.out).mono ?_
          rintro e w6 ⟨g6, c6, rfl, ho6, hb6⟩
          have HO6 : Hid (Row w6 g6 c6 (celC true q)) := (ho6.row' (celC_bys _ _)).2
          have HP6 : Hid (Own w1.heap.size w6 (.slice g (k * 20) c) (celsC true (l.take k))) := HP5.out.below' hb6
          have HB6 : Hid (Below w1.heap.size w1 w6) := HB5.out.trans (hb6.mono HB5.out.size)
          obtain ⟨b6, off6, rfl⟩ := HO6.out.some' (by rw [celC_len]; decide)
          clear ho6 hb6 HP5 HB5 y0 y1 y2 z0 z1 z2 z3
          go_wp2_with (at_builtin; have _t := HP6; refine append_row rfl _ _ rfl w1.heap.size _ (celsC true (l.take k)) rfl HP6.out (some ⟨b6, off6, none⟩) (celC true q) c6 (by rw [celC_len]; rfl) HO6.out (by intro e; cases e) (by rw [cels_len, celC_len, HLT.out]; show k * 20 + 20 ≤ _; omega) HB6.out.size ?_; intro v w7 ho7 hb7; obtain ⟨a7, c7, hv7, HO7⟩ := cels_grown HT.out HLT.out ho7; subst hv7; have HB7 : Hid (Below w1.heap.size w1 w7) := HB6.out.trans hb7; clear _t ho7 hb7 HP6 HO6 HB6)
          go_roundw
          case rel => exact ⟨k + 1, a7, c7, by omega, rfl, by go_num, HJ3.out, HO7.out, HB7.out⟩
          case measure => simp [intOf]; omega
      · have hkn : k = n := by omega
        subst hkn
        have HRW : Hid (Row wr g c (celsC true l)) := by
          have := (HO.out.row' (cels_bys _ _)).2
          rw [List.take_of_length_le (by rw [HL.out]; exact Nat.le_refl _)] at this
          exact this
        have HS : Hid _ := HYES.out HJ.out g c wr HRW.out
        clear HYES HO HJ HRW
        go_wp2_with fail
        refine (Calls.mono HS.out) ?_
        rintro e w3 ⟨g', c', rfl, ho, hb3⟩
        have HB3 : Hid (Below w.heap.size w w3) := (HB.out.trans (HBR.out.mono HB.out.size)).trans (hb3.mono (Nat.le_trans HB.out.size HBR.out.size))
        have HO3 : Hid (Own w.heap.size w3 (.slice g' m c') Z) := ho.weaken (Nat.le_trans HB.out.size HBR.out.size)
        clear hb3 ho k0 k1 k2 k3 p0 p1 p2
        go_wp2
        go_ret2
        exact ⟨_, _, rfl, HO3.out, HB3.out⟩
end Go.Proofs.Ytaeooehilncokaa.Oct
