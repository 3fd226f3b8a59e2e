/-
  The landed space: Clone, New, Load.
-/
import Derived.Test.YtdmahobldghojaaLh
namespace Go.Proofs.Ytdmahobldghojaa.Oct.Sps
open Go.RowKit

section
variable {w w' : World} {s a ca b cb : Nat} {F : Nat → Prop} {S : List Int}

set_option maxHeartbeats 2000000 in
theorem clone_any (h : Spa w s F S) : Calls Try.prog 22 #[.pointer (some ⟨s, 0, none⟩)] w fun e w' => ∃ s' F', e = .returned (.pointer (some ⟨s', 0, none⟩)) ∧ Spa w' s' F' S ∧ Below w.heap.size w w' ∧ ∀ k, F' k → w.heap.size ≤ k := by
  obtain ⟨a, ca, b, cb, h⟩ := h
  have hm := made_any h
  obtain ⟨c0, c1, c2⟩ := h.at
  have ls := h.lt s h.fs
  have hlen := h.ok.hi
  have hc1 := setClone_any ⟨a, 0, none⟩ ca (lasL S) w.drew (h.rowA.below (Below.refl _ _).drew) (by rw [lasL_len]; omega)
  have HC2 : Hid (∀ w', Below w.heap.size w w' → Calls Try.prog 44 #[.slice (some ⟨b, 0, none⟩) ((S.length + 7) / 8) cb] w' fun e w'' => ∃ g c, e = .returned (.slice (some ⟨g, 0, none⟩) ((S.length + 7) / 8) c) ∧ Own w'.heap.size w'' (.slice (some ⟨g, 0, none⟩) ((S.length + 7) / 8) c) (bitL S) ∧ Below w'.heap.size w' w'') := fun w' hb => by
    have := setClone_any ⟨b, 0, none⟩ cb (bitL S) w' (h.rowB.below hb) (by rw [bitL_len]; omega)
    rw [bitL_len] at this
    exact this
  rw [lasL_len] at hc1
  have HS : Hid (SpOk S) := h.ok
  obtain ⟨n, hn⟩ : ∃ n, (S.length + 7) / 8 = n := ⟨_, rfl⟩
  have HN : Hid ((S.length + 7) / 8 = n) := hn
  rw [hn] at c1 c2 hc1 HC2
  clear h hn hlen
  go_enter Try.func22, Try.ntmps22
  go_wp2_with (go_at_call 36; refine hm.mono ?_; rintro e w' ⟨rfl, rfl⟩)
  go_region_held3 (fun w' => w'.cell? ⟨s, 0, none⟩ = some (.int .i64 S.length) ∧ w'.cell? ⟨s, 1, none⟩ = some (.slice (some ⟨a, 0, none⟩) n ca) ∧ w'.cell? ⟨s, 2, none⟩ = some (.slice (some ⟨b, 0, none⟩) n cb)) (first | go_keep | exact ⟨by assumption, by assumption, by assumption⟩) (first | (go_at_call 44; refine hc1.mono ?_; clear hc1; rintro e w1 ⟨g1, d1, rfl, o1, b1⟩; have O1 : Hid (Own w.heap.size w1 (.slice (some ⟨g1, 0, none⟩) n d1) (lasL S)) := o1; have B1 : Hid (Below w.heap.size w w1) := ((Below.refl _ w).drew).trans b1; have t0 := (B1.out.cell (p := ⟨s, 0, none⟩) ls).trans c0; have t1 := (B1.out.cell (p := ⟨s, 1, none⟩) ls).trans c1; have t2 := (B1.out.cell (p := ⟨s, 2, none⟩) ls).trans c2; have ls1 : Hid (s < w1.heap.size) := Nat.lt_of_lt_of_le ls B1.out.size; clear o1 b1) | (go_at_call 44; refine (HC2.out _ B1.out).mono ?_; clear HC2; rintro e w2 ⟨g2, d2, rfl, o2, b2⟩; have O2 : Hid (Own w1.heap.size w2 (.slice (some ⟨g2, 0, none⟩) n d2) (bitL S)) := o2; have B2 : Hid (Below w1.heap.size w1 w2) := b2; have u0 := (b2.cell (p := ⟨s, 0, none⟩) ls1.out).trans t0; have u1 := (b2.cell (p := ⟨s, 1, none⟩) ls1.out).trans t1; have u2 := (b2.cell (p := ⟨s, 2, none⟩) ls1.out).trans t2; clear o2 b2))
  go_wp2
  go_ret
  have := SpX.new (w := w) (w1 := w1) (w2 := w2) (g1 := g1) (c1 := d1) (g2 := g2) (c2 := d2) HS.out (by rw [HN.out]; exact O1.out) B1.out (by rw [HN.out]; exact O2.out) B2.out
  rw [HN.out] at this
  exact ⟨_, _, rfl, this.1, this.2, fun k hk => hk.1⟩
end

theorem las_bit {S : List Int} (h : ∀ i, laB (S.getD i 0) = usB (S.getD i 0)) : lasL S = bitL S := bitsP_ext fun i _ => h i
theorem ldS_las {zs : List Int} {n : Nat} (hb : Bys zs) (h : ldOk zs n = true) : lasL (ldS zs n) = zs := by
  refine Eq.trans (las_bit fun i => ?_) (bitL_ldS hb h)
  by_cases e : i < n
  · rw [ldS_at e]
    cases bitR zs i <;> rfl
  · rw [List.getD_eq_getElem?_getD, List.getElem?_eq_none (by rw [ldS_len]; omega)]
    rfl
def twoP (n k : Nat) : List Int := bitsP (fun i => decide (i < k)) n
theorem newS_at {n i : Nat} (hn : 8 ≤ n) : (newS n).getD i 0 = if i < 2 then 1 else 0 := by
  by_cases e : i < n
  · rw [← ldK_zero [], ldK_at e]
    simp
  · rw [List.getD_eq_getElem?_getD, List.getElem?_eq_none (by rw [newS_len]; omega), if_neg (by omega)]
    rfl
theorem newS_bit {n : Nat} (hn : 8 ≤ n) : bitL (newS n) = twoP n 2 := by
  unfold bitL twoP
  rw [newS_len]
  refine bitsP_ext fun i _ => ?_
  rw [newS_at hn]
  by_cases e : i < 2 <;> simp [e, usB]
theorem newS_las {n : Nat} (hn : 8 ≤ n) : lasL (newS n) = twoP n 2 := by
  refine Eq.trans (las_bit fun i => ?_) (newS_bit hn)
  rw [newS_at hn]
  by_cases e : i < 2 <;> simp [e, usB, laB]
theorem twoP_len (n k : Nat) : (twoP n k).length = (n + 7) / 8 := bitsP_len _ _
theorem twoP_bys (n k : Nat) : Bys (twoP n k) := bitsP_bys _ _
theorem twoP_zero (n : Nat) : twoP n 0 = List.replicate ((n + 7) / 8) 0 := by
  rw [← bitsP_none]
  exact bitsP_ext fun i _ => by simp
theorem twoP_succ {n k : Nat} (hk : k < n) : (twoP n k).set (k / 8) (bits .or .u8 ((twoP n k).getD (k / 8) 0) (2 ^ (k % 8) % 256)) = twoP n (k + 1) :=
  bitsP_or hk (by simp) fun i hi => decide_eq_decide.2 (by omega)

theorem new_no (n : Int) (w : World) (h : ¬ (8 ≤ n ∧ n ≤ 4096)) : Calls Try.prog 9 #[.int .i64 n] w fun e w' => e = .returned (.tuple #[.pointer none, .int .i64 1]) ∧ Below w.heap.size w w' := by
  have ha := allowed_any n w
  rw [show alwB n = false from decide_eq_false h] at ha
  clear h
  go_enter Try.func9, Try.ntmps9
  go_wp2_with (go_at_call 32; refine ha.mono ?_; rintro e w' ⟨rfl, rfl⟩)
  go_ret2
  exact ⟨rfl, Below.refl _ _⟩

set_option maxHeartbeats 1000000 in
theorem new_yes (n : Nat) (w : World) (h8 : 8 ≤ n) (h4 : n ≤ 4096) : Calls Try.prog 9 #[.int .i64 n] w fun e w' => ∃ s F, e = .returned (.tuple #[.pointer (some ⟨s, 0, none⟩), .int .i64 0]) ∧ Spa w' s F (newS n) ∧ Below w.heap.size w w' ∧ ∀ k, F k → w.heap.size ≤ k := by
  obtain ⟨i0, hi0, hz0, hz1, hz2⟩ := info_parts info5
  have ha := allowed_any n w
  rw [show alwB n = true from decide_eq_true ⟨by omega, by omega⟩] at ha
  have hr := room_any n w h4
  obtain ⟨nb, hnb⟩ : ∃ nb, (n + 7) / 8 = nb := ⟨_, rfl⟩
  have HN : Hid ((n + 7) / 8 = nb) := hnb
  have H8 : Hid (8 ≤ n ∧ n ≤ 4096) := ⟨h8, h4⟩
  have hm : nb ≤ maxLen := by unfold maxLen; omega
  have hnb1 : nb ≤ 513 := by omega
  rw [hnb] at hr
  clear hnb
  go_enter Try.func9, Try.ntmps9
  go_wp2_with (first | (go_at_call 32; refine ha.mono ?_; rintro e w' ⟨rfl, rfl⟩) | (go_at_call 33; refine hr.mono ?_; rintro e w' ⟨rfl, rfl⟩) | (at_make; refine wpList_make_full _ rfl _ _ 55 rfl w.heap.size 5 i0 (.int .u8 0) 1 Try.underlying55 hi0 hz0 hz1 .i64 .i64 _ _ nb rfl rfl rfl rfl (by rw [hz2]; omega) hm (Nat.le_refl _) ?_; intro w1 hown1 hgrow1; have HO : Hid (Own 0 w1 (.slice (some ⟨w.heap.size, 0, none⟩) nb nb) (twoP n 0)) := (by show Own _ _ _ _; rw [twoP_zero, HN.out]; exact (made_own hown1).zero); have HB : Hid (Below w.heap.size w w1) := (Below.refl _ w).grown hgrow1 (Nat.le_refl _) (by simp); have HLT : Hid (w.heap.size < w1.heap.size) := (made_own hown1).lt2.2; clear hown1 hgrow1))
  go_loopw [12] (fun i wr => ∃ k : Nat, k ≤ 2 ∧ i = .int .i64 k ∧ Hid (Own 0 wr (.slice (some ⟨w.heap.size, 0, none⟩) nb nb) (twoP n k) ∧ Below w.heap.size w wr)) (fun i _ => 2 - (intOf i).toNat)
  case atStart => exact ⟨0, Nat.zero_le _, rfl, (by show _ ∧ _; exact ⟨HO.out, HB.out⟩)⟩
  case round =>
    clear HO HB
    obtain ⟨k, hk, rfl, HI⟩ := hrel
    by_cases hlt : k < 2
    · have hd := setAdd_any w.heap.size nb nb (twoP n k) k wr HI.out.1 (twoP_bys n k) (by rw [twoP_len]; omega) (by rw [twoP_len]; omega)
      rw [twoP_succ (show k < n by omega)] at hd
      go_wp2_with (go_at_call 34; refine hd.mono ?_; clear hd; rintro e w2 ⟨rfl, h2, h3⟩; have HJ : Hid (Own 0 w2 (.slice (some ⟨w.heap.size, 0, none⟩) nb nb) (twoP n (k + 1)) ∧ Below w.heap.size w w2) := ⟨h2, HI.out.2.trans ((h3.mono HI.out.2.size (fun _ _ e => e)).below (fun _ e => Nat.le_of_eq e.symm))⟩; clear h2 h3)
      go_roundw
      case rel => exact ⟨k + 1, by omega, by go_num, HJ.out⟩
      case measure => simp [intOf]; omega
    · have hk' : k = 2 := by omega
      subst hk'
      have hu := using_any ⟨w.heap.size, 0, none⟩ nb (twoP n 2) wr n (newS_ok H8.out.1 H8.out.2) (newS_len n) (newS_las H8.out.1) (newS_bit H8.out.1) (HI.out.1.row' (twoP_bys n 2)).2
      rw [twoP_len, HN.out] at hu
      go_wp2_with (go_at_call 35; refine hu.mono ?_; clear hu; rintro e w2 ⟨s, F, rfl, h2, h3, h4⟩; have H2 : Hid _ := h2; have HB : Hid (Below w.heap.size w w2) := HI.out.2.trans (h3.mono HI.out.2.size); have HF : Hid (∀ k, F k → w.heap.size ≤ k) := (fun k hk => Nat.le_trans HI.out.2.size (h4 k hk)); clear h2 h3 h4)
      go_ret2
      exact ⟨_, _, rfl, H2.out, HB.out, HF.out⟩

/-- May these be the bits of so many pages? -/
theorem whole_any (n : Nat) (ad : Option Addr) (cap : Nat) (zs : List Int) (w : World) (hr : Row w ad cap zs) (hl : zs.length ≤ 1000000) (h8 : 8 ≤ n) (h4 : n ≤ 4096) :
    Calls Try.prog 45 #[.int .i64 n, .slice ad zs.length cap] w fun e w' => e = .returned (.bool (ldOk zs n)) ∧ w = w' := by
  have hro := room_any n w h4
  by_cases hlen : zs.length = (n + 7) / 8
  · have HH : Hid (∀ k, k < 8 * zs.length → Calls Try.prog 51 #[.slice ad zs.length cap, .int .i64 k] w fun e w' => e = .returned (.bool (bitR zs k)) ∧ w = w') := fun k hk => setHas_any ad cap zs k w hr hl (by omega)
    have HLN : Hid (zs.length = (n + 7) / 8) := hlen
    rw [← hlen] at hro
    obtain ⟨m, hm⟩ : ∃ m, zs.length = m := ⟨_, rfl⟩
    have HM : Hid (zs.length = m) := hm
    have hm1 : m ≤ 1000 := by omega
    obtain ⟨M, hM⟩ : ∃ M, 8 * m = M := ⟨_, rfl⟩
    have hMi : (8 : Int) * (m : Int) = (M : Int) := by omega
    have hM1 : M ≤ 8000 := by omega
    have hm2 : n ≤ M := by omega
    have HMM : Hid (8 * m = M) := hM
    rw [hm] at hro HH ⊢
    rw [hM] at HH
    have H8 : Hid (8 ≤ n) := h8
    clear hlen hm hr hl hM
    go_enter Try.func45, Try.ntmps45
    go_wp2_with (go_at_call 33; refine hro.mono ?_; rintro e w' ⟨rfl, rfl⟩)
    go_loopw [12] (fun i wr => ∃ k : Nat, k ≤ 2 ∧ i = .int .i64 k ∧ w = wr ∧ Hid (∀ j, j < k → bitR zs j = true)) (fun i _ => 2 - (intOf i).toNat)
    case atStart => exact ⟨0, Nat.zero_le _, rfl, rfl, fun j hj => by omega⟩
    case round =>
      obtain ⟨k, hk, rfl, rfl, HI⟩ := hrel
      by_cases hlt : k < 2
      · have hh := HH.out k (by omega)
        cases hb : bitR zs k with
        | false =>
          rw [hb] at hh
          have HE : Hid (ldOk zs n = false) := ldOk_no (k := k) (by rw [HM.out]; have := HMM.out; omega) (by unfold ldF; rw [hb, decide_eq_true hlt]; rfl)
          clear hb
          go_wp2_with (go_at_call 51; refine hh.mono ?_; clear hh; rintro e w' ⟨rfl, rfl⟩)
          go_ret
          rw [HE.out]
          exact ⟨rfl, rfl⟩
        | true =>
          rw [hb] at hh
          have HB : Hid (bitR zs k = true) := hb
          clear hb
          go_wp2_with (go_at_call 51; refine hh.mono ?_; clear hh; rintro e w' ⟨rfl, rfl⟩)
          go_roundw
          case rel => exact ⟨k + 1, by omega, by go_num, trivial, fun j hj => by rcases Nat.lt_succ_iff_lt_or_eq.1 hj with h | rfl; exact HI.out j h; exact HB.out⟩
          case measure => simp [intOf]; omega
      · have hk' : k = 2 := by omega
        subst hk'
        rw [show ((2 : Nat) : Int) = 2 from rfl]
        clear hk hlt
        go_wp2
        go_loopw [6] (fun i wx => ∃ k : Nat, n ≤ k ∧ k ≤ M ∧ i = .int .i64 k ∧ w = wx ∧ Hid (∀ j, n ≤ j → j < k → bitR zs j = false)) (fun i _ => M - (intOf i).toNat)
        case atStart => exact ⟨n, Nat.le_refl _, hm2, rfl, rfl, fun j h1 h2 => by omega⟩
        case round =>
          obtain ⟨k, hk1, hk2, rfl, rfl, HJ⟩ := hrel
          by_cases hlt : k < M
          · have hh := HH.out k hlt
            cases hb : bitR zs k with
            | true =>
              rw [hb] at hh
              have HE : Hid (ldOk zs n = false) := ldOk_no (k := k) (by rw [HM.out]; have := HMM.out; omega) (by unfold ldF; rw [hb, decide_eq_true hk1]; simp)
              clear hb
              go_wp2_with (go_at_call 51; refine hh.mono ?_; clear hh; rintro e w' ⟨rfl, rfl⟩)
              go_ret
              rw [HE.out]
              exact ⟨rfl, rfl⟩
            | false =>
              rw [hb] at hh
              have HB : Hid (bitR zs k = false) := hb
              clear hb
              go_wp2_with (go_at_call 51; refine hh.mono ?_; clear hh; rintro e w' ⟨rfl, rfl⟩)
              go_roundw
              case rel => exact ⟨k + 1, by omega, by omega, by go_num, trivial, fun j h1 hj => by rcases Nat.lt_succ_iff_lt_or_eq.1 hj with h | rfl; exact HJ.out j h1 h; exact HB.out⟩
              case measure => simp [intOf]; omega
          · have HE : Hid (ldOk zs n = true) := ldOk_yes HLN.out fun j hj => by
              rw [HM.out] at hj
              have hj2 := HMM.out
              unfold ldF
              by_cases e2 : j < 2
              · rw [HI.out j e2, decide_eq_false (show ¬ n ≤ j by have := H8.out; omega)]; simp
              · by_cases e3 : n ≤ j
                · rw [HJ.out j e3 (by omega)]; simp [e2]
                · simp [e2, e3]
            go_wp2
            go_ret
            rw [HE.out]
            exact ⟨rfl, rfl⟩
  · have HE : Hid (ldOk zs n = false) := by show _ = _; unfold ldOk; rw [decide_eq_false hlen]; rfl
    have hne : ((zs.length : Int) == (((n + 7) / 8 : Nat) : Int)) = false := by simp; omega
    obtain ⟨nb, hnb⟩ : ∃ nb, (n + 7) / 8 = nb := ⟨_, rfl⟩
    rw [hnb] at hro hne
    clear hlen hnb hr
    go_enter Try.func45, Try.ntmps45
    go_wp2_with (go_at_call 33; refine hro.mono ?_; rintro e w' ⟨rfl, rfl⟩)
    go_ret
    rw [HE.out]
    exact ⟨rfl, rfl⟩

theorem load_any (n : Int) (ad : Option Addr) (cap : Nat) (zs : List Int) (w : World) (hr : Row w ad cap zs) (hl : zs.length ≤ 1000000) :
    Calls Try.prog 30 #[.int .i64 n, .slice ad zs.length cap] w (LdS Spa w zs n) := by
  have ha := allowed_any n w
  by_cases hn : 8 ≤ n ∧ n ≤ 4096
  · rw [show alwB n = true from decide_eq_true hn] at ha
    obtain ⟨N, rfl⟩ := Int.eq_ofNat_of_zero_le (show 0 ≤ n by omega)
    have hw := whole_any N ad cap zs w hr hl (by omega) (by omega)
    cases hb : ldOk zs N with
    | false =>
      rw [hb] at hw
      have HE : Hid (ldE zs N = 4) := by show _ = _; unfold ldE; rw [if_pos hn, Int.toNat_natCast, hb]; rfl
      clear hb hn hr
      go_enter Try.func30, Try.ntmps30
      go_wp2_with (first | (go_at_call 32; refine ha.mono ?_; rintro e w' ⟨rfl, rfl⟩) | (go_at_call 45; refine hw.mono ?_; rintro e w' ⟨rfl, rfl⟩))
      go_ret2
      exact ⟨Below.refl _ _, .inl (by rw [HE.out]; exact ⟨by omega, rfl⟩)⟩
    | true =>
      rw [hb] at hw
      have HE : Hid (ldE zs N = 0) := by show _ = _; unfold ldE; rw [if_pos hn, Int.toNat_natCast, hb]; rfl
      have hzl : zs.length = (N + 7) / 8 := by unfold ldOk at hb; rw [Bool.and_eq_true] at hb; exact of_decide_eq_true hb.1
      obtain ⟨b, off, rfl⟩ := hr.some' (by omega)
      have hu := using_any ⟨b, off, none⟩ cap zs w N (ldS_ok zs (by omega) (by omega)) (ldS_len zs N) (ldS_las hr.1 hb) (bitL_ldS hr.1 hb) hr
      clear hb hn hr hzl
      go_enter Try.func30, Try.ntmps30
      go_wp2_with (first | (go_at_call 32; refine ha.mono ?_; rintro e w' ⟨rfl, rfl⟩) | (go_at_call 45; refine hw.mono ?_; rintro e w' ⟨rfl, rfl⟩) | (go_at_call 35; refine hu.mono ?_; clear hu; rintro e w2 ⟨s, F, rfl, h2, h3, h4⟩; have H2 : Hid _ := h2; have HB : Hid _ := h3; have HF : Hid _ := h4; clear h2 h3 h4))
      go_ret2
      exact ⟨HB.out, .inr ⟨HE.out, _, _, rfl, by rw [Int.toNat_natCast]; exact H2.out, HF.out⟩⟩
  · rw [show alwB n = false from decide_eq_false hn] at ha
    have HE : Hid (ldE zs n = 1) := if_neg hn
    clear hn hr
    go_enter Try.func30, Try.ntmps30
    go_wp2_with (go_at_call 32; refine ha.mono ?_; rintro e w' ⟨rfl, rfl⟩)
    go_ret2
    exact ⟨Below.refl _ _, .inl (by rw [HE.out]; exact ⟨by omega, rfl⟩)⟩
end Go.Proofs.Ytdmahobldghojaa.Oct.Sps
