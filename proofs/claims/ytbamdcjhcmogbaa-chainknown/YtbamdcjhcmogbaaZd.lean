/-
  The document's Open.
-/
import Derived.Test.YtbamdcjhcmogbaaZc
namespace Go.Proofs.Ytbamdcjhcmogbaa.Oct
open Go.RowKit

theorem get1 {zs : List Int} (hb : Bys zs) (k : Nat) (hk : k < zs.length) : getI zs k 1 = zs.getD k 0 := by
  have hi : insB zs.length k 1 = true := by simp [insB]; omega
  have h := hb.at k
  unfold getI
  rw [hi, if_pos rfl]
  have e : num zs (k : Int).toNat (1 : Int).toNat = zs.getD k 0 := by
    rw [Int.toNat_natCast]
    show num zs k 1 = _
    rw [num_succ]
    show 0 * 256 + _ = _
    simp
  rw [e]
  exact (cap_yes (by omega)).1

set_option maxHeartbeats 1000000 in
theorem ropen_any (a : Option Addr) (cap : Nat) (zs : List Int) (w : World) (h : Row w a cap zs) :
    Calls Try.prog 26 #[.slice a zs.length cap] w fun e w' => ∃ v, e = .returned (.tuple #[v, .int .i64 (opE zs)]) ∧ Opened w.heap.size w' v (opP zs) ∧ Below w.heap.size w w' := by
  by_cases hl : zs.length = 256
  · obtain ⟨b, off, rfl⟩ := h.some' (by omega)
    have cn : ∀ (p n : Int) (w1 : World), Below w.heap.size w w1 → Calls Try.prog 27 #[.slice (some ⟨b, off, none⟩) 256 cap, .int .i64 p, .int .i64 n] w1 fun e w' => e = .returned (.int .i64 (getI zs p n)) ∧ Below w1.heap.size w1 w' := fun p n w1 hb => by
      have := rnumber_any _ _ _ p n _ (h.below hb)
      rw [hl] at this
      exact this.mono fun e w' ⟨h1, h2⟩ => ⟨h1, h2 ▸ Below.refl _ _⟩
    have cs : ∀ (w1 : World), Below w.heap.size w w1 → Calls Try.prog 34 #[.slice (some ⟨b, off + 4, none⟩) 252 (cap - 4)] w1 fun e w' => e = .returned (.int .u32 (crc (zs.drop 4))) ∧ Below w1.heap.size w1 w' := fun w1 hb => by
      have e : (zs.drop 4).length = 252 := by simp [hl]
      have := refcrc_any _ _ _ _ ((h.below hb).drop' 4 (by omega))
      rw [e] at this
      exact this.mono fun e w' ⟨h1, h2⟩ => ⟨h1, h2 ▸ Below.refl _ _⟩
    have cc : ∀ (w1 : World), Below w.heap.size w w1 → Calls Try.prog 42 #[.slice (some ⟨b, off + 8, none⟩) 248 (cap - 8)] w1 fun e w' => ∃ g c, e = .returned (.slice g 248 c) ∧ Own w1.heap.size w' (.slice g 248 c) (zs.drop 8) ∧ Below w1.heap.size w1 w' := fun w1 hb => by
      have e : (zs.drop 8).length = 248 := by simp [hl]
      have hr := (h.below hb).drop' 8 (by omega)
      have := copy_any _ _ _ _ hr (by omega)
      rw [e] at this
      refine this.mono ?_
      rintro e' w' ⟨v, rfl, ho, hb'⟩
      obtain ⟨g, c, hv, _⟩ := ho.row hr.1
      rw [e] at hv
      rw [hv] at ho ⊢
      exact ⟨g, c, rfl, ho, hb'⟩
    have hc := h.2.1
    have hm := h.2.2.1
    unfold maxLen at hm
    rw [hl] at hc
    have e1 : opE zs = if getI zs 0 4 = crc (zs.drop 4) then (if okK (getI zs 4 1) then 0 else 4) else 5 := by simp [opE, hl]
    have hno : ∀ {base : Nat} {w : World}, opE zs ≠ 0 → Opened base w (.agg #[.int .i64 0, .int .i64 0, .int .i64 0, .slice none 0 0]) (opP zs) := fun hh => opened_no _ _ zs hh
    have hyes : opE zs = 0 → opP zs = ⟨getI zs 4 1, getI zs 5 1, getI zs 6 2, zs.drop 8⟩ := fun hh => by simp [opP, hh]
    have l4 : ∀ (w1 : World), Below w.heap.size w w1 → w1.cell? ⟨b, off + 4, none⟩ = some (.int .u8 (getI zs 4 1)) := fun w1 hb => by
      rw [show getI zs 4 1 = zs.getD 4 0 from get1 h.1 4 (by omega)]; exact (h.below hb).cells 4 (by omega)
    have l5 : ∀ (w1 : World), Below w.heap.size w w1 → w1.cell? ⟨b, off + 5, none⟩ = some (.int .u8 (getI zs 5 1)) := fun w1 hb => by
      rw [show getI zs 5 1 = zs.getD 5 0 from get1 h.1 5 (by omega)]; exact (h.below hb).cells 5 (by omega)
    have b4 : 0 ≤ getI zs 4 1 ∧ getI zs 4 1 ≤ 255 := by rw [show getI zs 4 1 = zs.getD 4 0 from get1 h.1 4 (by omega)]; exact h.1.at 4
    have b5 : 0 ≤ getI zs 5 1 ∧ getI zs 5 1 ≤ 255 := by rw [show getI zs 5 1 = zs.getD 5 0 from get1 h.1 5 (by omega)]; exact h.1.at 5
    have bs := crc_bd (zs := zs.drop 4) (fun z hz => h.1 z (List.mem_of_mem_drop hz))
    rw [hl]
    obtain ⟨E, hE⟩ : ∃ E, opE zs = E := ⟨_, rfl⟩
    obtain ⟨p, hp⟩ : ∃ p, opP zs = p := ⟨_, rfl⟩
    rw [hE, hp] at hno hyes
    rw [hE] at e1 ⊢
    rw [hp]
    obtain ⟨x0, h0⟩ : ∃ x, getI zs 0 4 = x := ⟨_, rfl⟩
    obtain ⟨s0, hs0⟩ : ∃ x, crc (zs.drop 4) = x := ⟨_, rfl⟩
    obtain ⟨x4, h4⟩ : ∃ x, getI zs 4 1 = x := ⟨_, rfl⟩
    obtain ⟨x5, h5⟩ : ∃ x, getI zs 5 1 = x := ⟨_, rfl⟩
    obtain ⟨x6, h6⟩ : ∃ x, getI zs 6 2 = x := ⟨_, rfl⟩
    have c0 := cn 0 4
    have c6 := cn 6 2
    rw [h0] at c0 e1
    rw [h4] at e1 hyes l4 b4
    rw [h5] at hyes l5 b5
    rw [h6] at c6 hyes
    rw [hs0] at cs e1 bs
    have C0 : Hid _ := c0
    have L4 : Hid _ := l4
    have L5 : Hid _ := l5
    have C6 : Hid _ := c6
    have CS : Hid _ := cs
    have CC : Hid _ := cc
    have HE : Hid _ := e1
    have HNO : Hid (∀ {base : Nat} {w : World}, E ≠ 0 → Opened base w (.agg #[.int .i64 0, .int .i64 0, .int .i64 0, .slice none 0 0]) p) := @hno
    have HYES : Hid _ := hyes
    clear c0 c6 cs cc cn h0 h4 h5 h6 hs0 e1 hno hyes hE hp h hl l4 l5
    have HB0 : Hid (Below w.heap.size w (w.alloc (.cells #[.int .i64 0, .int .i64 0, .int .i64 0, .slice none 0 0] 53))) := (Below.refl _ _).alloc (Nat.le_refl _) _
    have S0 : Hid (Slot (w.alloc (.cells #[.int .i64 0, .int .i64 0, .int .i64 0, .slice none 0 0] 53)) w.heap.size _ _ _ _) := slot_new w _ _ _ _ 53
    have ws : IntKind.i64.wrap s0 = s0 := wrap_i64 bs.1 bs.2
    have w4 : IntKind.i64.wrap x4 = x4 := wrap_i64 b4.1 (by omega)
    have w5 : IntKind.i64.wrap x5 = x5 := wrap_i64 b5.1 (by omega)
    by_cases hs : x0 = s0
    · have hsb : (x0 != s0) = false := by simp [hs]
      have hsw : (x0 != IntKind.i64.wrap s0) = false := by rw [ws]; exact hsb
      have HS : Hid (x0 = s0) := hs
      clear hs
      cases hk : okK x4
      · have he : E = 4 := by rw [HE.out, if_pos HS.out, hk]; rfl
        subst he
        have hx : x4 < 1 ∨ 5 < x4 := by simp [okK] at hk; omega
        clear hk
        rcases hx with hx | hx
        all_goals
          go_enter Try.func26, Try.ntmps26
          go_wp2_with fail
          go_region_held3 (fun _ => True) (first | trivial | go_keep) (first
            | (go_at_call 27; refine (C0.out _ HB0.out.drew).mono ?_; rintro e w1 ⟨rfl, hb1⟩; have HB1 : Hid (Below w.heap.size w w1) := HB0.out.drew.trans (hb1.mono HB0.out.size); have S1 : Hid (Slot w1 w.heap.size _ _ _ _) := (S0.out.below (Below.refl _ _).drew).below hb1; clear hb1)
            | (go_at_call 34; refine (CS.out _ HB1.out).mono ?_; rintro e w2 ⟨rfl, hb2⟩; have HB2 : Hid (Below w.heap.size w w2) := HB1.out.trans (hb2.mono HB1.out.size); have S2 : Hid (Slot w2 w.heap.size _ _ _ _) := S1.out.below hb2; clear hb2))
          obtain ⟨⟨k0, k1, k2, k3⟩, f0, f1, f2, f3⟩ := S2.out
          have k4 := L4.out _ HB2.out
          go_wp2
          clear k0 k1 k2 k3 f0 f1 f2 f3
          obtain ⟨⟨q0, q1, q2, q3⟩, _⟩ := S2.out.wrote (.int .i64 0) (.int .i64 0) (.int .i64 0) (.slice none 0 0)
          refine bodyPost_ret (v := .tuple #[.agg #[.int .i64 0, .int .i64 0, .int .i64 0, .slice none 0 0], .int .i64 4]) ?_ rfl ⟨_, rfl, HNO.out (by decide), below_wrote HB2.out (Nat.le_refl _) _ _ _ _⟩
          simp [results, Try.results26, go_sem, q0, q1, q2, q3]
      · have he : E = 0 := by rw [HE.out, if_pos HS.out, hk]; rfl
        subst he
        have hp := HYES.out rfl
        subst hp
        have hx : 1 ≤ x4 ∧ x4 ≤ 5 := by simpa [okK] using hk
        obtain ⟨hx1, hx2⟩ := hx
        clear hk
        go_enter Try.func26, Try.ntmps26
        go_wp2_with fail
        go_region_held3 (fun _ => True) (first | trivial | go_keep) (first
          | (go_at_call 27; refine (C0.out _ HB0.out.drew).mono ?_; rintro e w1 ⟨rfl, hb1⟩; have HB1 : Hid (Below w.heap.size w w1) := HB0.out.drew.trans (hb1.mono HB0.out.size); have S1 : Hid (Slot w1 w.heap.size _ _ _ _) := (S0.out.below (Below.refl _ _).drew).below hb1; clear hb1)
          | (go_at_call 34; refine (CS.out _ HB1.out).mono ?_; rintro e w2 ⟨rfl, hb2⟩; have HB2 : Hid (Below w.heap.size w w2) := HB1.out.trans (hb2.mono HB1.out.size); have S2 : Hid (Slot w2 w.heap.size _ _ _ _) := S1.out.below hb2; clear hb2))
        have k4 := L4.out _ HB2.out
        have k5 := L5.out _ HB2.out
        go_wp2
        go_region_held3 (fun w' => w'.cell? ⟨b, off + 4, none⟩ = some (.int .u8 x4) ∧ w'.cell? ⟨b, off + 5, none⟩ = some (.int .u8 x5)) (first | exact ⟨L4.out _ HB2.out.drew, L5.out _ HB2.out.drew⟩ | exact ⟨L4.out _ HB3.out, L5.out _ HB3.out⟩ | exact ⟨L4.out _ HB4.out, L5.out _ HB4.out⟩ | exact ⟨L4.out _ (below_wrote HB4.out (Nat.le_refl _) _ _ _ _), L5.out _ (below_wrote HB4.out (Nat.le_refl _) _ _ _ _)⟩ | go_keep) (first
          | (go_at_call 27; refine (C6.out _ HB2.out.drew).mono ?_; rintro e w3 ⟨rfl, hb3⟩; have HB3 : Hid (Below w.heap.size w w3) := HB2.out.drew.trans (hb3.mono HB2.out.size); have S3 : Hid (Slot w3 w.heap.size _ _ _ _) := (S2.out.below (Below.refl _ _).drew).below hb3; clear hb3)
          | (go_at_call 42; refine (CC.out _ HB3.out).mono ?_; rintro e w4 ⟨g, c, rfl, ho, hb4⟩; have HB4 : Hid (Below w.heap.size w w4) := HB3.out.trans (hb4.mono HB3.out.size); have S4 : Hid (Slot w4 w.heap.size _ _ _ _) := S3.out.below hb4; have HO : Hid (Own w3.heap.size w4 (.slice g 248 c) (zs.drop 8)) := ho; have HS4 : Hid (w.heap.size < w3.heap.size) := block_lt_of_cell S3.out.1.1; clear hb4 ho; obtain ⟨⟨k0, k1, k2, k3⟩, f0, f1, f2, f3⟩ := S4.out))
        go_wp2
        clear k0 k1 k2 k3 f0 f1 f2 f3
        obtain ⟨⟨q0, q1, q2, q3⟩, _⟩ := S4.out.wrote (.int .i64 x4) (.int .i64 x5) (.int .i64 x6) (.slice g 248 c)
        refine bodyPost_ret (v := .tuple #[.agg #[.int .i64 x4, .int .i64 x5, .int .i64 x6, .slice g 248 c], .int .i64 0]) ?_ rfl ⟨_, rfl, ⟨_, rfl, ?_⟩, below_wrote HB4.out (Nat.le_refl _) _ _ _ _⟩
        · simp [results, Try.results26, go_sem, q0, q1, q2, q3]
        · exact (HO.out.keep (fun j hj => heap_wrote _ _ _ _ _ _ _ (by have := HS4.out; omega))).weaken (Nat.le_of_lt HS4.out)
    · have hsb : (x0 != s0) = true := by simpa using hs
      have hsw : (x0 != IntKind.i64.wrap s0) = true := by rw [ws]; exact hsb
      have he : E = 5 := by rw [HE.out, if_neg hs]
      subst he
      clear hs
      go_enter Try.func26, Try.ntmps26
      go_wp2_with fail
      go_region_held3 (fun _ => True) (first | trivial | go_keep) (first
        | (go_at_call 27; refine (C0.out _ HB0.out.drew).mono ?_; rintro e w1 ⟨rfl, hb1⟩; have HB1 : Hid (Below w.heap.size w w1) := HB0.out.drew.trans (hb1.mono HB0.out.size); have S1 : Hid (Slot w1 w.heap.size _ _ _ _) := (S0.out.below (Below.refl _ _).drew).below hb1; clear hb1)
        | (go_at_call 34; refine (CS.out _ HB1.out).mono ?_; rintro e w2 ⟨rfl, hb2⟩; have HB2 : Hid (Below w.heap.size w w2) := HB1.out.trans (hb2.mono HB1.out.size); have S2 : Hid (Slot w2 w.heap.size _ _ _ _) := S1.out.below hb2; clear hb2))
      obtain ⟨⟨k0, k1, k2, k3⟩, f0, f1, f2, f3⟩ := S2.out
      go_wp2
      clear k0 k1 k2 k3 f0 f1 f2 f3
      obtain ⟨⟨q0, q1, q2, q3⟩, _⟩ := S2.out.wrote (.int .i64 0) (.int .i64 0) (.int .i64 0) (.slice none 0 0)
      refine bodyPost_ret (v := .tuple #[.agg #[.int .i64 0, .int .i64 0, .int .i64 0, .slice none 0 0], .int .i64 5]) ?_ rfl ⟨_, rfl, HNO.out (by decide), below_wrote HB2.out (Nat.le_refl _) _ _ _ _⟩
      simp [results, Try.results26, go_sem, q0, q1, q2, q3]
  · have hv : opE zs = 1 := by simp [opE, hl]
    have hp := opened_no w.heap.size w zs (by omega)
    have hlb : ((zs.length : Int) != 256) = true := by simp; omega
    have hm := Nat.le_trans h.2.1 h.2.2.1
    unfold maxLen at hm
    rw [hv]
    clear hv h hl
    go_enter Try.func26, Try.ntmps26
    go_wp2
    refine bodyPost_ret (v := .tuple #[.agg #[.int .i64 0, .int .i64 0, .int .i64 0, .slice none 0 0], .int .i64 1]) ?_ rfl ⟨_, rfl, hp.alloc _, (Below.refl _ _).alloc (Nat.le_refl _) _⟩
    simp [results, Try.results26, go_sem]
end Go.Proofs.Ytbamdcjhcmogbaa.Oct
