/-
  The landed space: Give, Alloc.
-/
import Derived.Test.YtdmahobldghojaaLe
namespace Go.Proofs.Ytdmahobldghojaa.Oct.Sps
open Go.RowKit

theorem xor_at : ∀ z : Fin 256, bits .xor .u8 255 (z.val : Int) = 255 - (z.val : Int) ∧ bits .xor .u8 (z.val : Int) 255 = 255 - (z.val : Int) := by decide +kernel
theorem xor255 {z : Int} (h0 : 0 ≤ z) (h1 : z ≤ 255) : bits .xor .u8 255 z = 255 - z := by
  obtain ⟨n, rfl⟩ := Int.eq_ofNat_of_zero_le h0
  exact (xor_at ⟨n, by omega⟩).1
theorem xor255' {z : Int} (h0 : 0 ≤ z) (h1 : z ≤ 255) : bits .xor .u8 z 255 = 255 - z := by
  obtain ⟨n, rfl⟩ := Int.eq_ofNat_of_zero_le h0
  exact (xor_at ⟨n, by omega⟩).2

section
variable {w w' : World} {s a ca b cb : Nat} {F : Nat → Prop} {S : List Int}

set_option maxHeartbeats 1000000 in
theorem give_any (h : Spa w s F S) (p : Int) : Calls Try.prog 11 #[.pointer (some ⟨s, 0, none⟩), .int .i64 p] w fun e w' => e = .returned (.int .i64 (gvE S p)) ∧ ∃ F', Spa w' s F' (gvL S p) ∧ Step F F' w w' := by
  obtain ⟨a, ca, b, cb, h⟩ := h
  have hm := made_any h
  have hh := has_any h p
  have hs := state_any h p
  by_cases hb : gvB S p = true
  · obtain ⟨b1, b2⟩ : 2 ≤ p ∧ p < (S.length : Int) := by unfold gvB at hb; simpa using hb
    obtain ⟨k, rfl⟩ := Int.eq_ofNat_of_zero_le (show 0 ≤ p by omega)
    have hk : k < S.length := by omega
    have hin : inB S k = true := by unfold inB; rw [decide_eq_true (show (0 : Int) ≤ k by omega), decide_eq_true b2]; rfl
    rw [hin] at hh
    have e2 := stN_in hk
    have e3 : stN S k = 0 ∨ stN S k = 1 ∨ stN S k = 2 ∨ stN S k = 3 := by have := h.ok.at k; omega
    rcases e3 with e3 | e3 | e3 | e3
    · rw [e3] at hs e2
      have HE : Hid (gvE S k = 10 ∧ gvL S k = S) := by
        show _ ∧ _
        unfold gvE gvL
        rw [if_pos hb, if_pos hb, Int.toNat_natCast, ← e2, if_neg (by omega), if_neg (by omega), if_neg (by omega), if_neg (by omega)]
        exact ⟨rfl, rfl⟩
      have HX : Hid (SpX w s a ca b cb F S) := h
      clear h hb hin e2 e3
      go_enter Try.func11, Try.ntmps11
      go_wp2_with (first | (go_at_call 36; refine hm.mono ?_; rintro e w' ⟨rfl, rfl⟩) | (go_at_call 38; refine hh.mono ?_; rintro e w' ⟨rfl, rfl⟩) | (go_at_call 39; refine hs.mono ?_; rintro e w1 ⟨rfl, hb1⟩))
      go_ret
      rw [HE.out.1, HE.out.2]
      exact ⟨rfl, F, ⟨_, _, _, _, HX.out.below hb1⟩, Step.ofB hb1⟩
    · rw [e3] at hs e2
      have HE : Hid (gvE S k = 0 ∧ gvL S k = S.set k 3) := by
        show _ ∧ _
        unfold gvE gvL
        rw [if_pos hb, if_pos hb, Int.toNat_natCast, ← e2]
        exact ⟨rfl, rfl⟩
      have HX : Hid (SpX w s a ca b cb F S) := h
      have HV : Hid (S.getD k 0 = 1) := e2.symm
      obtain ⟨n, hn⟩ : ∃ n, (S.length + 7) / 8 = n := ⟨_, rfl⟩
      have HN : Hid ((S.length + 7) / 8 = n) := hn
      clear h hb hin e2 e3 hn
      go_enter Try.func11, Try.ntmps11
      go_wp2_with (first | (go_at_call 36; refine hm.mono ?_; rintro e w' ⟨rfl, rfl⟩) | (go_at_call 38; refine hh.mono ?_; rintro e w' ⟨rfl, rfl⟩) | (go_at_call 39; refine hs.mono ?_; rintro e w1 ⟨rfl, hb1⟩; have HX1 : Hid (SpX w1 s a ca b cb F S) := HX.out.below hb1; have HB1 : Hid (Below w.heap.size w w1) := hb1; obtain ⟨-, -, c2⟩ := HX1.out.at; rw [HN.out] at c2; clear hb1) | (go_at_call 40; have hd := setDrop_any b ((S.length + 7) / 8) cb (bitL S) k w1 HX1.out.next (bitL_bys S) (by rw [bitL_len]; have := HX1.out.ok.hi; omega) (by rw [bitL_len]; omega); rw [HN.out] at hd; refine hd.mono ?_; clear hd; rintro e w2 ⟨rfl, h2, h3⟩; rw [← HN.out] at h2; have H2 : Hid _ := h2; have H3 : Hid _ := h3; clear h2 h3))
      go_ret
      rw [HE.out.1, HE.out.2]
      exact ⟨rfl, F, ⟨_, _, _, _, HX1.out.drop hk (by omega) rfl (by rw [HV.out]; rfl) H2.out H3.out⟩, (Step.ofB HB1.out).trans (step_of HX1.out.fb H3.out)⟩
    · rw [e3] at hs e2
      have HE : Hid (gvE S k = 0 ∧ gvL S k = S.set k 0) := by
        show _ ∧ _
        unfold gvE gvL
        rw [if_pos hb, if_pos hb, Int.toNat_natCast, ← e2]
        exact ⟨rfl, rfl⟩
      have HX : Hid (SpX w s a ca b cb F S) := h
      have HV : Hid (S.getD k 0 = 2) := e2.symm
      obtain ⟨n, hn⟩ : ∃ n, (S.length + 7) / 8 = n := ⟨_, rfl⟩
      have HN : Hid ((S.length + 7) / 8 = n) := hn
      clear h hb hin e2 e3 hn
      go_enter Try.func11, Try.ntmps11
      go_wp2_with (first | (go_at_call 36; refine hm.mono ?_; rintro e w' ⟨rfl, rfl⟩) | (go_at_call 38; refine hh.mono ?_; rintro e w' ⟨rfl, rfl⟩) | (go_at_call 39; refine hs.mono ?_; rintro e w1 ⟨rfl, hb1⟩; have HX1 : Hid (SpX w1 s a ca b cb F S) := HX.out.below hb1; have HB1 : Hid (Below w.heap.size w w1) := hb1; obtain ⟨-, -, c2⟩ := HX1.out.at; rw [HN.out] at c2; clear hb1) | (go_at_call 40; have hd := setDrop_any b ((S.length + 7) / 8) cb (bitL S) k w1 HX1.out.next (bitL_bys S) (by rw [bitL_len]; have := HX1.out.ok.hi; omega) (by rw [bitL_len]; omega); rw [HN.out] at hd; refine hd.mono ?_; clear hd; rintro e w2 ⟨rfl, h2, h3⟩; rw [← HN.out] at h2; have H2 : Hid _ := h2; have H3 : Hid _ := h3; clear h2 h3))
      go_ret
      rw [HE.out.1, HE.out.2]
      exact ⟨rfl, F, ⟨_, _, _, _, HX1.out.drop hk (by omega) rfl (by rw [HV.out]; rfl) H2.out H3.out⟩, (Step.ofB HB1.out).trans (step_of HX1.out.fb H3.out)⟩
    · rw [e3] at hs e2
      have HE : Hid (gvE S k = 10 ∧ gvL S k = S) := by
        show _ ∧ _
        unfold gvE gvL
        rw [if_pos hb, if_pos hb, Int.toNat_natCast, ← e2, if_neg (by omega), if_neg (by omega), if_neg (by omega), if_neg (by omega)]
        exact ⟨rfl, rfl⟩
      have HX : Hid (SpX w s a ca b cb F S) := h
      clear h hb hin e2 e3
      go_enter Try.func11, Try.ntmps11
      go_wp2_with (first | (go_at_call 36; refine hm.mono ?_; rintro e w' ⟨rfl, rfl⟩) | (go_at_call 38; refine hh.mono ?_; rintro e w' ⟨rfl, rfl⟩) | (go_at_call 39; refine hs.mono ?_; rintro e w1 ⟨rfl, hb1⟩))
      go_ret
      rw [HE.out.1, HE.out.2]
      exact ⟨rfl, F, ⟨_, _, _, _, HX.out.below hb1⟩, Step.ofB hb1⟩
  · have HE : Hid (gvE S p = 1 ∧ gvL S p = S) := by
      show _ ∧ _
      unfold gvE gvL
      rw [if_neg hb, if_neg hb]
      exact ⟨rfl, rfl⟩
    have HX : Hid (SpX w s a ca b cb F S) := h
    by_cases b1 : p < 2
    · clear h hb hs hh
      go_enter Try.func11, Try.ntmps11
      go_wp2_with (go_at_call 36; refine hm.mono ?_; rintro e w' ⟨rfl, rfl⟩)
      go_ret
      rw [HE.out.1, HE.out.2]
      exact ⟨rfl, F, ⟨_, _, _, _, HX.out⟩, Step.refl _ _⟩
    · have hin : inB S p = false := by
        unfold gvB at hb
        unfold inB
        rw [decide_eq_true (show 2 ≤ p by omega), Bool.true_and] at hb
        simp only [Bool.not_eq_true] at hb
        rw [hb, Bool.and_false]
      rw [hin] at hh
      clear h hb hs hin
      go_enter Try.func11, Try.ntmps11
      go_wp2_with (first | (go_at_call 36; refine hm.mono ?_; rintro e w' ⟨rfl, rfl⟩) | (go_at_call 38; refine hh.mono ?_; rintro e w' ⟨rfl, rfl⟩))
      go_ret
      rw [HE.out.1, HE.out.2]
      exact ⟨rfl, F, ⟨_, _, _, _, HX.out⟩, Step.refl _ _⟩

set_option maxHeartbeats 1000000 in
theorem least_any (h : SpX w s a ca b cb F S) : Calls Try.prog 37 #[.pointer (some ⟨s, 0, none⟩)] w fun e w' => ∃ m : Nat, e = .returned (.int .i64 m) ∧ Hid (LeS S m) ∧ Below w.heap.size w w' := by
  obtain ⟨c0, c1, c2⟩ := h.at
  have hhi := h.ok.hi
  have HX : Hid (∀ w', Below w.heap.size w w' → SpX w' s a ca b cb F S) := fun w' hb => h.below hb
  have HOK : Hid (SpOk S) := h.ok
  obtain ⟨n, hn⟩ : ∃ n, (S.length + 7) / 8 = n := ⟨_, rfl⟩
  have HN : Hid ((S.length + 7) / 8 = n) := hn
  have hn1 : n ≤ 1000 := by omega
  have hsl : S.length ≤ 5000 := by omega
  rw [hn] at c1 c2
  clear h hn hhi
  go_enter Try.func37, Try.ntmps37
  go_wp2
  go_loopw [10] (fun i wr => ∃ k : Nat, k ≤ n ∧ i = .int .i64 k ∧ Hid ((∀ j, j < 8 * k → S.getD j 0 ≠ 0) ∧ Below w.heap.size w wr)) (fun i _ => n - (intOf i).toNat)
  case atStart => exact ⟨0, Nat.zero_le _, rfl, (by show _ ∧ _; exact ⟨fun j hj => by omega, Below.refl _ _⟩)⟩
  case round =>
    obtain ⟨k, hk, rfl, HI⟩ := hrel
    obtain ⟨d0, d1, d2⟩ := (HX.out wr HI.out.2).at
    rw [HN.out] at d1 d2
    by_cases hlt : k < n
    · have ht := taken_any (HX.out wr HI.out.2) k (by rw [HN.out]; exact hlt)
      have HT : Hid (tkY S k = byB (fun b => nzB (S.getD (8 * k + b) 0))) := rfl
      have hyb := byB_in (fun b => nzB (S.getD (8 * k + b) 0))
      rw [← HT.out] at hyb
      obtain ⟨y, hy⟩ : ∃ y, tkY S k = y := ⟨_, rfl⟩
      rw [hy] at ht hyb HT
      clear hy
      by_cases hy : y = 255
      · have HA : Hid (∀ j, j < 8 * (k + 1) → S.getD j 0 ≠ 0) := fun j hj => by
          by_cases e : j < 8 * k
          · exact HI.out.1 j e
          · have := all_byB (HT.out.symm.trans hy) (j - 8 * k) (by omega)
            rw [show 8 * k + (j - 8 * k) = j by omega] at this
            exact nz_iff.1 this
        subst hy
        clear HT hyb
        go_wp2_with (go_at_call 42; refine ht.mono ?_; rintro e w2 ⟨rfl, hb2⟩; have HB2 : Hid (Below w.heap.size w w2) := HI.out.2.trans (hb2.mono HI.out.2.size); clear hb2)
        go_roundw
        case rel => exact ⟨k + 1, by omega, by go_num, (by show _ ∧ _; exact ⟨HA.out, HB2.out⟩)⟩
        case measure => simp [intOf]; omega
      · obtain ⟨t, ht1, ht2, ht3, ht4⟩ := ntz_byB (u := fun b => nzB (S.getD (8 * k + b) 0)) (by rw [← HT.out]; exact hy)
        rw [← HT.out] at ht1
        have HL : Hid (LeS S (8 * k + t)) := LeS.found HOK.out (by rw [HN.out]; exact hlt) ht2 ht3 ht4 HI.out.1
        have hntz := fun w' => ntz_any (255 - y) w' (by omega) (by omega)
        simp only [ht1] at hntz
        have hx1 : IntKind.u8.signed = false := rfl
        have hx2 : IntKind.u8.max = 255 := rfl
        have hx3 : bits .xor .u8 255 y = 255 - y := xor255 hyb.1 hyb.2
        have hx4 : bits .xor .u8 y 255 = 255 - y := xor255' hyb.1 hyb.2
        have hne : (y == 255) = false := by simpa using hy
        have ht8 : t < 8 := ht2
        clear HT ht1 ht2 ht3 ht4 hy
        go_wp2_with (first | (go_at_call 42; refine ht.mono ?_; rintro e w2 ⟨rfl, hb2⟩; have HB2 : Hid (Below w.heap.size w w2) := HI.out.2.trans (hb2.mono HI.out.2.size); clear hb2) | (go_at_call 46; refine (hntz _).mono ?_; rintro e w' ⟨rfl, rfl⟩))
        go_ret
        exact ⟨8 * k + t, (by go_num), HL.out, HB2.out⟩
    · have hk' : k = n := by omega
      subst hk'
      have HL : Hid (LeS S S.length) := LeS.none HOK.out (by rw [HN.out]; exact HI.out.1)
      go_wp2
      go_ret
      exact ⟨S.length, rfl, HL.out, HI.out.2⟩
end
end Go.Proofs.Ytdmahobldghojaa.Oct.Sps
