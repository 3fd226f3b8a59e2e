/-
  The landed index: Edit.
-/
import Derived.Test.YtehomchhflhmbaaXnm
import Derived.Deep.RegionHeld3
namespace Go.Proofs.Ytehomchhflhmbaa.Oct
open Go.RowKit

/-- The lines of what an edit leaves. -/
theorem ends_edit (b zs : List Int) (p o : Nat) (h : p + o ≤ b.length) : endsF 0 (b.take p ++ zs ++ b.drop (p + o)) = endsF 0 (b.take p) ++ endsF (p : Int) zs ++ (endsF ((p + o : Nat) : Int) (b.drop (p + o))).map (· + ((zs.length : Int) - o)) := by
  have hl : (b.take p).length = p := by rw [List.length_take]; omega
  rw [endsF_app, endsF_app, Int.zero_add, Int.zero_add, List.length_append, hl, ← endsF_add]
  congr 2
  omega

theorem edit_len (b zs : List Int) (p o : Nat) (h : p + o ≤ b.length) : (b.take p ++ zs ++ b.drop (p + o)).length + o = b.length + zs.length := by
  rw [List.length_append, List.length_append, List.length_take, List.length_drop]
  omega

section
variable {w w' : World} {s : Nat} {v : Value} {F G : Nat → Prop} {b : List Int}

/-- The rest of a row, cut off. -/
theorem RowI.rest {a : Option Addr} {cap n : Nat} {L : List Int} (h : RowI w a cap L) (hn : L.length = n) {g : Nat} (ha : a = some ⟨g, 0, none⟩) (r : Nat) (hr : r ≤ n) : ∀ x : Addr, (r < n → x = ⟨g, r, none⟩) → RowI w (some x) (cap - r) (L.drop r) := by
  intro x hx
  have h1 := h.1
  have h2 := h.2.1
  refine ⟨by rw [List.length_drop]; omega, by omega, ?_⟩
  by_cases hrn : r < n
  · refine .inr ⟨g, r, by rw [hx hrn], fun i hi => ?_⟩
    rw [List.length_drop] at hi
    obtain ⟨g', off, e, hc⟩ := h.at2 (by omega)
    rw [ha] at e
    simp only [Option.some.injEq, Addr.mk.injEq, and_true] at e
    obtain ⟨rfl, rfl⟩ := e
    have := hc (r + i) (by omega)
    rw [Nat.zero_add] at this
    rw [this, List.getD_eq_getElem?_getD, List.getD_eq_getElem?_getD, List.getElem?_drop]
  · exact .inl (List.drop_eq_nil_of_le (by omega))

set_option maxHeartbeats 4000000 in
theorem iedit (h : Ixl w s F b) (p o : Int) (a : Option Addr) (cap : Nat) (zs : List Int) (n : Nat) (hp : -9223372036854775808 ≤ p ∧ p ≤ 9223372036854775807) (ho : -9223372036854775808 ≤ o ∧ o ≤ 9223372036854775807) (hr : Row w a cap zs) (hn : zs.length = n) (hl : b.length + n ≤ 1000000) :
    Calls Try.prog 10 #[.pointer (some ⟨s, 0, none⟩), .int .i64 p, .int .i64 o, .slice a n cap] w fun e w' => e = .returned (.tuple #[]) ∧ ∃ F', Ixl w' s F' (edL b p o zs) ∧ Step F F' w w' := by
  have hcu := icut h p hp
  obtain ⟨v, h⟩ := h
  have hrd := ready_any h
  obtain ⟨s0, s1, s2, s3⟩ := h.at
  have hlen := h.len
  have hnl := nlC_le b
  have HM : Hid (IxM w s v F b) := h
  have hc1 := hr.2.1
  have hc2 := hr.2.2.1
  unfold maxLen at hc2
  rw [hn] at hc1
  obtain ⟨m, hm⟩ : ∃ m, b.length = m := ⟨_, rfl⟩
  by_cases hbad : p < 0 ∨ o < 0 ∨ (m : Int) < p
  · have HE : Hid (edL b p o zs = b) := by show _ = _; unfold edL; rw [hm, if_pos hbad]
    rw [hm] at s1 hlen
    clear h hr hn s3 hcu hnl hm hl
    rcases (by omega : p < 0 ∨ (0 ≤ p ∧ o < 0) ∨ (0 ≤ p ∧ 0 ≤ o ∧ (m : Int) < p)) with hq | hq | hq
    all_goals (
      clear hbad
      go_enter Try.func10, Try.ntmps10
      go_wp2_with (go_at_call 20; refine hrd.mono ?_; clear hrd; rintro e w1 ⟨rfl, rfl⟩)
      refine bodyPost_ret (results_none rfl _ _ _) rfl ?_
      exact ⟨rfl, F, by rw [HE.out]; exact ⟨_, HM.out⟩, Step.refl _ _⟩)
  · obtain ⟨j, rfl⟩ : ∃ j : Nat, p = (j : Int) := ⟨p.toNat, by omega⟩
    obtain ⟨q, rfl⟩ : ∃ q : Nat, o = (q : Int) := ⟨o.toNat, by omega⟩
    have hjm : j ≤ m := by omega
    by_cases hq : (m : Int) - j < q
    · have HE : Hid (edL b j q zs = cutL b j) := by
        show _ = _
        unfold edL cutL
        rw [hm, if_neg hbad, if_pos hq, if_pos ⟨Int.natCast_nonneg _, by omega⟩]
      rw [hm] at s1 hlen
      clear h hr hn s3 hnl hm hl hbad
      go_enter Try.func10, Try.ntmps10
      go_wp2_with (first
        | (go_at_call 20; refine hrd.mono ?_; clear hrd; rintro e w1 ⟨rfl, rfl⟩)
        | (go_at_call 16; refine hcu.mono ?_; clear hcu; rintro e w1 ⟨rfl, hcu⟩; have HC : Hid _ := hcu; clear hcu))
      refine bodyPost_ret (results_none rfl _ _ _) rfl ?_
      rw [HE.out]
      exact ⟨rfl, HC.out⟩
    · have hjq : j + q ≤ m := by omega
      obtain ⟨B, hB⟩ : ∃ B, b.take j ++ zs ++ b.drop (j + q) = B := ⟨_, rfl⟩
      have HE : Hid (edL b j q zs = B) := by
        show _ = _
        unfold edL
        rw [hm, if_neg hbad, if_neg hq, Int.toNat_natCast, Int.toNat_natCast, hB]
      have HB : Hid (b.take j ++ zs ++ b.drop (j + q) = B) := hB
      clear hB
      have hpair := endsF_pair 0 b
      have hin := ends_in (b := b) (L := 1000000) hlen
      have hel : (endsF 0 b).length ≤ 1000000 := by rw [ends_len]; omega
      have hrow : OwI 0 w.drew v (endsF 0 b) := h.row.keep (fun _ _ => rfl)
      have hah := ahead_any hrow hpair hel (fun z hz => by have := hin z hz; omega) (j : Int) (by omega)
      have HR : Hid (Row w a cap zs ∧ zs.length = n) := ⟨hr, hn⟩
      have hsl := heap_lt h.cells
      have HS : Hid (∀ i, w.frozen? ⟨s, i, none⟩ = false) := s3
      have hown := fun k hk => (h.own k hk).2
      have HX : Hid (b.length = m ∧ j + q ≤ m ∧ m + n ≤ 1000000 ∧ (∀ z ∈ endsF 0 b, 0 ≤ z ∧ z ≤ 1000000) ∧ (endsF 0 b).length ≤ m) := ⟨hm, hjq, by omega, hin, by rw [ends_len]; omega⟩
      rw [hm] at s1 hlen
      have hrow2 := h.row
      clear h hr hn s3 hcu hnl hbad hq hel hin hm
      rcases hrow2 with ⟨rfl, enil⟩ | ⟨g, c, cur, rfl, -, -, -, hcap, -⟩
      · have hri : RowI w.drew none 0 (endsF 0 b) := by rw [enil]; exact ⟨Nat.le_refl _, by simp [maxLen], .inl rfl⟩
        have hwr : IntKind.i64.wrap ((j : Int) + q) = (j : Int) + q := by rw [IntKind.wrap_i64]; omega
        have hu := upTo_any hri hpair (by have := HX.out.2.2.2.2; omega) _ rfl (IntKind.i64.wrap ((j : Int) + q)) (by rw [hwr]; omega) (fun z hz => by have := HX.out.2.2.2.1 z hz; omega)
        have hN := hri.1
        have HI : Hid _ := hri
        clear hpair hri hrow
        have e0 : (endsF 0 b).length = 0 := by rw [enil]; rfl
        rw [e0] at hu hah HX
        have HN : Hid _ := e0
        have HW : Hid _ := hwr
        clear e0 hwr hN enil
        go_enter Try.func10, Try.ntmps10
        go_wp2_with (go_at_call 20; refine hrd.mono ?_; clear hrd; rintro e w0 ⟨rfl, rfl⟩)
        go_region_held3 (fun w' => w'.cell? ⟨s, 2, none⟩ = some (.slice none 0 0)) (first | exact s2 | go_keep) (first
          | (go_at_call 22; refine hu.mono ?_; clear hu; rintro e w1 ⟨r, rfl, hr1, hr2, hr3, rfl⟩
             rw [HW.out] at hr2 hr3
             have e0 : r = 0 := by omega
             subst e0
             have HU : Hid _ := And.intro hr2 hr3
             clear hr2 hr3))
        obtain ⟨-, -, erest⟩ := upto_nl (b := b) (p := j + q) (r := 0) (by rw [HX.out.1]; exact hjq) (by omega) (fun i hi => absurd hi (Nat.not_lt_zero _)) (fun i _ hi => by rw [HN.out] at hi; exact absurd hi (Nat.not_lt_zero _))
        have hrl : endsF ((j + q : Nat) : Int) (b.drop (j + q)) = [] := by rw [← erest]; exact List.eq_nil_of_length_eq_zero HN.out
        have HRL : Hid _ := hrl
        clear erest HU hrl
        go_wp2_with (first
          | (go_at_call 23; refine hah.mono ?_; clear hah; rintro e w1 ⟨r2, v2, rfl, ho2, hq1, hq2, hq3, hq4, hq5, rfl⟩
             obtain ⟨-, e2, -⟩ := upto_nl (b := b) (p := j) (r := r2) (by rw [HX.out.1]; exact hjm) (by rw [HN.out]; exact hq1) hq2 (by rw [HN.out]; exact hq3)
             rw [e2] at ho2
             have hl2 : (endsF 0 (b.take j)).length ≤ 1000000 := by rw [← e2, List.length_take]; have := HX.out; have := HN.out; omega
             have hwt := withTens_full ho2 hq5 (Nat.zero_le _) a cap zs (HR.out.1.below (Below.refl _ w0).drew) n HR.out.2 j (by have := HX.out; omega) (by omega)
             have H2 : Hid (∀ g_1, v2.ownBlock = some g_1 → (Value.slice none 0 0).ownBlock = some g_1) := hq4
             clear ho2 hq1 hq2 hq3 hq4 hq5 e2 hl2)
          | (go_at_call 21; refine hwt.mono ?_; clear hwt; rintro e w1 ⟨v1, rfl, ho1, hb1, hm1⟩
             have hwm := withMoved_any ho1 (Nat.zero_le _) none 0 [] ⟨Nat.le_refl _, by simp [maxLen], .inl rfl⟩ (fun _ => rfl) 0 rfl ((n : Int) - q) (by have := HX.out; omega) (fun z hz => absurd hz (by simp)) (by rw [List.length_append]; have k1 := endsF_len 0 (b.take j); have k2 := List.count_le_length (a := (10 : Int)) (l := b.take j); have k3 := endsF_len (j : Int) zs; have k4 := List.count_le_length (a := (10 : Int)) (l := zs); rw [List.length_take] at k2; have := HX.out; have := HR.out.2; omega)
             have H1 : Hid _ := And.intro hb1 hm1
             clear ho1 hb1 hm1)
          | (go_at_call 24; refine hwm.mono ?_; clear hwm; rintro e w3 ⟨v3, rfl, ho3, hc3, hm3⟩
             have hc0 : Ch w0.heap.size (fun k => (Value.slice none 0 0).ownBlock = some k) w0 w1 := Ch.of _ ⟨H1.out.1.os, H1.out.1.tape, H1.out.1.output, H1.out.1.size, H1.out.1.block⟩
             have hmi : ∀ k, v1.ownBlock = some k → (Value.slice none 0 0).ownBlock = some k ∨ w0.heap.size ≤ k := fun k hk => by
               rcases H1.out.2 k hk with h | h
               · exact .inl (H2.out k h)
               · exact .inr h
             have hsz : w0.heap.size ≤ w1.heap.size := H1.out.1.size
             have hc : Ch w0.heap.size (fun k => (Value.slice none 0 0).ownBlock = some k) w0 w3 := hc0.trans (hc3.mono hsz (fun k hlt hk => (hmi k hk).resolve_right (by omega)))
             have hmine : Mine w0 (.slice none 0 0) v3 := fun k hk => by
               rcases hm3 k hk with h | h
               · exact hmi k h
               · exact .inr (by omega)
             have t21 := (hc.cell (p := ⟨s, 1, none⟩) hsl (fun e => hown s e rfl)).trans s1
             have t22 := (hc.cell (p := ⟨s, 2, none⟩) hsl (fun e => hown s e rfl)).trans s2
             have z1 := (hc.frozen (p := ⟨s, 1, none⟩) hsl (fun e => hown s e rfl)).trans (HS.out 1)
             have z2 := (hc.frozen (p := ⟨s, 2, none⟩) hsl (fun e => hown s e rfl)).trans (HS.out 2)
             have hjq' : j + q ≤ b.length := by rw [HX.out.1]; exact hjq
             have hen := ends_edit b zs j q hjq'
             rw [HR.out.2] at hen
             rw [← HRL.out, ← hen, HB.out] at ho3
             have hel := edit_len b zs j q hjq'
             rw [HB.out] at hel
             have hel2 : (B.length : Int) = (m : Int) + ((n : Int) - q) := by have := HX.out.1; have := HR.out.2; omega
             have HL : Hid _ := HM.out.laid (b' := B) hc ho3 hmine (by have := HX.out; omega)
             rw [hel2] at HL
             obtain ⟨a', c', rfl, -⟩ := ho3.row
             clear hc0 hmi hsz hc hmine hc3 hm3 hen ho3 hel hel2 hjq'))
        refine bodyPost_end (v := .tuple #[]) ?_ ?_ ?_
        · exact results_none rfl _ _ _
        · rfl
        rw [HE.out]
        exact ⟨rfl, HL.out⟩
      · obtain ⟨a1, c1, e, hri⟩ := hrow.row
        simp only [Value.slice.injEq, true_and] at e
        obtain ⟨rfl, rfl⟩ := e
        have hwr : IntKind.i64.wrap ((j : Int) + q) = (j : Int) + q := by rw [IntKind.wrap_i64]; omega
        have hu := upTo_any hri hpair (by have := HX.out.2.2.2.2; omega) _ rfl (IntKind.i64.wrap ((j : Int) + q)) (by rw [hwr]; omega) (fun z hz => by have := HX.out.2.2.2.1 z hz; omega)
        have hN := hri.1
        have HI : Hid _ := hri
        have hcap' := hcap
        unfold maxLen at hcap'
        clear hpair hcap hri hrow
        obtain ⟨N, hNe⟩ : ∃ N, (endsF 0 b).length = N := ⟨_, rfl⟩
        rw [hNe] at hu hah s2 hN HX hown HM
        have HN : Hid _ := hNe
        have HW : Hid _ := hwr
        clear hNe hwr
        go_enter Try.func10, Try.ntmps10
        go_wp2_with (go_at_call 20; refine hrd.mono ?_; clear hrd; rintro e w0 ⟨rfl, rfl⟩)
        go_region_held3 (fun w' => w'.cell? ⟨s, 2, none⟩ = some (.slice (some ⟨g, 0, none⟩) N c)) (first | exact s2 | go_keep) (first
          | (go_at_call 22; refine hu.mono ?_; clear hu; rintro e w1 ⟨r, rfl, hr1, hr2, hr3, rfl⟩
             rw [HW.out] at hr2 hr3
             have HU : Hid _ := And.intro hr2 hr3
             clear hr2 hr3))
        obtain ⟨x, hx⟩ : ∃ x : Addr, (if c = r then some (⟨g, 0, none⟩ : Addr) else some ⟨g, r, none⟩) = some x := by split <;> exact ⟨_, rfl⟩
        rw [hx]
        have hrest := RowI.rest (w := w0.drew) (a := some ⟨g, 0, none⟩) (cap := c) (n := N) (L := endsF 0 b) HI.out HN.out (g := g) rfl r hr1 x (fun hlt => by rw [if_neg (by omega)] at hx; exact (Option.some.inj hx).symm)
        obtain ⟨-, -, erest⟩ := upto_nl (b := b) (p := j + q) (r := r) (by rw [HX.out.1]; exact hjq) (by rw [HN.out]; exact hr1) (by simpa using HU.out.1) (by rw [HN.out]; simpa using HU.out.2)
        rw [erest] at hrest
        have hrl : (endsF ((j + q : Nat) : Int) (b.drop (j + q))).length = N - r := by rw [← erest, List.length_drop, HN.out]
        have HRE : Hid (RowI w0.drew (some x) (c - r) (endsF ((j + q : Nat) : Int) (b.drop (j + q)))) := hrest
        have HRL : Hid _ := hrl
        clear hx hrest erest HU hrl
        go_wp2_with (first
          | (go_at_call 23; refine hah.mono ?_; clear hah; rintro e w1 ⟨r2, v2, rfl, ho2, hq1, hq2, hq3, hq4, hq5, rfl⟩
             obtain ⟨-, e2, -⟩ := upto_nl (b := b) (p := j) (r := r2) (by rw [HX.out.1]; exact hjm) (by rw [HN.out]; exact hq1) hq2 (by rw [HN.out]; exact hq3)
             rw [e2] at ho2
             have hl2 : (endsF 0 (b.take j)).length ≤ 1000000 := by rw [← e2, List.length_take]; have := HX.out; have := HN.out; omega
             have hwt := withTens_full ho2 hq5 (Nat.zero_le _) a cap zs (HR.out.1.below (Below.refl _ w0).drew) n HR.out.2 j (by have := HX.out; omega) (by omega)
             have H2 : Hid (∀ g_1, v2.ownBlock = some g_1 → (Value.slice (some ⟨g, 0, none⟩) N c).ownBlock = some g_1) := hq4
             clear ho2 hq1 hq2 hq3 hq4 hq5 e2 hl2)
          | (go_at_call 21; refine hwt.mono ?_; clear hwt; rintro e w1 ⟨v1, rfl, ho1, hb1, hm1⟩
             have hwm := withMoved_any ho1 (Nat.zero_le _) (some x) (c - r) _ (HRE.out.below hb1) (fun h => absurd h (by simp)) (N - r) HRL.out ((n : Int) - q) (by have := HX.out; omega) (fun z hz => by have := endsF_in hz; rw [List.length_drop] at this; have := HX.out; omega) (by rw [List.length_append]; have k1 := endsF_len 0 (b.take j); have k2 := List.count_le_length (a := (10 : Int)) (l := b.take j); have k3 := endsF_len (j : Int) zs; have k4 := List.count_le_length (a := (10 : Int)) (l := zs); rw [List.length_take] at k2; have := HX.out; have := HR.out.2; omega)
             have H1 : Hid _ := And.intro hb1 hm1
             clear ho1 hb1 hm1)
          | (go_at_call 24; refine hwm.mono ?_; clear hwm; rintro e w3 ⟨v3, rfl, ho3, hc3, hm3⟩
             have hc0 : Ch w0.heap.size (fun k => (Value.slice (some ⟨g, 0, none⟩) N c).ownBlock = some k) w0 w1 := Ch.of _ ⟨H1.out.1.os, H1.out.1.tape, H1.out.1.output, H1.out.1.size, H1.out.1.block⟩
             have hmi : ∀ k, v1.ownBlock = some k → (Value.slice (some ⟨g, 0, none⟩) N c).ownBlock = some k ∨ w0.heap.size ≤ k := fun k hk => by
               rcases H1.out.2 k hk with h | h
               · exact .inl (H2.out k h)
               · exact .inr h
             have hsz : w0.heap.size ≤ w1.heap.size := H1.out.1.size
             have hc : Ch w0.heap.size (fun k => (Value.slice (some ⟨g, 0, none⟩) N c).ownBlock = some k) w0 w3 := hc0.trans (hc3.mono hsz (fun k hlt hk => (hmi k hk).resolve_right (by omega)))
             have hmine : Mine w0 (.slice (some ⟨g, 0, none⟩) N c) v3 := fun k hk => by
               rcases hm3 k hk with h | h
               · exact hmi k h
               · exact .inr (by omega)
             have t21 := (hc.cell (p := ⟨s, 1, none⟩) hsl (fun e => hown s e rfl)).trans s1
             have t22 := (hc.cell (p := ⟨s, 2, none⟩) hsl (fun e => hown s e rfl)).trans s2
             have z1 := (hc.frozen (p := ⟨s, 1, none⟩) hsl (fun e => hown s e rfl)).trans (HS.out 1)
             have z2 := (hc.frozen (p := ⟨s, 2, none⟩) hsl (fun e => hown s e rfl)).trans (HS.out 2)
             have hjq' : j + q ≤ b.length := by rw [HX.out.1]; exact hjq
             have hen := ends_edit b zs j q hjq'
             rw [HR.out.2] at hen
             rw [← hen, HB.out] at ho3
             have hel := edit_len b zs j q hjq'
             rw [HB.out] at hel
             have hel2 : (B.length : Int) = (m : Int) + ((n : Int) - q) := by have := HX.out.1; have := HR.out.2; omega
             have HL : Hid _ := HM.out.laid (b' := B) hc ho3 hmine (by have := HX.out; omega)
             rw [hel2] at HL
             obtain ⟨a', c', rfl, -⟩ := ho3.row
             clear hc0 hmi hsz hc hmine hc3 hm3 hen ho3 hel hel2 hjq'))
        refine bodyPost_end (v := .tuple #[]) ?_ ?_ ?_
        · exact results_none rfl _ _ _
        · rfl
        rw [HE.out]
        exact ⟨rfl, HL.out⟩
end
end Go.Proofs.Ytehomchhflhmbaa.Oct
