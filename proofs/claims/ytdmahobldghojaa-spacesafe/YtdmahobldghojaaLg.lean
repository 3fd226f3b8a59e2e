/-
  The landed space: Alloc, Free, Commit, Abort, Doubt.
-/
import Derived.Test.YtdmahobldghojaaLf
namespace Go.Proofs.Ytdmahobldghojaa.Oct.Sps
open Go.RowKit

section
variable {w w' : World} {s a ca b cb : Nat} {F : Nat → Prop} {S : List Int}

set_option maxHeartbeats 1000000 in
theorem alloc_any (h : Spa w s F S) : Calls Try.prog 10 #[.pointer (some ⟨s, 0, none⟩)] w fun e w' => e = .returned (.tuple #[.int .i64 (alN S), .int .i64 (alE S)]) ∧ ∃ F', Spa w' s F' (alL S) ∧ Step F F' w w' := by
  obtain ⟨a, ca, b, cb, h⟩ := h
  have hm := made_any h
  have hl := least_any h
  have HX : Hid (SpX w s a ca b cb F S) := h
  obtain ⟨n, hn⟩ : ∃ n, (S.length + 7) / 8 = n := ⟨_, rfl⟩
  have HN : Hid ((S.length + 7) / 8 = n) := hn
  clear h hn
  by_cases hf : frI S < S.length
  · have HE : Hid (alN S = (frI S : Int) ∧ alE S = 0 ∧ alL S = S.set (frI S) 2) := by
      show _ ∧ _ ∧ _
      unfold alN alE alL
      rw [if_pos hf, if_pos hf, if_pos hf]
      exact ⟨rfl, rfl, rfl⟩
    have HZ : Hid (S.getD (frI S) 0 = 0) := frI_at hf
    obtain ⟨k, hk⟩ : ∃ k, frI S = k := ⟨_, rfl⟩
    rw [hk] at hf HE HZ
    have HK : Hid (frI S = k) := hk
    have HF : Hid (k < S.length) := hf
    clear hk hf
    go_enter Try.func10, Try.ntmps10
    go_wp2_with (first | (go_at_call 36; refine hm.mono ?_; rintro e w' ⟨rfl, rfl⟩) | (go_at_call 37; refine hl.mono ?_; rintro e w1 ⟨m, rfl, HL, hb1⟩; have hmk : m = k := (HL.out.1 (by rw [HK.out]; exact HF.out)).trans HK.out; subst hmk; have HX1 : Hid (SpX w1 s a ca b cb F S) := HX.out.below hb1; have HB1 : Hid (Below w.heap.size w w1) := hb1; have hh := has_any HX1.out m; rw [show inB S m = true by unfold inB; rw [decide_eq_true (show (0 : Int) ≤ m by omega), decide_eq_true (show (m : Int) < S.length by have := HF.out; omega)]; rfl] at hh; obtain ⟨-, -, c2⟩ := HX1.out.at; rw [HN.out] at c2; clear hb1 HL) | (go_at_call 38; refine hh.mono ?_; clear hh; rintro e w' ⟨rfl, rfl⟩) | (go_at_call 34; have hd := setAdd_any b ((S.length + 7) / 8) cb (bitL S) m w1 HX1.out.next (bitL_bys S) (by rw [bitL_len]; have := HX1.out.ok.hi; omega) (by rw [bitL_len]; have := HF.out; omega); rw [HN.out] at hd; refine hd.mono ?_; clear hd; rintro e w2 ⟨rfl, h2, h3⟩; rw [← HN.out] at h2; have H2 : Hid _ := h2; have H3 : Hid _ := h3; clear h2 h3))
    go_ret2
    rw [HE.out.1, HE.out.2.1, HE.out.2.2]
    exact ⟨rfl, F, ⟨_, _, _, _, HX1.out.take HF.out HZ.out H2.out H3.out⟩, (Step.ofB HB1.out).trans (step_of HX1.out.fb H3.out)⟩
  · have HE : Hid (alN S = 0 ∧ alE S = 6 ∧ alL S = S) := by
      show _ ∧ _ ∧ _
      unfold alN alE alL
      rw [if_neg hf, if_neg hf, if_neg hf]
      exact ⟨rfl, rfl, rfl⟩
    have HF : Hid (¬ frI S < S.length) := hf
    clear hf
    go_enter Try.func10, Try.ntmps10
    go_wp2_with (first | (go_at_call 36; refine hm.mono ?_; rintro e w' ⟨rfl, rfl⟩) | (go_at_call 37; refine hl.mono ?_; rintro e w1 ⟨m, rfl, HL, hb1⟩; have HX1 : Hid (SpX w1 s a ca b cb F S) := HX.out.below hb1; have HB1 : Hid (Below w.heap.size w w1) := hb1; have hh := has_any HX1.out m; rw [show inB S m = false by unfold inB; rw [decide_eq_true (show (0 : Int) ≤ m by omega), decide_eq_false (show ¬ (m : Int) < S.length by have := HL.out.2.1 HF.out; omega)]; rfl] at hh; clear hb1 HL) | (go_at_call 38; refine hh.mono ?_; clear hh; rintro e w' ⟨rfl, rfl⟩))
    go_ret2
    rw [HE.out.1, HE.out.2.1, HE.out.2.2]
    exact ⟨rfl, F, ⟨_, _, _, _, HX1.out⟩, Step.ofB HB1.out⟩

set_option maxHeartbeats 1000000 in
theorem free_any (h : Spa w s F S) : Calls Try.prog 13 #[.pointer (some ⟨s, 0, none⟩)] w fun e w' => e = .returned (.int .i64 (S.count 0)) ∧ Below w.heap.size w w' := by
  obtain ⟨a, ca, b, cb, h⟩ := h
  have hm := made_any h
  obtain ⟨c0, c1, c2⟩ := h.at
  have hhi := h.ok.hi
  have HX : Hid (∀ w', Below w.heap.size w w' → SpX w' s a ca b cb F S) := fun w' hb => h.below hb
  obtain ⟨n, hn⟩ : ∃ n, (S.length + 7) / 8 = n := ⟨_, rfl⟩
  have HN : Hid ((S.length + 7) / 8 = n) := hn
  have hn1 : n ≤ 1000 := by omega
  have hsl : S.length ≤ 5000 := by omega
  rw [hn] at c1 c2
  clear h hn hhi
  go_enter Try.func13, Try.ntmps13
  go_wp2_with (go_at_call 36; refine hm.mono ?_; rintro e w' ⟨rfl, rfl⟩)
  go_loopw [3, 17] (fun v i wr => ∃ k : Nat, k ≤ n ∧ i = .int .i64 k ∧ v = .int .i64 ((S.length : Int) - nzC S (8 * k)) ∧ Hid (Below w.heap.size w wr)) (fun _ i _ => n - (intOf i).toNat)
  case atStart => exact ⟨0, Nat.zero_le _, rfl, (by simp [nzC]), Below.refl _ _⟩
  case round =>
    obtain ⟨k, hk, rfl, rfl, HI⟩ := hrel
    obtain ⟨d0, d1, d2⟩ := (HX.out wr HI.out).at
    rw [HN.out] at d1 d2
    by_cases hlt : k < n
    · have ht := taken_any (HX.out wr HI.out) k (by rw [HN.out]; exact hlt)
      have hyb := byB_in (fun b => nzB (S.getD (8 * k + b) 0))
      have hon := fun w' => ones_any (tkY S k) w' hyb.1 hyb.2
      have HZ : Hid (nzC S (8 * (k + 1)) = nzC S (8 * k) + (Lib.onesCount (tkY S k).toNat : Int)) := nzC_8 S k
      have hc1 := nzC_in S (8 * k)
      obtain ⟨y, hy⟩ : ∃ y, tkY S k = y := ⟨_, rfl⟩
      obtain ⟨o, ho⟩ : ∃ o, Lib.onesCount (tkY S k).toNat = o := ⟨_, rfl⟩
      have ho8 : o ≤ 8 := by have := Lib.onesCount_le8 ⟨(tkY S k).toNat, (by have : 0 ≤ tkY S k ∧ tkY S k ≤ 255 := hyb; omega)⟩; rw [← ho]; exact this
      simp only [ho] at hon
      rw [ho] at HZ
      rw [hy] at ht hon
      obtain ⟨x, hx⟩ : ∃ x, nzC S (8 * k) = x := ⟨_, rfl⟩
      rw [hx] at HZ hc1 ⊢
      clear hy ho hyb hx
      go_wp2_with (first | (go_at_call 42; refine ht.mono ?_; rintro e w2 ⟨rfl, hb2⟩; have HB2 : Hid (Below w.heap.size w w2) := HI.out.trans (hb2.mono HI.out.size); clear hb2) | (go_at_call 41; refine (hon _).mono ?_; rintro e w' ⟨rfl, rfl⟩))
      go_roundw
      case rel => exact ⟨k + 1, by omega, by go_num, (by rw [HZ.out, ← Int.sub_sub]), HB2.out⟩
      case measure => simp [intOf]; omega
    · have hk' : k = n := by omega
      subst hk'
      have HE : Hid ((S.length : Int) - nzC S (8 * k) = S.count 0) := by
        show _ = _
        rw [nzC_ge S (8 * k) (by have := HN.out; omega), nzC_all]
      rw [HE.out]
      go_wp2
      go_ret
      exact ⟨rfl, HI.out⟩

theorem row_src {g c : Nat} {zs : List Int} (h : Row w (some ⟨g, 0, none⟩) c zs) : ∀ (j : Nat) (u : Value), (zs.map (Value.int .u8))[j]? = some u → w.cell? ((⟨g, 0, none⟩ : Addr).add j) = some u := fun j u hj => by
  have hlt : j < zs.length := by
    rcases Nat.lt_or_ge j zs.length with e | e
    · exact e
    · rw [List.getElem?_eq_none (by simpa using e)] at hj; cases hj
  have e1 := h.cells j hlt
  rw [Nat.zero_add] at e1
  rw [show (⟨g, 0, none⟩ : Addr).add j = ⟨g, j, none⟩ by unfold Addr.add; split <;> simp_all, e1]
  rw [List.getElem?_map, List.getElem?_eq_getElem hlt] at hj
  rw [List.getD_eq_getElem?_getD, List.getElem?_eq_getElem hlt]
  exact hj
theorem one_cells' (zs : List Int) : ∀ v ∈ zs.map (Value.int .u8), v.oneCell' = true := fun v hv => by
  obtain ⟨z, _, rfl⟩ := List.mem_map.1 hv
  rfl

set_option maxHeartbeats 1000000 in
set_option maxRecDepth 20000 in
theorem commit_any (h : Spa w s F S) : Calls Try.prog 12 #[.pointer (some ⟨s, 0, none⟩)] w fun e w' => e = .returned (.tuple #[]) ∧ ∃ F', Spa w' s F' (trS 1 0 S) ∧ Step F F' w w' := by
  obtain ⟨a, ca, b, cb, h⟩ := h
  have hm := made_any h
  obtain ⟨-, c1, c2⟩ := h.at
  have HS : Hid (∀ (j : Nat) (u : Value), ((bitL S).map (Value.int .u8))[j]? = some u → w.cell? ((⟨b, 0, none⟩ : Addr).add j) = some u) := row_src h.rowB
  obtain ⟨cur, q1, q2, q3⟩ := own_whole (cs := bitL S) h.last (bitL_len S)
  have HL : Hid (((bitL S).map (Value.int .u8)).length = Nat.min ((S.length + 7) / 8) ((S.length + 7) / 8)) := by show _ = _; rw [List.length_map, bitL_len]; exact (Nat.min_self _).symm
  have Q1 : Hid (w.heap[a]? = some (.cells cur 5 (0, 0))) := q1
  have Q2 : Hid (0 + ((bitL S).map (Value.int .u8)).length ≤ cur.size) := by show _ ≤ _; omega
  obtain ⟨X, hX⟩ : ∃ X, (cur.toList.take 0 ++ ((bitL S).map (Value.int .u8) ++ cur.toList.drop (0 + ((bitL S).map (Value.int .u8)).length))).toArray = X := ⟨_, rfl⟩
  rw [hX] at q3
  have HXX : Hid ((cur.toList.take 0 ++ ((bitL S).map (Value.int .u8) ++ cur.toList.drop (0 + ((bitL S).map (Value.int .u8)).length))).toArray = X) := hX
  have Q3 : Hid (Own 0 (w.setRow a X) (.slice (some ⟨a, 0, none⟩) ((S.length + 7) / 8) ca) (bitL S)) := q3
  have HX : Hid (SpX w s a ca b cb F S) := h
  obtain ⟨n, hn⟩ : ∃ n, (S.length + 7) / 8 = n := ⟨_, rfl⟩
  rw [hn] at c1 c2 HL
  clear h q1 q2 q3 hn hX
  go_enter Try.func12, Try.ntmps12
  go_wp2_with (go_at_call 36; refine hm.mono ?_; rintro e w' ⟨rfl, rfl⟩)
  go_still_tail 8, (by kernel_rfl)
  refine wpList_copy_own (by rfl) (.tmp 7) (.tmp 11) 55 55 (by rfl) 5 Try.underlying55 size5 a 0 n ca ⟨b, 0, none⟩ n cb (by rfl) (by rfl) cur 5 Q1.out ((bitL S).map (Value.int .u8)) HL.out HS.out Q2.out (one_cells' _) ?_
  rw [HXX.out]
  go_wp2
  go_end0
  exact ⟨rfl, F, ⟨a, ca, b, cb, (HX.out.last' (Nat.le_of_eq (by simp [World.setRow])) (fun g _ hg => setRow_other w a g _ hg) (trS_len _ _ _) (trS_ok HX.out.ok (by omega) (by omega)) (commit_bit HX.out.ok) (by rw [commit_las HX.out.ok]; exact Q3.out)).below ⟨rfl, rfl, rfl, Nat.le_refl _, fun _ _ => rfl⟩⟩, Step.of (((Ch.refl _ F w).setRow (.inr HX.out.fa) _).trans ⟨rfl, rfl, rfl, Nat.le_refl _, fun _ _ _ => rfl⟩)⟩

set_option maxHeartbeats 1000000 in
set_option maxRecDepth 20000 in
theorem abort_any (h : Spa w s F S) : Calls Try.prog 20 #[.pointer (some ⟨s, 0, none⟩)] w fun e w' => e = .returned (.tuple #[]) ∧ ∃ F', Spa w' s F' (trS 0 1 S) ∧ Step F F' w w' := by
  obtain ⟨a, ca, b, cb, h⟩ := h
  have hm := made_any h
  obtain ⟨-, c1, c2⟩ := h.at
  have HS : Hid (∀ (j : Nat) (u : Value), ((lasL S).map (Value.int .u8))[j]? = some u → w.cell? ((⟨a, 0, none⟩ : Addr).add j) = some u) := row_src h.rowA
  obtain ⟨cur, q1, q2, q3⟩ := own_whole (cs := lasL S) h.next (lasL_len S)
  have HL : Hid (((lasL S).map (Value.int .u8)).length = Nat.min ((S.length + 7) / 8) ((S.length + 7) / 8)) := by show _ = _; rw [List.length_map, lasL_len]; exact (Nat.min_self _).symm
  have Q1 : Hid (w.heap[b]? = some (.cells cur 5 (0, 0))) := q1
  have Q2 : Hid (0 + ((lasL S).map (Value.int .u8)).length ≤ cur.size) := by show _ ≤ _; omega
  obtain ⟨X, hX⟩ : ∃ X, (cur.toList.take 0 ++ ((lasL S).map (Value.int .u8) ++ cur.toList.drop (0 + ((lasL S).map (Value.int .u8)).length))).toArray = X := ⟨_, rfl⟩
  rw [hX] at q3
  have HXX : Hid ((cur.toList.take 0 ++ ((lasL S).map (Value.int .u8) ++ cur.toList.drop (0 + ((lasL S).map (Value.int .u8)).length))).toArray = X) := hX
  have Q3 : Hid (Own 0 (w.setRow b X) (.slice (some ⟨b, 0, none⟩) ((S.length + 7) / 8) cb) (lasL S)) := q3
  have HX : Hid (SpX w s a ca b cb F S) := h
  obtain ⟨n, hn⟩ : ∃ n, (S.length + 7) / 8 = n := ⟨_, rfl⟩
  rw [hn] at c1 c2 HL
  clear h q1 q2 q3 hn hX
  go_enter Try.func20, Try.ntmps20
  go_wp2_with (go_at_call 36; refine hm.mono ?_; rintro e w' ⟨rfl, rfl⟩)
  go_still_tail 8, (by kernel_rfl)
  refine wpList_copy_own (by rfl) (.tmp 7) (.tmp 11) 55 55 (by rfl) 5 Try.underlying55 size5 b 0 n cb ⟨a, 0, none⟩ n ca (by rfl) (by rfl) cur 5 Q1.out ((lasL S).map (Value.int .u8)) HL.out HS.out Q2.out (one_cells' _) ?_
  rw [HXX.out]
  go_wp2
  go_end0
  exact ⟨rfl, F, ⟨a, ca, b, cb, (HX.out.next' (Nat.le_of_eq (by simp [World.setRow])) (fun g _ hg => setRow_other w b g _ hg) (trS_len _ _ _) (trS_ok HX.out.ok (by omega) (by omega)) (abort_las HX.out.ok) (by rw [abort_bit HX.out.ok]; exact Q3.out)).below ⟨rfl, rfl, rfl, Nat.le_refl _, fun _ _ => rfl⟩⟩, Step.of (((Ch.refl _ F w).setRow (.inr HX.out.fb) _).trans ⟨rfl, rfl, rfl, Nat.le_refl _, fun _ _ _ => rfl⟩)⟩

set_option maxHeartbeats 1000000 in
theorem doubt_any (h : Spa w s F S) : Calls Try.prog 18 #[.pointer (some ⟨s, 0, none⟩)] w fun e w' => e = .returned (.tuple #[]) ∧ ∃ F', Spa w' s F' (trS 1 3 S) ∧ Step F F' w w' := by
  obtain ⟨a, ca, b, cb, h⟩ := h
  have hm := made_any h
  obtain ⟨c0, c1, c2⟩ := h.at
  have hhi := h.ok.hi
  have HX : Hid (SpX w s a ca b cb F S) := h
  obtain ⟨n, hn⟩ : ∃ n, (S.length + 7) / 8 = n := ⟨_, rfl⟩
  have HN : Hid ((S.length + 7) / 8 = n) := hn
  have hn1 : n ≤ 1000 := by omega
  obtain ⟨-, -, k1, k2, -⟩ := h.last.cur
  obtain ⟨-, -, k3, k4, -⟩ := h.next.cur
  rw [hn] at c1 c2 k1 k3
  unfold maxLen at k2 k4
  have HO : Hid (Own 0 w (.slice (some ⟨a, 0, none⟩) n ca) (orK S 0)) := by show Own _ _ _ _; rw [orK_zero, ← hn]; exact h.last
  clear h hn hhi
  go_enter Try.func18, Try.ntmps18
  go_wp2_with (go_at_call 36; refine hm.mono ?_; rintro e w' ⟨rfl, rfl⟩)
  go_loopw [11] (fun i wr => ∃ k : Nat, k ≤ n ∧ i = .int .i64 k ∧ Hid (Own 0 wr (.slice (some ⟨a, 0, none⟩) n ca) (orK S k) ∧ Ch w.heap.size (fun x => x = a) w wr)) (fun i _ => n - (intOf i).toNat)
  case atStart => exact ⟨0, Nat.zero_le _, rfl, (by show _ ∧ _; exact ⟨HO.out, Ch.refl _ _ _⟩)⟩
  case round =>
    clear HO
    obtain ⟨k, hk, rfl, HI⟩ := hrel
    have hsw : ∀ p : Addr, p.block = s → wr.cell? p = w.cell? p := fun p hp => HI.out.2.cell (by rw [hp]; exact HX.out.lt s HX.out.fs) (by rw [hp]; exact HX.out.sa)
    have d1 := (hsw ⟨s, 1, none⟩ rfl).trans c1
    have d2 := (hsw ⟨s, 2, none⟩ rfl).trans c2
    clear hsw
    by_cases hlt : k < n
    · have hkl : k < (S.length + 7) / 8 := by rw [HN.out]; exact hlt
      obtain ⟨-, e1, e2, e3⟩ := own_at' HI.out.1 k (by rw [orK_len]; exact hkl)
      have f1 := HX.out.rowB.cells k (by rw [bitL_len]; exact hkl)
      rw [Nat.zero_add] at f1
      have f2 := (HI.out.2.cell (p := ⟨b, k, none⟩) (HX.out.lt b HX.out.fb) (fun e => HX.out.ab e.symm)).trans f1
      have HSu : Hid (orK S (k + 1) = (orK S k).set k (bits .or .u8 ((lasL S).getD k 0) ((bitL S).getD k 0))) := orK_succ HX.out.ok hkl
      have hxb := (lasL_bys S).at k
      have hyb := (bitL_bys S).at k
      rw [orK_at hkl] at e1
      obtain ⟨x, hx⟩ : ∃ x, (lasL S).getD k 0 = x := ⟨_, rfl⟩
      obtain ⟨y, hy⟩ : ∃ y, (bitL S).getD k 0 = y := ⟨_, rfl⟩
      rw [hx] at e1 HSu hxb
      rw [hy] at f2 HSu hyb
      have HW : Hid (∀ y : Int, Own 0 (wr.setCell ⟨a, k, none⟩ (.int .u8 y)) (.slice (some ⟨a, 0, none⟩) n ca) ((orK S k).set k y)) := e3
      clear hx hy e3 f1 hkl c0 c1 c2
      go_wp2
      go_roundw
      case rel => exact ⟨k + 1, by omega, by go_num, (by show _ ∧ _; rw [HSu.out]; exact ⟨HW.out _, (HI.out.2.setCell (p := ⟨a, k, none⟩) (.inr rfl) _)⟩)⟩
      case measure => simp [intOf]; omega
    · have hk' : k = n := by omega
      subst hk'
      have HO : Hid (Own 0 wr (.slice (some ⟨a, 0, none⟩) ((S.length + 7) / 8) ca) (lasL (trS 1 3 S))) := by
        show Own _ _ _ _
        have := HI.out.1
        rw [← HN.out, orK_all] at this
        exact this
      go_wp2
      go_end0
      exact ⟨rfl, F, ⟨a, ca, b, cb, HX.out.last' HI.out.2.size (fun g hg ha => HI.out.2.block g (HX.out.lt g hg) ha) (trS_len _ _ _) (trS_ok HX.out.ok (by omega) (by omega)) (doubt_bit HX.out.ok) HO.out⟩, step_of HX.out.fa HI.out.2⟩
end
end Go.Proofs.Ytdmahobldghojaa.Oct.Sps
