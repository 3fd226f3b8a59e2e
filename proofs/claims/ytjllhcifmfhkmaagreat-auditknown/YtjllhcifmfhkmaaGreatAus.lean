/-
  The program's audit: survey.
-/
import Derived.Test.YtjllhcifmfhkmaaGreatAuq
import Derived.Test.YtjllhcifmfhkmaaGreatUd
import Derived.RegionTactic
import Derived.BigRegion
import Derived.ChangeAlike
import Derived.Defers
import Derived.Recover
import Derived.Test.YtjllhcifmfhkmaaGreatR
import Derived.Test.YtjllhcifmfhkmaaGreatRn
import Derived.Test.YtjllhcifmfhkmaaGreatQk
import Derived.Test.YtjllhcifmfhkmaaGreatKd
import Derived.Deep.LoopGhost
namespace Go.Proofs.YtjllhcifmfhkmaaGreat.Oct
open Go.RowKit

attribute [local go_sem ↓] StP_eq LdP_eq

set_option maxHeartbeats 4000000 in
set_option maxRecDepth 20000 in
theorem survey_p {w : World} {d N : Nat} {FD : Nat → Prop} {D0 : Dv} {L : List Int} (hd : Dev w d FD D0) (hL : D0.now = L) (hN : D0.n = N) (hops : D0.ops ≤ 1000000000000) (S : Sp) (hS : okS S = true) (hp : S.p = (N : Int)) :
    Calls Tryz.prog 29 #[.pointer (some ⟨d, 0, none⟩), spV S] w fun e w' => SvE w d FD D0 L N S e w' := by
  have HOK : Hid (∀ T x, suT L S = some T → x ∈ T.pc → okC false x = true) := fun T x hT hx => su_okC (by rw [← hL]; exact hd.1.bnow) hT hx
  obtain ⟨i0, hi0, hz0, hz1', hz2'⟩ := info_parts info4b
  have hmm := @run_makeMap Tryz.prog
  have hn4 : 8 ≤ N ∧ N ≤ 4096 := by have := hd.1.n4; have := hd.1.n8; omega
  have hm : N ≤ maxLen := by unfold maxLen; omega
  have HDV : Hid (Dev (spx w S).drew d FD D0) := hd.below (spx_below w S).drew
  have HB : Hid (Below w.heap.size w (spx w S)) := spx_below w S
  have HN : Hid (D0.n = N) := hN
  have HDL : Hid (∀ k, FD k → k < w.heap.size) := hd.2.1
  have HL : Hid (D0.now = L ∧ D0.ops ≤ 1000000000000 ∧ okS S = true ∧ S.p = (N : Int)) := ⟨hL, hops, hS, hp⟩
  have HSZ : Hid ((spx w S).heap.size = w.heap.size + 2 ∧ (spx w S).heap[w.heap.size]? = some (.cells (spC' S) 28 (0, 0)) ∧ (spx w S).heap[w.heap.size + 1]? = some (.cells rpt0 33 (0, 0))) := ⟨by simp [spx], heap_alloc2_old w _ _, heap_alloc2_new w _ _⟩
  have hp1 : (spx w S).cell? ⟨w.heap.size, 1, none⟩ = some (.int .i64 (N : Int)) := by unfold spx; rw [cell_of_row _ _ _ (spC' S) 28 (0, 0) (heap_alloc2_old w _ _), ← hp]; rfl
  unfold spV
  clear hd hN hL hops hS hp
  go_enter Tryz.func29, Tryz.ntmps29
  go_upto_region 1 with fail
  rw [show ((w.alloc (.cells #[.int .i64 S.g, .int .i64 S.p, .int .i64 S.r, .int .i64 S.h, .int .i64 S.b, .int .i64 S.l, .int .i64 S.s, .int .i64 S.f] 28)).alloc (.cells #[.int .i64 0, .int .i64 0, .int .i64 0, .int .i64 0, .int .i64 0, .int .i64 0, .int .i64 0, .int .i64 0, .int .i64 0, .slice none 0 0, .slice none 0 0, .slice none 0 0, .slice none 0 0] 33)) = spx w S from rfl]
  generalize spx w S = ws at hp1 HDV HB HSZ ⊢
  refine wp_region_held_drew (S := (fun w' => w'.cell? ⟨w.heap.size, 1, none⟩ = some (.int .i64 (N : Int)))) (by kernel_rfl) ?_ (fun hHeld => ?_)
  · (first | go_keep | assumption)
  refine wpAnyH_take (i := 0) (v := ?_) rfl (by kernel_rfl) (by kernel_rfl) (by kernel_rfl) (fun _ _ _ h => h) (Or.inl ⟨by rfl, ?_⟩) (by assumption) ?_
  rotate_left
  · (first | (intro w hSw; (try dsimp only at hSw); go_simp; done) | (intro w hSw; (try dsimp only at hSw); go_simp; with_reducible rfl))
  simp only [List.getElem_toArray, List.getElem_cons_zero, Act.put, List.setIfInBounds_toArray, List.set_cons_zero, List.set_cons_succ]
  refine wpAnyH_take (i := 1) (v := ?_) rfl (by kernel_rfl) (by kernel_rfl) (by kernel_rfl) (fun _ _ _ h => h) (Or.inl ⟨by rfl, ?_⟩) (by assumption) ?_
  rotate_left
  · (first | (intro w hSw; (try dsimp only at hSw); go_simp; done) | (intro w hSw; (try dsimp only at hSw); go_simp; with_reducible rfl))
  simp only [List.getElem_toArray, List.getElem_cons_succ, List.getElem_cons_zero, Act.put, List.setIfInBounds_toArray, List.set_cons_zero, List.set_cons_succ]
  refine wpAnyH_take (i := 2) (v := ?_) rfl (by kernel_rfl) (by kernel_rfl) (by kernel_rfl) (fun _ _ _ h => h) (Or.inl ⟨by rfl, ?_⟩) (by assumption) ?_
  rotate_left
  · (first | (intro w hSw; (try dsimp only at hSw); go_simp; done) | (intro w hSw; (try dsimp only at hSw); go_simp; with_reducible rfl))
  simp only [List.getElem_toArray, List.getElem_cons_succ, List.getElem_cons_zero, Act.put, List.setIfInBounds_toArray, List.set_cons_zero, List.set_cons_succ]
  refine wpAnyH_ready (rs := [3]) (by kernel_rfl) (by simp) ?_
  refine AllReadyH.cons rfl (fun K hK => ?_) AllReadyH.nil
  go_simp
  refine (pages_any HDV.out).mono ?_
  rintro e w' ⟨rfl, rfl⟩
  rw [HN.out]
  go_wp2_with fail
  refine hK.out _ _ ?_ (fun hHeld2 => ?_)
  · (first | go_keep | assumption)
  clear hK K hHeld
  have hHeld := hHeld2
  clear hHeld2
  refine wpAnyH_take (i := 4) (v := ?_) rfl (by kernel_rfl) (by kernel_rfl) (by kernel_rfl) (fun _ _ _ h => h) (Or.inl ⟨by rfl, ?_⟩) (by assumption) ?_
  rotate_left
  · (first | (intro w hSw; (try dsimp only at hSw); go_simp; done) | (intro w hSw; (try dsimp only at hSw); go_simp; with_reducible rfl))
  simp only [List.getElem_toArray, List.getElem_cons_succ, List.getElem_cons_zero, Act.put, List.setIfInBounds_toArray, List.set_cons_zero, List.set_cons_succ]
  refine wpAnyH_ready (rs := [5]) (by kernel_rfl) (by simp) ?_
  refine AllReadyH.cons rfl (fun K hK => ?_) AllReadyH.nil
  go_simp
  refine (demand_yes ws.drew).mono ?_
  rintro e w' ⟨rfl, rfl⟩
  go_wp2_with fail
  refine hK.out _ _ ?_ (fun hHeld2 => ?_)
  · (first | go_keep | assumption)
  clear hK K hHeld hHeld2
  refine wpAnyH_done (by kernel_rfl) ?_ _
  have HZ : Hid (Dev ws.drew d FD D0 ∧ Below w.heap.size w ws.drew ∧ ws.heap.size = w.heap.size + 2 ∧ ws.drew.heap[w.heap.size]? = some (.cells (spC' S) 28 (0, 0)) ∧ ws.drew.heap[w.heap.size + 1]? = some (.cells rpt0 33 (0, 0))) := ⟨HDV.out, HB.out.drew, HSZ.out.1, HSZ.out.2.1, HSZ.out.2.2⟩
  have hz1 : ws.drew.cell? ⟨w.heap.size, 1, none⟩ = some (.int .i64 (N : Int)) := hp1
  clear hp1 HDV HB HSZ
  have hzs : ws.drew.heap.size = w.heap.size + 2 := HZ.out.2.2.1
  generalize ws.drew = wy at hz1 HZ hzs ⊢
  go_upto_region 3 with (at_make; refine wpList_make_full _ rfl _ _ 118 rfl wy.heap.size 4 i0 (.bool false) 1 Tryz.underlying118 hi0 hz0 hz1' .i64 .i64 _ _ N rfl rfl rfl rfl (by rw [hz2']; omega) hm (Nat.le_refl _) ?_; intro w1 hown1 hgrow1; have HO : Hid (OwnL wy.heap.size w1 (.slice (some ⟨wy.heap.size, 0, none⟩) N N) (List.replicate N false) ∧ Below wy.heap.size wy w1) := ⟨made_ownL hown1, (Below.refl _ wy).grown hgrow1 (Nat.le_refl _) (by simp)⟩; clear hown1 hgrow1)
  obtain ⟨w2, hw2⟩ : ∃ w2, ((w1.alloc (.map #[] 0)).alloc (.cells #[.pointer (some ⟨d, 0, none⟩), .slice (some ⟨w.heap.size + 2, 0, none⟩) N N, .slice none 0 0, .map (some w1.heap.size)] 121)) = w2 := ⟨_, rfl⟩
  rw [hw2]
  have HPN : Hid (pgN L = N) := by
    have h1 := HZ.out.1.1.now
    rw [HL.out.1] at h1
    show _ = _
    unfold pgN
    have := HN.out
    omega
  have H2 : Hid (PWA w2 (w1.heap.size + 1) d (fun k => FD k ∨ k = w1.heap.size + 1 ∨ k = w.heap.size + 2 ∨ k = w1.heap.size) D0 L (rN L) [] [] ∧ Below wy.heap.size wy w2) := by
    have hb1 : Below wy.heap.size wy (w1.alloc (.map #[] 0)) := HO.out.2.alloc HO.out.2.size _
    have hb2 : Below wy.heap.size wy w2 := by rw [← hw2]; exact hb1.alloc hb1.size _
    have hlt := HO.out.1.cap.2.2.2.1
    have ho := HO.out.1
    rw [hzs] at hlt ho
    refine ⟨?_, hb2⟩
    unfold rN
    rw [HPN.out]
    refine pw_new HZ.out.1 HL.out.1 HN.out HL.out.2.1 hb2 ?_ ?_ ?_ ?_ ?_ ?_ ?_ ?_ ?_
    · rw [← hw2]
      exact heap_alloc2_new w1 _ _
    · rw [hzs]
      refine ho.kept ?_
      rw [← hw2]
      exact (heap_alloc_old _ _ (by simp; omega)).trans (heap_alloc_old _ _ hlt)
    · refine (heldV_new w1).keep ?_
      rw [← hw2]
      exact heap_alloc_old _ _ (by simp)
    · omega
    · omega
    · omega
    · omega
    · omega
    · omega
  have HS2 : Hid (w2.heap[w.heap.size]? = some (.cells (spC' S) 28 (0, 0)) ∧ w2.heap[w.heap.size + 1]? = some (.cells rpt0 33 (0, 0)) ∧ Step FD (fun k => FD k ∨ k = w1.heap.size + 1 ∨ k = w.heap.size + 2 ∨ k = w1.heap.size) w w2 ∧ w.heap.size + 2 ≤ w1.heap.size) := by
    have h1 := HO.out.2.size
    have h2 := H2.out.2
    refine ⟨(h2.block _ (by omega)).trans HZ.out.2.2.2.1, (h2.block _ (by omega)).trans HZ.out.2.2.2.2, ⟨Ch.of FD (HZ.out.2.1.trans (h2.mono HZ.out.2.1.size)), fun k hk => ?_⟩, by omega⟩
    rcases hk with h | h | h | h
    · exact .inl h
    · right; omega
    · right; omega
    · right; omega
  have htr := tree_p H2.out.1 S HL.out.2.2.1 (by rw [rN_len, HPN.out]; exact HL.out.2.2.2) (Nat.zero_le _)
  unfold spV at htr
  have HPA : Hid (PWA w2 (w1.heap.size + 1) d (fun k => FD k ∨ k = w1.heap.size + 1 ∨ k = w.heap.size + 2 ∨ k = w1.heap.size) D0 L (rN L) [] []) := H2.out.1
  have HFQ : Hid (∀ k, (FD k ∨ k = w1.heap.size + 1 ∨ k = w.heap.size + 2 ∨ k = w1.heap.size) → ¬ k = w.heap.size ∧ ¬ k = w.heap.size + 1) := fun k hk => by
    have h1 := HS2.out.2.2.2
    rcases hk with h | h | h | h
    · have := HDL.out k h
      constructor <;> omega
    · constructor <;> omega
    · constructor <;> omega
    · constructor <;> omega
  clear hw2 H2 HO HZ hzs hz1 hmm hi0 hz0 hz1' hz2' hm i0
  obtain ⟨F2, hF2⟩ : ∃ F2 : Nat → Prop, (fun k => FD k ∨ k = w1.heap.size + 1 ∨ k = w.heap.size + 2 ∨ k = w1.heap.size) = F2 := ⟨_, rfl⟩
  rw [hF2] at htr HPA HS2
  have HFR : Hid (∀ k, F2 k → ¬ k = w.heap.size ∧ ¬ k = w.heap.size + 1) := fun k hk => HFQ.out k (by rw [← hF2] at hk; exact hk)
  clear hF2 HFQ
  have s0 : w2.cell? ⟨w.heap.size, 0, none⟩ = some (.int .i64 S.g) := by rw [cell_of_row w2 _ _ _ _ (0, 0) HS2.out.1]; rfl
  have s1 : w2.cell? ⟨w.heap.size, 1, none⟩ = some (.int .i64 S.p) := by rw [cell_of_row w2 _ _ _ _ (0, 0) HS2.out.1]; rfl
  have s2 : w2.cell? ⟨w.heap.size, 2, none⟩ = some (.int .i64 S.r) := by rw [cell_of_row w2 _ _ _ _ (0, 0) HS2.out.1]; rfl
  have s3 : w2.cell? ⟨w.heap.size, 3, none⟩ = some (.int .i64 S.h) := by rw [cell_of_row w2 _ _ _ _ (0, 0) HS2.out.1]; rfl
  have s4 : w2.cell? ⟨w.heap.size, 4, none⟩ = some (.int .i64 S.b) := by rw [cell_of_row w2 _ _ _ _ (0, 0) HS2.out.1]; rfl
  have s5 : w2.cell? ⟨w.heap.size, 5, none⟩ = some (.int .i64 S.l) := by rw [cell_of_row w2 _ _ _ _ (0, 0) HS2.out.1]; rfl
  have s6 : w2.cell? ⟨w.heap.size, 6, none⟩ = some (.int .i64 S.s) := by rw [cell_of_row w2 _ _ _ _ (0, 0) HS2.out.1]; rfl
  have s7 : w2.cell? ⟨w.heap.size, 7, none⟩ = some (.int .i64 S.f) := by rw [cell_of_row w2 _ _ _ _ (0, 0) HS2.out.1]; rfl
  go_wp2_with fail
  refine htr.mono ?_
  clear htr
  rintro e w3 hE3
  obtain ⟨p, hp⟩ : ∃ p, w1.heap.size + 1 = p := ⟨_, rfl⟩
  rw [hp] at HPA hE3 ⊢
  clear hp
  rcases hE3 with ⟨T, F3, rfl, hsu, hfr, ⟨hTb, hTl⟩, hpw, hpl, st⟩ | hbad
  rotate_left
  · have HE : Hid (SvE w d FD D0 L N S e w3) := by
      have := hbad.mono (no' := ∀ r, ¬ Su L S r) HS2.out.2.2.1 (fun hno r => su_no1 hno r)
      rw [rN_len, HPN.out] at this
      exact .inr this
    rcases hbad.is with rfl | rfl
    · unfold thrA at HE ⊢
      clear hbad
      go_wp2
      exact ⟨rfl, HE.out⟩
    · unfold thrA at HE ⊢
      clear hbad
      go_wp2
      exact ⟨rfl, HE.out⟩
  rw [List.nil_append] at hpw hpl
  have H3 : Hid (suT L S = some T ∧ FrR (rN L) T.tp ∧ T.s.b = S.b ∧ T.s.l = S.l ∧ PWA w3 p d F3 D0 L (mkR (rN L) T.tp) T.pc [] ∧ T.pc.length ≤ 81920 ∧ Step FD F3 w w3 ∧ w3.heap[w.heap.size]? = some (.cells (spC' S) 28 (0, 0)) ∧ w3.heap[w.heap.size + 1]? = some (.cells rpt0 33 (0, 0)) ∧ w.heap.size + 2 ≤ w3.heap.size ∧ ∀ k, F3 k → ¬ k = w.heap.size ∧ ¬ k = w.heap.size + 1) := by
    have hc := cnt_le (mkR (rN L) T.tp)
    rw [mkR_len, rN_len, HPN.out] at hc
    have hl1 := heap_lt HS2.out.1
    have hl2 := heap_lt HS2.out.2.1
    have hsz := st.1.size
    refine ⟨hsu, hfr, hTb, hTl, hpw, by omega, HS2.out.2.2.1.trans st, (st.1.block _ hl1 (fun e => (HFR.out _ e).1 rfl)).trans HS2.out.1, (st.1.block _ hl2 (fun e => (HFR.out _ e).2 rfl)).trans HS2.out.2.1, by omega, fun k hk => ?_⟩
    rcases st.2 k hk with h | h
    · exact HFR.out k h
    · constructor <;> omega
  clear hsu hfr hTb hTl hpw hpl st HS2 HFR HPA s0 s1 s2 s3 s4 s5 s6 s7
  have s0 : w3.cell? ⟨w.heap.size, 0, none⟩ = some (.int .i64 S.g) := by rw [cell_of_row w3 _ _ _ _ (0, 0) H3.out.2.2.2.2.2.2.2.1]; rfl
  have s1 : w3.cell? ⟨w.heap.size, 1, none⟩ = some (.int .i64 S.p) := by rw [cell_of_row w3 _ _ _ _ (0, 0) H3.out.2.2.2.2.2.2.2.1]; rfl
  have s2 : w3.cell? ⟨w.heap.size, 2, none⟩ = some (.int .i64 S.r) := by rw [cell_of_row w3 _ _ _ _ (0, 0) H3.out.2.2.2.2.2.2.2.1]; rfl
  have s3 : w3.cell? ⟨w.heap.size, 3, none⟩ = some (.int .i64 S.h) := by rw [cell_of_row w3 _ _ _ _ (0, 0) H3.out.2.2.2.2.2.2.2.1]; rfl
  have s4 : w3.cell? ⟨w.heap.size, 4, none⟩ = some (.int .i64 S.b) := by rw [cell_of_row w3 _ _ _ _ (0, 0) H3.out.2.2.2.2.2.2.2.1]; rfl
  have s5 : w3.cell? ⟨w.heap.size, 5, none⟩ = some (.int .i64 S.l) := by rw [cell_of_row w3 _ _ _ _ (0, 0) H3.out.2.2.2.2.2.2.2.1]; rfl
  have s6 : w3.cell? ⟨w.heap.size, 6, none⟩ = some (.int .i64 S.s) := by rw [cell_of_row w3 _ _ _ _ (0, 0) H3.out.2.2.2.2.2.2.2.1]; rfl
  have s7 : w3.cell? ⟨w.heap.size, 7, none⟩ = some (.int .i64 S.f) := by rw [cell_of_row w3 _ _ _ _ (0, 0) H3.out.2.2.2.2.2.2.2.1]; rfl
  obtain ⟨FD3, gr, cr, m, aP, cP, hPW⟩ := H3.out.2.2.2.2.1
  have c2 := hPW.at.2.2.1
  have HPX : Hid (∃ FD' gr cr m, PW w3 p d F3 FD' D0 L gr cr m aP cP (mkR (rN L) T.tp) T.pc []) := ⟨_, _, _, _, hPW⟩
  obtain ⟨np, hnp⟩ : ∃ np, T.pc.length = np := ⟨_, rfl⟩
  rw [hnp] at c2
  have HNP : Hid (T.pc.length = np) := hnp
  have hp3 : p < w3.heap.size := hPW.lt p hPW.fp
  have hw3 : w.heap.size < w3.heap.size := by have := H3.out.2.2.2.2.2.2.2.2.2.1; omega
  have hp4 : ¬ p = w3.heap.size := by omega
  have hw4 : ¬ w.heap.size = w3.heap.size := by omega
  have c2' : (w3.alloc (.cells #[.int .i64 0, .int .i64 0, .int .i64 0, .int .i64 0, .int .i64 0, .int .i64 0, .int .i64 0, .int .i64 0, .int .i64 0, .slice none 0 0, .slice none 0 0, .slice none 0 0, .slice none 0 0] 33)).cell? ⟨p, 2, none⟩ = some (.slice aP np cP) := by rw [← c2]; exact World.cell?_of_block (heap_alloc_old w3 _ hp3)
  clear hPW hnp
  have hst4 := StP_new w3 (cs := #[.int .i64 S.g, .int .i64 S.p, .int .i64 S.r, .int .i64 S.h, .int .i64 S.b, .int .i64 S.l, .int .i64 S.s, .int .i64 S.f, .int .i64 (-1), .slice aP np cP, .slice none 0 0, .slice none 0 0, .slice none 0 0]) rfl (rpP_one S (-1) aP none none none np 0 0 0 cP 0 0 0)
  have hst5 := setRow_new w3 rpt0 33 #[.int .i64 S.g, .int .i64 S.p, .int .i64 S.r, .int .i64 S.h, .int .i64 S.b, .int .i64 S.l, .int .i64 S.s, .int .i64 S.f, .int .i64 (-1), .slice aP np cP, .slice none 0 0, .slice none 0 0, .slice none 0 0]
  rw [show rpt0 = #[.int .i64 0, .int .i64 0, .int .i64 0, .int .i64 0, .int .i64 0, .int .i64 0, .int .i64 0, .int .i64 0, .int .i64 0, .slice none 0 0, .slice none 0 0, .slice none 0 0, .slice none 0 0] from rfl] at hst4 hst5
  have HST5 : Hid _ := hst5
  clear hst5
  go_upto_region 4 with fail
  go_region
  go_upto_region 5 with fail
  obtain ⟨w4, hw4e⟩ : ∃ w4, ((w3.alloc (.cells #[.int .i64 0, .int .i64 0, .int .i64 0, .int .i64 0, .int .i64 0, .int .i64 0, .int .i64 0, .int .i64 0, .int .i64 0, .slice none 0 0, .slice none 0 0, .slice none 0 0, .slice none 0 0] 33)).drew.setRow w3.heap.size #[.int .i64 S.g, .int .i64 S.p, .int .i64 S.r, .int .i64 S.h, .int .i64 S.b, .int .i64 S.l, .int .i64 S.s, .int .i64 S.f, .int .i64 (-1), .slice aP np cP, .slice none 0 0, .slice none 0 0, .slice none 0 0]) = w4 := ⟨_, rfl⟩
  have hbr : Below w3.heap.size w3 w4 := by rw [← hw4e]; exact HST5.out.2
  have hrb : w4.heap[w3.heap.size]? = some (.cells (rpP S (-1) (.slice aP np cP) (.slice none 0 0) (.slice none 0 0) (.slice none 0 0)) 33 (0, 0)) := by rw [← hw4e]; exact HST5.out.1
  rw [hw4e]
  clear hw4e hst4 HST5
  have htx := text_p (H3.out.2.2.2.2.1.below hbr) (fun x hx => HOK.out T x H3.out.1 hx) H3.out.2.2.2.2.2.1
  have HBR : Hid (Below w3.heap.size w3 w4 ∧ w4.heap[w3.heap.size]? = some (.cells (rpP S (-1) (.slice aP np cP) (.slice none 0 0) (.slice none 0 0) (.slice none 0 0)) 33 (0, 0))) := ⟨hbr, hrb⟩
  obtain ⟨rb, hrbe⟩ : ∃ rb, w3.heap.size = rb := ⟨_, rfl⟩
  rw [hrbe] at HBR ⊢
  have HRB : Hid (w3.heap.size = rb) := hrbe
  have HSV : Hid (SvI w w4 p d rb FD F3 D0 L (mkR (rN L) T.tp) T S [] aP cP none 0 [] none 0 []) := by
    obtain ⟨FD', gr', cr', m', hX⟩ := HPX.out
    have hB : Below w3.heap.size w3 w4 := by have := HBR.out.1; rw [← HRB.out] at this; exact this
    have hlt := hX.lt
    have e0 := H3.out.2.2.2.2.2.2.2.1
    have e1 := H3.out.2.2.2.2.2.2.2.2.1
    have e2 := H3.out.2.2.2.2.2.2.2.2.2.2
    have e3 := H3.out.2.2.2.2.2.2.2.2.2.1
    have e4 := HRB.out
    refine ⟨PWA.same hX (H3.out.2.2.2.2.1.below hB) (hB.block p (hlt p hX.fp)), ?_, (hB.block _ (heap_lt e0)).trans e0, (hB.block _ (heap_lt e1)).trans e1, H3.out.2.2.2.2.2.2.1.trans (Step.ofB hB), ⟨fun h => ?_, fun h => (e2 _ h).1 rfl, fun h => (e2 _ h).2 rfl⟩, by omega, rwK_nil .., rwK_nil ..⟩
    · rw [HNP.out]
      exact HBR.out.2
    · have := hlt _ h
      omega
  clear hbr hrb hrbe c2' hp4 hw4 hp3 hw3 s0 s1 s2 s3 s4 s5 s6 s7 c2
  go_wp2_with fail
  refine htx.mono ?_
  clear htx
  rintro e w5 (⟨gt, ct, ts, rfl, hall, hpw5, ho5, hc5, hq5⟩ | hbad)
  rotate_left
  · have HE : Hid (SvE w d FD D0 L N S e w5) := by
      have := hbad.mono (no' := ∀ r, ¬ Su L S r) (H3.out.2.2.2.2.2.2.1.trans (Step.ofB (by rw [← HRB.out] at HBR; exact HBR.out.1))) (fun hno r => su_no2 H3.out.1 hno r)
      rw [mkR_len, rN_len, HPN.out] at this
      exact .inr this
    rcases hbad.is with rfl | rfl
    · unfold thrA at HE ⊢
      clear hbad
      go_wp2
      exact ⟨rfl, HE.out⟩
    · unfold thrA at HE ⊢
      clear hbad
      go_wp2
      exact ⟨rfl, HE.out⟩
  have HS5 : Hid (SvI w w5 p d rb FD F3 D0 L (mkR (mkR (rN L) T.tp) (pgs T.pc)) T S ts aP cP none 0 [] none 0 [] ∧ RwK w w5 F3 rb gt ct (txs L T.pc) ∧ SuOk L S T) := by
    have hl := HSV.out.low
    exact ⟨HSV.out.went hpw5 hc5 hq5, rwK_own ho5 (txs_bys HSV.out.pw.rn.2.2.2.2 _) hl.2.2 hl.2.1 hl.1, su_ok H3.out.1 H3.out.2.1 H3.out.2.2.1 H3.out.2.2.2.1 hall⟩
  clear hpw5 hc5 hq5 ho5 hall
  have c10 : w5.cell? ⟨rb, 10, none⟩ = some (.slice none 0 0) := by rw [HS5.out.1.cell]; rfl
  have f10 := HS5.out.1.frz 10
  have hsu0 := mkR_app (R := rN L) (a := T.tp) (b := pgs T.pc)
  have HS6 : Hid (SvI w (w5.setCell ⟨rb, 10, none⟩ (.slice gt (txs L T.pc).length ct)) p d rb FD F3 D0 L (mkR (rN L) (T.tp ++ pgs T.pc)) T S ts aP cP gt ct (txs L T.pc) none 0 []) := by
    have := HS5.out.1.text HS5.out.2.1
    rw [hsu0] at this
    exact this
  have HOKT : Hid (SuOk L S T) := HS5.out.2.2
  clear hsu0
  go_upto_region 6 with fail
  obtain ⟨w6, hw6⟩ : ∃ w6, w5.setCell ⟨rb, 10, none⟩ (.slice gt (txs L T.pc).length ct) = w6 := ⟨_, rfl⟩
  rw [hw6] at HS6 ⊢
  clear hw6 c10 f10 HS5
  have hbd := okS_bd HL.out.2.2.1
  have HBD : Hid ((0 ≤ S.s ∧ S.s ≤ 4095) ∧ (0 ≤ S.f ∧ S.f ≤ 4095)) := ⟨hbd.2.2.2.2.2.2.1, hbd.2.2.2.2.2.2.2⟩
  clear hbd
  obtain ⟨fin, hfin⟩ : ∃ fin, chB L (pgN L + 1) S.s (mkR (rN L) (T.tp ++ pgs T.pc)) [] = fin := ⟨_, rfl⟩
  have hch := chain_p HS6.out.pw S.s ⟨HBD.out.1.1, by have := HBD.out.1.2; omega⟩ (pgN L + 1) (by rw [mkR_len, rN_len]; omega) fin hfin
  have c6 : w6.cell? ⟨w.heap.size, 6, none⟩ = some (.int .i64 S.s) := by rw [HS6.out.sup]; rfl
  have HFIN : Hid (chB L (pgN L + 1) S.s (mkR (rN L) (T.tp ++ pgs T.pc)) [] = fin) := hfin
  clear hfin
  go_wp2_with fail
  refine hch.mono ?_
  clear hch
  rintro e w7 (⟨gs, cs, R2, st, rfl, hf7, hpw7, ho7, hby7, hrl7, hol7, hc7, hq7⟩ | hbad)
  rotate_left
  · have HE : Hid (SvE w d FD D0 L N S e w7) := by
      have := hbad.mono (no' := ∀ r, ¬ Su L S r) HS6.out.stp (fun hno r => su_no3 HOKT.out (HFIN.out.trans hno) r)
      rw [mkR_len, rN_len, HPN.out] at this
      exact .inr this
    rcases hbad.is with rfl | rfl
    · unfold thrA at HE ⊢
      clear hbad
      go_wp2
      exact ⟨rfl, HE.out⟩
    · unfold thrA at HE ⊢
      clear hbad
      go_wp2
      exact ⟨rfl, HE.out⟩
  have HS7 : Hid (SvI w w7 p d rb FD F3 D0 L R2 T S ts aP cP gt ct (txs L T.pc) none 0 [] ∧ RwK w w7 F3 rb gs cs st ∧ chB L (pgN L + 1) S.s (mkR (rN L) (T.tp ++ pgs T.pc)) [] = some (R2, st) ∧ R2.length = N) := by
    have hl := HS6.out.low
    exact ⟨HS6.out.went hpw7 hc7 hq7, rwK_own ho7 hby7 hl.2.2 hl.2.1 hl.1, HFIN.out.trans hf7, by rw [hrl7, mkR_len, rN_len, HPN.out]⟩
  clear hf7 hpw7 ho7 hby7 hrl7 hol7 hc7 hq7 c6
  have c11 : w7.cell? ⟨rb, 11, none⟩ = some (.slice none 0 0) := by rw [HS7.out.1.cell]; rfl
  have f11 := HS7.out.1.frz 11
  go_upto_region 7 with fail
  have HS8 : Hid (SvI w (w7.setCell ⟨rb, 11, none⟩ (.slice gs st.length cs)) p d rb FD F3 D0 L R2 T S ts aP cP gt ct (txs L T.pc) gs cs st) := HS7.out.1.state HS7.out.2.1
  obtain ⟨w8, hw8⟩ : ∃ w8, w7.setCell ⟨rb, 11, none⟩ (.slice gs st.length cs) = w8 := ⟨_, rfl⟩
  rw [hw8] at HS8 ⊢
  clear hw8 c11 f11
  obtain ⟨fi2, hfi2⟩ : ∃ fi2, chB L (pgN L + 1) S.f R2 [] = fi2 := ⟨_, rfl⟩
  have hch := chain_p HS8.out.pw S.f ⟨HBD.out.2.1, by have := HBD.out.2.2; omega⟩ (pgN L + 1) (by rw [HS7.out.2.2.2, HPN.out]; omega) fi2 hfi2
  have c7 : w8.cell? ⟨w.heap.size, 7, none⟩ = some (.int .i64 S.f) := by rw [HS8.out.sup]; rfl
  have HFI2 : Hid (chB L (pgN L + 1) S.f R2 [] = fi2) := hfi2
  clear hfi2
  go_wp2_with fail
  refine hch.mono ?_
  clear hch
  rintro e w9 (⟨gf, cf, R3, fr, rfl, hf9, hpw9, ho9, hby9, hrl9, hol9, hc9, hq9⟩ | hbad)
  rotate_left
  · have HE : Hid (SvE w d FD D0 L N S e w9) := by
      have := hbad.mono (no' := ∀ r, ¬ Su L S r) HS8.out.stp (fun hno r => su_no4 HOKT.out HS7.out.2.2.1 (HFI2.out.trans hno) r)
      rw [HS7.out.2.2.2] at this
      exact .inr this
    rcases hbad.is with rfl | rfl
    · unfold thrA at HE ⊢
      clear hbad
      go_wp2
      exact ⟨rfl, HE.out⟩
    · unfold thrA at HE ⊢
      clear hbad
      go_wp2
      exact ⟨rfl, HE.out⟩
  have HS9 : Hid (SvI w w9 p d rb FD F3 D0 L R3 T S ts aP cP gt ct (txs L T.pc) gs cs st ∧ chB L (pgN L + 1) S.f R2 [] = some (R3, fr) ∧ R3.length = N ∧ Row w9 gf cf fr) := ⟨HS8.out.went hpw9 hc9 hq9, HFI2.out.trans hf9, by rw [hrl9, HS7.out.2.2.2], (ho9.row' hby9).2⟩
  clear hf9 hpw9 ho9 hby9 hrl9 hol9 hc9 hq9 c7
  go_upto_region 8 with fail
  have hus := used_p HS9.out.1.pw ((N + 7) / 8) (by rw [HS9.out.2.2.1])
  go_wp2_with fail
  refine hus.mono ?_
  clear hus
  rintro e w10 ⟨gu, rfl, ho10, hb10⟩
  have HS10 : Hid (SvI w w10 p d rb FD F3 D0 L R3 T S ts aP cP gt ct (txs L T.pc) gs cs st ∧ Row w10 gf cf fr) := ⟨HS9.out.1.below hb10, HS9.out.2.2.2.below hb10⟩
  obtain ⟨bq, hbq⟩ : ∃ bq, decide (fr = usedL R3) = bq := ⟨_, rfl⟩
  have heq := equal_v HS10.out.2 (ho10.row' (bitsP_bys _ _)).2 rfl (show (usedL R3).length = (N + 7) / 8 by unfold usedL; rw [bitsP_len, HS9.out.2.2.1]) bq hbq
  clear ho10 hb10
  go_wp2_with fail
  refine heq.mono ?_
  clear heq
  rintro e w' ⟨rfl, rfl⟩
  cases bq with
  | false =>
    have HE : Hid (SvE w d FD D0 L N S (thrA 8) w10) := by
      have := HS10.out.1.pw.bad (no := ∀ r, ¬ Su L S r) (fun r => su_no5 HOKT.out HS7.out.2.2.1 HS9.out.2.1 (of_decide_eq_false hbq) r) HS10.out.1.stp
      rw [HS9.out.2.2.1] at this
      exact .inr this
    go_wp2_with fail
    refine (demand_no w10).mono ?_
    rintro e w' ⟨rfl, rfl⟩
    unfold thrA at HE ⊢
    go_wp2
    exact ⟨rfl, HE.out⟩
  | true =>
    have hfre : fr = usedL R3 := of_decide_eq_true hbq
    have HFR : Hid (fr = usedL R3) := hfre
    clear hfre
    clear hbq
    go_wp2_with fail
    refine (demand_yes w10).mono ?_
    rintro e w' ⟨rfl, rfl⟩
    go_upto_region 9 with fail
    have hpp := pages_p HS10.out.1.pw N HS9.out.2.2.1
    go_wp2_with fail
    refine hpp.mono ?_
    clear hpp
    rintro e w11 ⟨gg, cg, rfl, ho11, hb11⟩
    have HS11 : Hid (SvI w w11 p d rb FD F3 D0 L R3 T S ts aP cP gt ct (txs L T.pc) gs cs st) := HS10.out.1.below hb11
    obtain ⟨np2, hnp2⟩ : ∃ n, (rsB R3 N).length = n := ⟨_, rfl⟩
    rw [hnp2] at ho11 ⊢
    obtain ⟨rc, e1, rfl, e3, ⟨v, k, FD', e4, rfl, hrep, hk, hdv, htold, hsub⟩, hchE, hrE⟩ := HS11.out.pages (n := np2) (a := gg) (c := cg) (zs := rsB R3 N) (by
      obtain ⟨a', c', e, hr⟩ := ho11.row
      rw [hnp2] at e
      cases e
      exact hr) hnp2.symm (fun x hx => by
      obtain ⟨y, e, hy⟩ := hx
      subst e
      have hlo := HS10.out.1.low
      have := World.ownsRow.lt ho11 x (by simp [Value.ownBlock, hy])
      refine ⟨⟨fun hF => ?_, by omega⟩, by omega, this.2⟩
      have := hlo.2.2 x hF
      omega) (fun x hx => HOK.out T x H3.out.1 hx)
    have c12 : w11.cell? ⟨rb, 12, none⟩ = some (.slice none 0 0) := by rw [HS11.out.cell]; rfl
    have f12 := HS11.out.frz 12
    have hld := LdP_run e1 rfl
    have hst := StP_run e3 rfl rfl (rpP_one S (-1) aP gt gs gg T.pc.length (txs L T.pc).length st.length np2 cP ct cs cg)
    have HE : Hid (SvE w d FD D0 L N S (.returned (.agg (rpP S (-1) (.slice aP T.pc.length cP) (.slice gt (txs L T.pc).length ct) (.slice gs st.length cs) (.slice gg np2 cg)))) ((w11.setCell ⟨rb, 12, none⟩ (.slice gg np2 cg)).setRow (w.heap.size + 1) (rpP S (-1) (.slice aP T.pc.length cP) (.slice gt (txs L T.pc).length ct) (.slice gs st.length cs) (.slice gg np2 cg)))) := by
      refine .inl ⟨⟨S, -1, T.pc, txs L T.pc, st, rsB R3 N, S.h⟩, _, rfl, ?_, k, FD', hrep, by rw [← HS9.out.2.2.1]; exact hk, hdv, htold, hchE, hsub⟩
      refine ⟨by rw [HL.out.2.2.2, HPN.out], T, R2, st, R3, fr, HOKT.out, HS7.out.2.2.1, HS9.out.2.1, HFR.out, ?_⟩
      rw [HPN.out]
    have HRE : Hid _ := hrE
    clear e1 e3 e4 hrep hk hdv htold hsub hchE hrE ho11 hb11 hnp2
    go_wp2
    refine bodyPost_ret (results_cell_row rfl _ _ (w.heap.size + 1) _ (rpP S (-1) (.slice aP T.pc.length cP) (.slice gt (txs L T.pc).length ct) (.slice gs st.length cs) (.slice gg np2 cg)) (0, 0) _ rfl HRE.out Tryz.underlying33 rfl (by kernel_rfl)) rfl ?_
    exact HE.out
end Go.Proofs.YtjllhcifmfhkmaaGreat.Oct

/-
  The program's audit: Walk.
-/
namespace Go.Proofs.YtjllhcifmfhkmaaGreat.Oct
open Go.RowKit

attribute [local go_sem ↓] StP_eq LdP_eq

/-- Survey at any superblock that may be. -/
theorem survey_any {w : World} {d N : Nat} {FD : Nat → Prop} {D0 : Dv} {L : List Int} (hd : Dev w d FD D0) (hL : D0.now = L) (hN : D0.n = N) (hops : D0.ops ≤ 1000000000000) (S : Sp) (hS : okS S = true) :
    Calls Tryz.prog 29 #[.pointer (some ⟨d, 0, none⟩), spV S] w fun e w' => SvE w d FD D0 L N S e w' := by
  by_cases hp : S.p = (N : Int)
  · exact survey_p hd hL hN hops S hS hp
  · refine (survey_pages hd hN S hp).mono ?_
    rintro e w' ⟨rfl, hb⟩
    refine .inr (.inl ⟨rfl, fun r hr => hp ?_, 0, FD, Nat.zero_le _, hd.below hb, fun j hj => absurd hj (Nat.not_lt_zero _), Step.ofB hb⟩)
    have h1 := hd.1.now
    rw [hL] at h1
    have : pgN L = N := by
      unfold pgN
      omega
    rw [hr.1, this]

def ErrA (w : World) (q : Nat) (x : Int) : Prop := w.heap[q]? = some (.cells #[.int .i64 x] 24 (0, 0))
theorem ErrA.at {w : World} {q : Nat} {x : Int} (h : ErrA w q x) : w.cell? ⟨q, 0, none⟩ = some (.int .i64 x) ∧ w.frozen? ⟨q, 0, none⟩ = false := by
  unfold ErrA at h
  refine ⟨?_, ?_⟩
  · rw [cell_of_row w q _ _ _ (0, 0) h]; rfl
  · unfold World.frozen?
    rw [h]
    simp
theorem ErrA.set {w : World} {q : Nat} {x : Int} (h : ErrA w q x) (y : Int) : ErrA (w.setCell ⟨q, 0, none⟩ (.int .i64 y)) q y := by unfold ErrA; rw [setCell_heap _ _ _ _ _ _ _ h]; rfl

theorem as_errA (v : Value) (w : World) : (Instr.typeAssert (.iface 24 v) 20 24 false).run Tryz.prog w = .ok v w := by kernel_rfl

theorem rpt0_lit : rpt0 = #[.int .i64 0, .int .i64 0, .int .i64 0, .int .i64 0, .int .i64 0, .int .i64 0, .int .i64 0, .int .i64 0, .int .i64 0, .slice none 0 0, .slice none 0 0, .slice none 0 0, .slice none 0 0] := rfl

set_option maxHeartbeats 1000000 in
set_option maxRecDepth 8000 in
theorem wcatch_pan {rb eb : Nat} {old : Array Value} {x : Int} (k : Int) (older : List PanicEntry) {w : World} (hr : w.heap[rb]? = some (.cells old 33 (0, 0))) (ho : old.size = 13) (he : ErrA w eb x) (hne : ¬ eb = rb) :
    CallsD Tryz.prog 28 #[.pointer (some ⟨rb, 0, none⟩), .pointer (some ⟨eb, 0, none⟩)] (.panicking ({ v := .iface 24 (.int .i64 k), recovered := false } :: older)) w fun e u' w' =>
      e = .returned (.tuple #[]) ∧ u' = .panicking ({ v := .iface 24 (.int .i64 k), recovered := true } :: older) ∧ w' = (w.drew.setRow rb rpt0).setCell ⟨eb, 0, none⟩ (.int .i64 k) := by
  have hst := StP_run (w := w.drew) (cs := rpt0) hr ho rfl (by rw [rpt0_lit]; simp [Value.oneCell'])
  have he2 : ErrA (w.drew.setRow rb rpt0) eb x := (setRow_other w.drew rb eb rpt0 hne).trans he
  obtain ⟨c0, f0⟩ := he2.at
  rw [rpt0_lit] at hst c0 f0 ⊢
  refine callsD_of_wpS Tryz.func28 rfl fun c₀ cs hu => ?_
  apply wpS_seq
  apply wpS_region
  simp [wpOpsS, go_sem, recoverD, hu, Tryz.ntmps28, Exit.thenS]
  apply wpS_seq
  apply wpS_region
  simp [wpOpsS, go_sem, Exit.thenS]
  refine wpS_cond (t := true) (by simp [Act.eval, Array.replicate]) ?_
  simp only [if_true]
  have has := as_errA
  refine wpS_of_wp ?_
  simp [Array.replicate]
  go_region
  simp [bodyPostS, results, Tryz.results28]

theorem wcatch_no (rb eb : Nat) (w : World) :
    CallsD Tryz.prog 28 #[.pointer (some ⟨rb, 0, none⟩), .pointer (some ⟨eb, 0, none⟩)] .returning w fun e u' w' => e = .returned (.tuple #[]) ∧ u' = .returning ∧ w' = w := by
  refine callsD_of_wpS Tryz.func28 rfl fun c₀ cs hu => ?_
  apply wpS_seq
  apply wpS_region
  simp [wpOpsS, go_sem, recoverD, hu, Tryz.ntmps28, Exit.thenS]
  apply wpS_seq
  apply wpS_region
  simp [wpOpsS, go_sem, Exit.thenS]
  refine wpS_cond (t := false) (by simp [Act.eval, Array.replicate]) ?_
  simp only [Bool.false_eq_true, if_false]
  refine wpS_of_wp (wp_skip ?_)
  cases c₀
  simp_all [bodyPostS, results, Tryz.results28]

theorem results_rc {fn : Func} {p q : Tmp} (h : fn.results = #[.cell p 33, .cell q 24]) (tmps : Array Value) (w : World) (g e : Nat) (cs : Array Value) (k : Int)
    (hp : tmps.getD p undef = .pointer (some ⟨g, 0, none⟩)) (hq : tmps.getD q undef = .pointer (some ⟨e, 0, none⟩)) (hg : w.heap[g]? = some (.cells cs 33 (0, 0))) (hc : cs.size = 13) (he : ErrA w e k) :
    (results fn tmps).run Tryz.prog w = .ok (.tuple #[.agg cs, .int .i64 k]) w := by
  have h1 := run_loadVar_row (P := Tryz.prog) w g 33 33 cs (0, 0) _ hg Tryz.underlying33 rfl (by rw [hc]; kernel_rfl)
  have h2 := he.at.1
  have hp' : tmps[p]?.getD undef = .pointer (some ⟨g, 0, none⟩) := by simpa using hp
  have hq' : tmps[q]?.getD undef = .pointer (some ⟨e, 0, none⟩) := by simpa using hq
  simp [results, h, hp', hq', asAddr, h1]
  simp [go_sem, h2]
/-- How Walk ends. -/
def WlE (w : World) (d : Nat) (FD : Nat → Prop) (D0 : Dv) (L : List Int) (N : Nat) (S : Sp) (e : Ending) (w' : World) : Prop :=
  (okS S = false ∧ e = .returned (.tuple #[.agg rpt0, .int .i64 1]) ∧ Below w.heap.size w w') ∨
  (okS S = true ∧ ((∃ r v, e = .returned (.tuple #[v, .int .i64 0]) ∧ Su L S r ∧ ∃ k FD', RepP FD' (fun k => FD k ∨ w.heap.size ≤ k) w' v r ∧ k ≤ N ∧ Dev w' d FD' (rdK D0 k) ∧ (∀ j, j < k → tellsD (rdK D0 j) = true) ∧ Step FD FD' w w') ∨
    (e = .returned (.tuple #[.agg rpt0, .int .i64 8]) ∧ (∀ r, ¬ Su L S r) ∧ ∃ k FD', k ≤ N ∧ Dev w' d FD' (rdK D0 k) ∧ (∀ j, j < k → tellsD (rdK D0 j) = true) ∧ Step FD FD' w w') ∨
    (e = .returned (.tuple #[.agg rpt0, .int .i64 7]) ∧ ∃ k FD', k < N ∧ Dev w' d FD' (rdK D0 (k + 1)) ∧ (∀ j, j < k → tellsD (rdK D0 j) = true) ∧ tellsD (rdK D0 k) = false ∧ Step FD FD' w w')))

/-- The superblock that came in, and room for a report and an error. -/
def bxW (w : World) (S : Sp) : World := ((w.alloc (.cells #[.int .i64 S.g, .int .i64 S.p, .int .i64 S.r, .int .i64 S.h, .int .i64 S.b, .int .i64 S.l, .int .i64 S.s, .int .i64 S.f] 28)).alloc (.cells #[.int .i64 0, .int .i64 0, .int .i64 0, .int .i64 0, .int .i64 0, .int .i64 0, .int .i64 0, .int .i64 0, .int .i64 0, .slice none 0 0, .slice none 0 0, .slice none 0 0, .slice none 0 0] 33)).alloc (.cells #[.int .i64 0] 24)
theorem bxW_all (w : World) (S : Sp) : (bxW w S).heap.size = w.heap.size + 3 ∧ (bxW w S).heap[w.heap.size]? = some (.cells (spC' S) 28 (0, 0)) ∧ (bxW w S).heap[w.heap.size + 1]? = some (.cells rpt0 33 (0, 0)) ∧ ErrA (bxW w S) (w.heap.size + 1 + 1) 0 ∧ Below w.heap.size w (bxW w S) := by
  refine ⟨by simp [bxW], ?_, ?_, ?_, ?_⟩
  · unfold bxW
    rw [heap_alloc_old _ _ (by simp; omega)]
    exact heap_alloc2_old w _ _
  · unfold bxW
    rw [heap_alloc_old _ _ (by simp)]
    exact heap_alloc2_new w _ _
  · unfold bxW ErrA
    have := heap_alloc_new ((w.alloc (.cells #[.int .i64 S.g, .int .i64 S.p, .int .i64 S.r, .int .i64 S.h, .int .i64 S.b, .int .i64 S.l, .int .i64 S.s, .int .i64 S.f] 28)).alloc (.cells #[.int .i64 0, .int .i64 0, .int .i64 0, .int .i64 0, .int .i64 0, .int .i64 0, .int .i64 0, .int .i64 0, .int .i64 0, .slice none 0 0, .slice none 0 0, .slice none 0 0, .slice none 0 0] 33)) (.cells #[.int .i64 0] 24)
    simpa using this
  · unfold bxW
    exact (((Below.refl _ w).alloc (Nat.le_refl _) _).alloc (by simp) _).alloc (by simp; omega) _
/-- A report and an error, stored. -/
theorem both_set {w1 : World} {rb eb : Nat} {old cs : Array Value} {x : Int} (hr : w1.heap[rb]? = some (.cells old 33 (0, 0))) (ho : old.size = 13) (hc : cs.size = 13) (h1 : cs.all (·.oneCell') = true) (he : ErrA w1 eb x) (hne : ¬ eb = rb) (k : Int) :
    (StP (.pointer (some ⟨rb, 0, none⟩)) (.agg cs)).run Tryz.prog w1 = .ok () (w1.setRow rb cs) ∧ ((w1.setRow rb cs).cell? ⟨eb, 0, none⟩ = some (.int .i64 x) ∧ (w1.setRow rb cs).frozen? ⟨eb, 0, none⟩ = false) ∧ ((w1.setRow rb cs).setCell ⟨eb, 0, none⟩ (.int .i64 k)).heap[rb]? = some (.cells cs 33 (0, 0)) ∧ ErrA ((w1.setRow rb cs).setCell ⟨eb, 0, none⟩ (.int .i64 k)) eb k ∧ Ch w1.heap.size (fun x => x = rb ∨ x = eb) w1 ((w1.setRow rb cs).setCell ⟨eb, 0, none⟩ (.int .i64 k)) := by
  have he2 : ErrA (w1.setRow rb cs) eb x := (setRow_other w1 rb eb cs hne).trans he
  refine ⟨StP_run hr ho hc h1, he2.at, ?_, he2.set k, ((Ch.refl _ (fun x => x = rb ∨ x = eb) w1).setRow (.inr (.inl rfl)) cs).setCell (p := ⟨eb, 0, none⟩) (.inr (.inr rfl)) _⟩
  rw [Below.heap_setCell _ _ _ _ (fun e => hne e.symm)]
  exact setRow_heap w1 _ _ _ _ _ hr

set_option maxHeartbeats 2000000 in
set_option maxRecDepth 20000 in
theorem walk_arg {w : World} {d : Nat} (S : Sp) (hS : okS S = false) :
    Calls Tryz.prog 12 #[.pointer (some ⟨d, 0, none⟩), spV S] w fun e w' => e = .returned (.tuple #[.agg rpt0, .int .i64 1]) ∧ Below w.heap.size w w' := by
  have hck := @check_v S
  have hE : enE S = 1 := by unfold enE; rw [hS]; rfl
  unfold spV at hck ⊢
  have hmf : ∀ (fn : Fn) (first cap : Array Value) (w : World), (Instr.makeFunc fn first cap).run Tryz.prog w = .ok (.func fn first cap) w := fun _ _ _ _ => rfl
  obtain ⟨b0, b1, b2, b3, b4⟩ := bxW_all w S
  have HB : Hid ((bxW w S).heap.size = w.heap.size + 3 ∧ (bxW w S).heap[w.heap.size + 1]? = some (.cells rpt0 33 (0, 0)) ∧ ErrA (bxW w S) (w.heap.size + 1 + 1) 0 ∧ Below w.heap.size w (bxW w S)) := ⟨b0, b2, b3, b4⟩
  clear b0 b1 b2 b3 b4
  go_enter_defers Tryz.func12, Tryz.ntmps12
  go_wp2_with fail
  refine (hck (bxW w S) 1 hE).mono ?_
  clear hck hE
  rintro e w1 ⟨rfl, hb1⟩
  obtain ⟨h1, h2, h3, h4, h5⟩ := both_set (w1 := w1) (cs := rpt0) ((hb1.block _ (by have := HB.out.1; omega)).trans HB.out.2.1) rfl rfl (by rw [rpt0_lit]; simp [Value.oneCell']) ((hb1.block (w.heap.size + 1 + 1) (by have := HB.out.1; omega)).trans HB.out.2.2.1) (by omega) 1
  have HE : Hid (((w1.setRow (w.heap.size + 1) rpt0).setCell ⟨w.heap.size + 1 + 1, 0, none⟩ (.int .i64 1)).heap[w.heap.size + 1]? = some (.cells rpt0 33 (0, 0)) ∧ ErrA ((w1.setRow (w.heap.size + 1) rpt0).setCell ⟨w.heap.size + 1 + 1, 0, none⟩ (.int .i64 1)) (w.heap.size + 1 + 1) 1 ∧ Below w.heap.size w ((w1.setRow (w.heap.size + 1) rpt0).setCell ⟨w.heap.size + 1 + 1, 0, none⟩ (.int .i64 1))) := by
    refine ⟨h3, h4, (HB.out.2.2.2.trans (hb1.mono HB.out.2.2.2.size)).trans ⟨h5.os, h5.tape, h5.output, h5.size, fun i hi => h5.block i ?_ ?_⟩⟩
    · have := HB.out.1; have := hb1.size; omega
    · omega
  rw [rpt0_lit] at h1 h2 HE
  obtain ⟨c0, f0⟩ := h2
  clear h3 h4 h5 hb1 HB
  go_wp2
  exact ⟨_, results_rc rfl _ _ (w.heap.size + 1) (w.heap.size + 1 + 1) _ 1 rfl rfl HE.out.1 rfl HE.out.2.1, rfl, HE.out.2.2⟩

theorem RepP.keep {F G G' : Nat → Prop} {w w' : World} {v : Value} {R : Rp} (h : RepP F G w v R) (hs : w.heap.size ≤ w'.heap.size) (k : ∀ g, G g → ¬ F g → g < w.heap.size → w'.heap[g]? = w.heap[g]?) (hG : ∀ g, G g → G' g) : RepP F G' w' v R := by
  obtain ⟨aP, cP, aT, cT, aS, cS, aG, cG, e, h1, h2, h3, h4, h5⟩ := h
  refine ⟨aP, cP, aT, cT, aS, cS, aG, cG, e, h1.keepO (fun g hg => ?_), h2.keepO (fun g hg => ?_), h3.keepO (fun g hg => ?_), h4.keepO' (fun g hg => ?_), fun g hg => ⟨⟨(h5 g hg).1.1, Nat.lt_of_lt_of_le (h5 g hg).1.2 hs⟩, hG g (h5 g hg).2⟩⟩
  · have := h5 g (.inl hg); exact k g this.2 this.1.1 this.1.2
  · have := h5 g (.inr (.inl hg)); exact k g this.2 this.1.1 this.1.2
  · have := h5 g (.inr (.inr (.inl hg))); exact k g this.2 this.1.1 this.1.2
  · have := h5 g (.inr (.inr (.inr hg))); exact k g this.2 this.1.1 this.1.2

/-- What ends, stored into the results. -/
theorem walk_fin {w w1 w2 w3 : World} {d rb eb : Nat} {FD FD' : Nat → Prop} {D : Dv} (hw : w.heap.size ≤ rb ∧ w.heap.size ≤ eb) (hb : Below w.heap.size w w1) (hl : rb < w1.heap.size ∧ eb < w1.heap.size) (hF : ∀ k, FD k → k < w.heap.size) (hd : Dev w2 d FD' D) (st : Step FD FD' w1 w2) (hc : Ch w2.heap.size (fun x => x = rb ∨ x = eb) w2 w3) : Dev w3 d FD' D ∧ Step FD FD' w w3 := by
  have hbs := hb.size
  have hn : ∀ k, FD' k → ¬ (k = rb ∨ k = eb) := fun k hk e => by
    rcases st.2 k hk with h | h
    · have := hF k h; omega
    · omega
  refine ⟨hd.keep hc.size (fun g hg => hc.block g (hd.2.1 g hg) (hn g hg)), ?_, fun k hk => ?_⟩
  · exact ((Ch.of FD hb).trans (st.1.mono hbs (fun _ _ h => h))).trans ⟨hc.os, hc.tape, hc.output, hc.size, fun i hi _ => hc.block i (by have := st.1.size; omega) (by omega)⟩
  · rcases st.2 k hk with h | h
    · exact .inl h
    · right; omega

set_option maxHeartbeats 4000000 in
set_option maxRecDepth 20000 in
theorem walk_ok {w : World} {d N : Nat} {FD : Nat → Prop} {D0 : Dv} {L : List Int} (hd : Dev w d FD D0) (hL : D0.now = L) (hN : D0.n = N) (hops : D0.ops ≤ 1000000000000) (S : Sp) (hS : okS S = true) :
    Calls Tryz.prog 12 #[.pointer (some ⟨d, 0, none⟩), spV S] w fun e w' => WlE w d FD D0 L N S e w' := by
  have hck := @check_v S
  have hE : enE S = 0 := by unfold enE; rw [hS]; rfl
  have hmf : ∀ (fn : Fn) (first cap : Array Value) (w : World), (Instr.makeFunc fn first cap).run Tryz.prog w = .ok (.func fn first cap) w := fun _ _ _ _ => rfl
  obtain ⟨b0, b1, b2, b3, b4⟩ := bxW_all w S
  have HB : Hid ((bxW w S).heap.size = w.heap.size + 3 ∧ (bxW w S).heap[w.heap.size + 1]? = some (.cells rpt0 33 (0, 0)) ∧ ErrA (bxW w S) (w.heap.size + 1 + 1) 0 ∧ Below w.heap.size w (bxW w S) ∧ (bxW w S).heap[w.heap.size]? = some (.cells (spC' S) 28 (0, 0))) := ⟨b0, b2, b3, b4, b1⟩
  have HD : Hid (Dev w d FD D0 ∧ D0.now = L ∧ D0.n = N ∧ D0.ops ≤ 1000000000000 ∧ okS S = true) := ⟨hd, hL, hN, hops, hS⟩
  clear b0 b1 b2 b3 b4 hd hL hN hops hS
  unfold spV at hck ⊢
  go_enter_defers Tryz.func12, Tryz.ntmps12
  go_wp2_with fail
  refine (hck (bxW w S) 0 hE).mono ?_
  clear hck hE
  rintro e w1 ⟨rfl, hb1⟩
  have H1 : Hid (Below w.heap.size w w1 ∧ w1.heap[w.heap.size]? = some (.cells (spC' S) 28 (0, 0)) ∧ w1.heap[w.heap.size + 1]? = some (.cells rpt0 33 (0, 0)) ∧ ErrA w1 (w.heap.size + 1 + 1) 0 ∧ w.heap.size + 3 ≤ w1.heap.size) := by
    have := HB.out.1
    have := hb1.size
    exact ⟨HB.out.2.2.2.1.trans (hb1.mono HB.out.2.2.2.1.size), (hb1.block _ (by omega)).trans HB.out.2.2.2.2, (hb1.block _ (by omega)).trans HB.out.2.1, (hb1.block (w.heap.size + 1 + 1) (by omega)).trans HB.out.2.2.1, by omega⟩
  have hsv := survey_any (HD.out.1.below (w' := w1) (H1.out.1)) HD.out.2.1 HD.out.2.2.1 HD.out.2.2.2.1 S HD.out.2.2.2.2
  unfold spV at hsv
  have hc : ∀ i, w1.cell? ⟨w.heap.size, i, none⟩ = (spC' S)[i]? := fun i => cell_of_row w1 _ _ _ _ (0, 0) H1.out.2.1
  have s0 : w1.cell? ⟨w.heap.size, 0, none⟩ = some (.int .i64 S.g) := by rw [hc]; rfl
  have s1 : w1.cell? ⟨w.heap.size, 1, none⟩ = some (.int .i64 S.p) := by rw [hc]; rfl
  have s2 : w1.cell? ⟨w.heap.size, 2, none⟩ = some (.int .i64 S.r) := by rw [hc]; rfl
  have s3 : w1.cell? ⟨w.heap.size, 3, none⟩ = some (.int .i64 S.h) := by rw [hc]; rfl
  have s4 : w1.cell? ⟨w.heap.size, 4, none⟩ = some (.int .i64 S.b) := by rw [hc]; rfl
  have s5 : w1.cell? ⟨w.heap.size, 5, none⟩ = some (.int .i64 S.l) := by rw [hc]; rfl
  have s6 : w1.cell? ⟨w.heap.size, 6, none⟩ = some (.int .i64 S.s) := by rw [hc]; rfl
  have s7 : w1.cell? ⟨w.heap.size, 7, none⟩ = some (.int .i64 S.f) := by rw [hc]; rfl
  clear hc hb1 HB
  go_wp2_with fail
  refine hsv.mono ?_
  clear hsv s0 s1 s2 s3 s4 s5 s6 s7
  rintro e w2 (⟨r, v, rfl, hsu, k, FD', hrep, hk, hdv, htold, hst⟩ | hbad)
  · obtain ⟨aP, cP, aT, cT, aS, cS, aG, cG, rfl, hrest⟩ := id hrep
    obtain ⟨cs, hcs⟩ : ∃ cs, rpP r.s r.pl (.slice aP r.pc.length cP) (.slice aT r.tx.length cT) (.slice aS r.st.length cS) (.slice aG r.pg.length cG) = cs := ⟨_, rfl⟩
    have hcl : cs.size = 13 := by rw [← hcs]; rfl
    have hc1 : cs.all (·.oneCell') = true := by rw [← hcs]; exact rpP_one ..
    rw [hcs] at hrep ⊢
    have hFl := HD.out.1.2.1
    have hs1 := H1.out.2.2.2.2
    have hn1 : ¬ FD (w.heap.size + 1) := fun h => by have := hFl _ h; omega
    have hn2 : ¬ FD (w.heap.size + 1 + 1) := fun h => by have := hFl _ h; omega
    obtain ⟨h1, ⟨c0, f0⟩, h3, h4, h5⟩ := both_set (w1 := w2) (cs := cs) ((hst.1.block _ (by omega) hn1).trans H1.out.2.2.1) rfl hcl hc1 ((hst.1.block (w.heap.size + 1 + 1) (by omega) hn2).trans H1.out.2.2.2.1) (by omega) 0
    have HE : Hid (((w2.setRow (w.heap.size + 1) cs).setCell ⟨w.heap.size + 1 + 1, 0, none⟩ (.int .i64 0)).heap[w.heap.size + 1]? = some (.cells cs 33 (0, 0)) ∧ ErrA ((w2.setRow (w.heap.size + 1) cs).setCell ⟨w.heap.size + 1 + 1, 0, none⟩ (.int .i64 0)) (w.heap.size + 1 + 1) 0 ∧ WlE w d FD D0 L N S (.returned (.tuple #[.agg cs, .int .i64 0])) ((w2.setRow (w.heap.size + 1) cs).setCell ⟨w.heap.size + 1 + 1, 0, none⟩ (.int .i64 0))) := by
      obtain ⟨q1, q2⟩ := walk_fin (w := w) (w1 := w1) (by omega) H1.out.1 (by omega) hFl hdv hst h5
      refine ⟨h3, h4, .inr ⟨HD.out.2.2.2.2, .inl ⟨r, .agg cs, rfl, hsu, k, FD', ?_, hk, q1, htold, q2⟩⟩⟩
      refine hrep.keep h5.size (fun g hg _ hl => h5.block g hl (fun e => ?_)) (fun g hg => ?_)
      · rcases hg with h | h
        · have := hFl g h; omega
        · omega
      · rcases hg with h | h
        · exact .inl h
        · right; omega
    have HCL : Hid (cs.size = 13) := hcl
    clear h3 h4 h5 hrep hrest hdv hst hsu htold hk hcs hcl hc1 hn1 hn2
    go_wp2
    refine leaves_cons (f := 28) (args := #[.pointer (some ⟨w.heap.size + 1, 0, none⟩), .pointer (some ⟨w.heap.size + 1 + 1, 0, none⟩)]) (by simp) (by simp [go_sem]) ?_
    refine (wcatch_no (w.heap.size + 1) (w.heap.size + 1 + 1) _).mono ?_
    rintro e u' w'' ⟨rfl, rfl, rfl⟩
    exact ⟨_, results_rc rfl _ _ (w.heap.size + 1) (w.heap.size + 1 + 1) _ 0 rfl rfl HE.out.1 HCL.out HE.out.2.1, HE.out.2.2⟩
  · have hFl := HD.out.1.2.1
    have hs1 := H1.out.2.2.2.2
    have hn1 : ¬ FD (w.heap.size + 1) := fun h => by have := hFl _ h; omega
    have hn2 : ¬ FD (w.heap.size + 1 + 1) := fun h => by have := hFl _ h; omega
    have key : ∀ kk : Int, Ch w1.heap.size FD w1 w2 → (w2.heap[w.heap.size + 1]? = some (.cells rpt0 33 (0, 0)) ∧ ErrA w2 (w.heap.size + 1 + 1) 0) ∧ ((w2.drew.setRow (w.heap.size + 1) rpt0).setCell ⟨w.heap.size + 1 + 1, 0, none⟩ (.int .i64 kk)).heap[w.heap.size + 1]? = some (.cells rpt0 33 (0, 0)) ∧ ErrA ((w2.drew.setRow (w.heap.size + 1) rpt0).setCell ⟨w.heap.size + 1 + 1, 0, none⟩ (.int .i64 kk)) (w.heap.size + 1 + 1) kk ∧ Ch w2.heap.size (fun x => x = w.heap.size + 1 ∨ x = w.heap.size + 1 + 1) w2 ((w2.drew.setRow (w.heap.size + 1) rpt0).setCell ⟨w.heap.size + 1 + 1, 0, none⟩ (.int .i64 kk)) := fun kk hc => by
      have hr := (hc.block _ (by omega) hn1).trans H1.out.2.2.1
      have he : ErrA w2 (w.heap.size + 1 + 1) 0 := (hc.block (w.heap.size + 1 + 1) (by omega) hn2).trans H1.out.2.2.2.1
      obtain ⟨-, -, h3, h4, h5⟩ := both_set (w1 := w2.drew) (cs := rpt0) hr rfl rfl (by rw [rpt0_lit]; simp [Value.oneCell']) he (by omega) kk
      exact ⟨⟨hr, he⟩, h3, h4, (Ch.refl _ _ w2).drew.trans h5⟩
    rcases hbad with ⟨rfl, hno, k, FD', hk, hdv, htold, hst⟩ | ⟨rfl, k, FD', hk, hdv, htold, hnot, hst⟩
    · obtain ⟨⟨hr, he⟩, h3, h4, h5⟩ := key 8 hst.1
      obtain ⟨q1, q2⟩ := walk_fin (w := w) (w1 := w1) (by omega) H1.out.1 (by omega) hFl hdv hst h5
      have HE : Hid (((w2.drew.setRow (w.heap.size + 1) rpt0).setCell ⟨w.heap.size + 1 + 1, 0, none⟩ (.int .i64 8)).heap[w.heap.size + 1]? = some (.cells rpt0 33 (0, 0)) ∧ ErrA ((w2.drew.setRow (w.heap.size + 1) rpt0).setCell ⟨w.heap.size + 1 + 1, 0, none⟩ (.int .i64 8)) (w.heap.size + 1 + 1) 8 ∧ WlE w d FD D0 L N S (.returned (.tuple #[.agg rpt0, .int .i64 8])) ((w2.drew.setRow (w.heap.size + 1) rpt0).setCell ⟨w.heap.size + 1 + 1, 0, none⟩ (.int .i64 8))) := ⟨h3, h4, .inr ⟨HD.out.2.2.2.2, .inr (.inl ⟨rfl, hno, k, FD', hk, q1, htold, q2⟩)⟩⟩
      clear key h3 h4 h5 q1 q2 hdv htold hst hno hk
      unfold thrA
      go_wp2
      refine leaves_cons (f := 28) (args := #[.pointer (some ⟨w.heap.size + 1, 0, none⟩), .pointer (some ⟨w.heap.size + 1 + 1, 0, none⟩)]) (by simp) (by simp [go_sem]) ?_
      refine (wcatch_pan 8 [] hr rfl he (by omega)).mono ?_
      rintro e u' w'' ⟨rfl, rfl, rfl⟩
      exact ⟨_, results_rc rfl _ _ (w.heap.size + 1) (w.heap.size + 1 + 1) _ 8 rfl rfl HE.out.1 rfl HE.out.2.1, HE.out.2.2⟩
    · obtain ⟨⟨hr, he⟩, h3, h4, h5⟩ := key 7 hst.1
      obtain ⟨q1, q2⟩ := walk_fin (w := w) (w1 := w1) (by omega) H1.out.1 (by omega) hFl hdv hst h5
      have HE : Hid (((w2.drew.setRow (w.heap.size + 1) rpt0).setCell ⟨w.heap.size + 1 + 1, 0, none⟩ (.int .i64 7)).heap[w.heap.size + 1]? = some (.cells rpt0 33 (0, 0)) ∧ ErrA ((w2.drew.setRow (w.heap.size + 1) rpt0).setCell ⟨w.heap.size + 1 + 1, 0, none⟩ (.int .i64 7)) (w.heap.size + 1 + 1) 7 ∧ WlE w d FD D0 L N S (.returned (.tuple #[.agg rpt0, .int .i64 7])) ((w2.drew.setRow (w.heap.size + 1) rpt0).setCell ⟨w.heap.size + 1 + 1, 0, none⟩ (.int .i64 7))) := ⟨h3, h4, .inr ⟨HD.out.2.2.2.2, .inr (.inr ⟨rfl, k, FD', hk, q1, htold, hnot, q2⟩)⟩⟩
      clear key h3 h4 h5 q1 q2 hdv htold hst hnot hk
      unfold thrA
      go_wp2
      refine leaves_cons (f := 28) (args := #[.pointer (some ⟨w.heap.size + 1, 0, none⟩), .pointer (some ⟨w.heap.size + 1 + 1, 0, none⟩)]) (by simp) (by simp [go_sem]) ?_
      refine (wcatch_pan 7 [] hr rfl he (by omega)).mono ?_
      rintro e u' w'' ⟨rfl, rfl, rfl⟩
      exact ⟨_, results_rc rfl _ _ (w.heap.size + 1) (w.heap.size + 1 + 1) _ 7 rfl rfl HE.out.1 rfl HE.out.2.1, HE.out.2.2⟩
end Go.Proofs.YtjllhcifmfhkmaaGreat.Oct

/-
  The law's own small functions: a page laid into an image; lines.
-/
namespace Go.Proofs.YtjllhcifmfhkmaaGreat.Oct
open Go.RowKit

def layL (L : List Int) (k : Nat) (Z : List Int) : List Int := L.take (k * 256) ++ (Z ++ L.drop (k * 256 + Z.length))
def layK (L : List Int) (k : Nat) (Z : List Int) (i : Nat) : List Int := L.take (k * 256) ++ (Z.take i ++ L.drop (k * 256 + i))
theorem layK_zero (L : List Int) (k : Nat) (Z : List Int) : layK L k Z 0 = L := by simp [layK]
theorem layK_all (L : List Int) (k : Nat) (Z : List Int) : layK L k Z Z.length = layL L k Z := by simp [layK, layL]
theorem layK_len {L : List Int} {k : Nat} {Z : List Int} {i : Nat} (hi : i ≤ Z.length) (hk : k * 256 + Z.length ≤ L.length) : (layK L k Z i).length = L.length := by
  simp only [layK, List.length_append, List.length_take, List.length_drop]
  omega
theorem layK_succ {L : List Int} {k : Nat} {Z : List Int} {i : Nat} (hi : i < Z.length) (hk : k * 256 + Z.length ≤ L.length) : (layK L k Z i).set (k * 256 + i) (Z.getD i 0) = layK L k Z (i + 1) := by
  unfold layK
  generalize k * 256 = m at hk ⊢
  have h1 : (L.take m).length = m := by rw [List.length_take]; omega
  have h2 : (Z.take i).length = i := by rw [List.length_take]; omega
  rw [List.set_append_right _ _ (by omega), h1, List.set_append_right _ _ (by omega), h2, show m + i - m - i = 0 from by omega, List.drop_eq_getElem_cons (by omega : m + i < L.length), List.set_cons_zero, List.take_succ_eq_append_getElem hi, List.append_assoc, List.singleton_append, List.getD_eq_getElem?_getD, List.getElem?_eq_getElem hi, Option.getD_some, Nat.add_assoc]
theorem Own.cap' {base g n cap : Nat} {w : World} {zs : List Int} (h : Own base w (.slice (Option.some ⟨g, 0, Option.none⟩) n cap) zs) : n = zs.length ∧ n ≤ cap ∧ cap ≤ maxLen := by
  rcases h.2 with ⟨e, _⟩ | ⟨g', cap', cur, e, _, _, h1, h2, _⟩
  · cases e
  · cases e
    exact ⟨rfl, h1, h2⟩

set_option maxHeartbeats 1000000 in
set_option maxRecDepth 4000 in
theorem lay_v {w : World} {base g n cap k : Nat} {L Z : List Int} {a : Option Addr} {cz : Nat} (ho : Own base w (.slice (some ⟨g, 0, none⟩) n cap) L) (hz : Row w a cz Z) (h256 : Z.length = 256) (hk : k * 256 + 256 ≤ n) (_hn : n ≤ 1048576) (hng : ∀ x, a = some x → x.block ≠ g) :
    Calls Tryz.prog 30 #[.slice (some ⟨g, 0, none⟩) n cap, .int .i64 (k : Nat), .slice a 256 cz] w fun e w' => e = .returned (.tuple #[]) ∧ Own base w' (.slice (some ⟨g, 0, none⟩) n cap) (layL L k Z) ∧ Ch w.heap.size (fun x => x = g) w w' := by
  obtain ⟨b, off, rfl, hcz⟩ : ∃ b off, a = some ⟨b, off, none⟩ ∧ ∀ i, i < Z.length → w.cell? ⟨b, off + i, none⟩ = some (.int .u8 (Z.getD i 0)) := by
    rcases hz.2.2.2 with h | h
    · rw [h] at h256; simp at h256
    · exact h
  have hbg : ¬ b = g := hng _ rfl
  have hb : Bys Z := hz.1
  obtain ⟨hlen, hcap, hmax⟩ := ho.cap'
  have hc2 := hz.2.1
  have hc3 := hz.2.2.1
  unfold maxLen at hmax hc3
  have HB : Hid (b < w.heap.size) := block_lt_of_cell (hcz 0 (by omega))
  have HZ : Hid (∀ i, i < 256 → w.cell? ⟨b, off + i, none⟩ = some (.int .u8 (Z.getD i 0))) := fun i hi => hcz i (by omega)
  have HL : Hid (Z.length = 256 ∧ k * 256 + 256 ≤ L.length) := ⟨h256, by omega⟩
  obtain ⟨m, hm⟩ : ∃ m, k * 256 = m := ⟨_, rfl⟩
  have HI0 : Hid (Own base w (.slice (some ⟨g, 0, none⟩) n cap) (layK L k Z 0) ∧ Ch w.heap.size (fun x => x = g) w w) := ⟨by rw [layK_zero]; exact ho, Ch.refl _ _ _⟩
  have hmi : (k : Int) * 256 = (m : Int) := by omega
  have HM : Hid (k * 256 = m) := hm
  clear ho hz hcz hng hlen hm
  go_enter Tryz.func30, Tryz.ntmps30
  go_wp2_with fail
  go_loopg [6] 256 (fun gh i wr => ∃ j : Nat, j ≤ 256 ∧ gh = 256 - j ∧ i = .int .i64 j ∧ Hid (Own base wr (.slice (some ⟨g, 0, none⟩) n cap) (layK L k Z j) ∧ Ch w.heap.size (fun x => x = g) w wr))
  case atStart => exact ⟨0, Nat.zero_le _, rfl, rfl, HI0.out⟩
  case round =>
    clear HI0
    obtain ⟨j, hj, hgk, rfl, HI⟩ := hrel
    have HGK : Hid (gk = 256 - j) := hgk
    clear hgk
    by_cases hlt : j < 256
    · have cj := (HI.out.2.cell (p := ⟨b, off + j, none⟩) HB.out hbg).trans (HZ.out j hlt)
      have hyb := hb.at j
      obtain ⟨-, b1, b2, hst⟩ := own_at' HI.out.1 (m + j) (by have := HL.out; have := HM.out; rw [layK_len (by omega) (by omega)]; omega)
      have HS : Hid (Own base (wr.setCell ⟨g, m + j, none⟩ (.int .u8 (Z.getD j 0))) (.slice (some ⟨g, 0, none⟩) n cap) (layK L k Z (j + 1))) := by
        have := hst (Z.getD j 0)
        rw [← HM.out, layK_succ (by have := HL.out; omega) (by have := HL.out; omega), HM.out] at this
        exact this
      have hmn : m + j < n := by have := HM.out; omega
      clear hst
      obtain ⟨y, hy⟩ : ∃ y, Z.getD j 0 = y := ⟨_, rfl⟩
      rw [hy] at cj hyb HS
      clear hy
      obtain ⟨x, hx⟩ : ∃ x, (layK L k Z j).getD (m + j) 0 = x := ⟨_, rfl⟩
      rw [hx] at b1
      clear hx
      go_wp2
      go_roundg (256 - (j + 1))
      case rel => exact ⟨j + 1, by omega, rfl, by go_num, HS.out, HI.out.2.setCell (p := ⟨g, m + j, none⟩) (.inr rfl) _⟩
      case measure => have := HGK.out; omega
    · obtain rfl : j = 256 := by omega
      have HE : Hid (Ending.returned (.tuple #[]) = .returned (.tuple #[]) ∧ Own base wr (.slice (some ⟨g, 0, none⟩) n cap) (layL L k Z) ∧ Ch w.heap.size (fun x => x = g) w wr) := ⟨rfl, (by rw [← layK_all, HL.out.1]; exact HI.out.1), HI.out.2⟩
      clear HI HZ
      go_wp2
      refine bodyPost_end (results_none rfl _ _ _) rfl ?_
      exact ⟨rfl, HE.out.2⟩

theorem first_v (a : Option Addr) (n c : Nat) (e : Int) (w : World) : Calls Tryz.prog 31 #[.slice a n c, .int .i64 e] w fun e w' => e = .returned (.slice a n c) ∧ w' = w := by
  go_enter Tryz.func31, Tryz.ntmps31
  go_wp2
  go_ret
  exact ⟨rfl, rfl⟩

set_option maxHeartbeats 1000000 in
theorem lines_v {w : World} {b off n c : Nat} {Z : List Int} (hz : Row w (some ⟨b, off, none⟩) c Z) (h1 : 1 ≤ Z.length) (h8 : Z.length ≤ 8) (hn : Z.length = n) :
    Calls Tryz.prog 33 #[.slice (some ⟨b, off, none⟩) n c] w fun e w' => e = .returned (.int .i64 ((Z.count 10 : Nat) : Int)) ∧ w' = w := by
  obtain ⟨hb, hc2, hc3, hc⟩ := hz
  have hcz : ∀ i, i < Z.length → w.cell? ⟨b, off + i, none⟩ = some (.int .u8 (Z.getD i 0)) := by
    rcases hc with h | ⟨b', off', e, h⟩
    · rw [h] at h1; simp at h1
    · cases e; exact h
  unfold maxLen at hc3
  have HZ : Hid (∀ i, i < Z.length → w.cell? ⟨b, off + i, none⟩ = some (.int .u8 (Z.getD i 0))) := hcz
  have HN : Hid (Z.length = n) := hn
  rw [hn] at h1 h8 hc2
  clear hc hcz hn
  have HT : Hid (∀ i, i < n → (Z.take (i + 1)).count 10 = (Z.take i).count 10 + if Z.getD i 0 = 10 then 1 else 0) := fun i hi => by
    have hl : i < Z.length := by have := HN.out; omega
    rw [List.take_succ_eq_append_getElem hl, List.count_append, List.count_singleton, List.getD_eq_getElem?_getD, List.getElem?_eq_getElem hl, Option.getD_some]
    simp
  have HC : Hid (∀ i, (Z.take i).count 10 ≤ i) := fun i => Nat.le_trans List.count_le_length (by rw [List.length_take]; omega)
  go_enter Tryz.func33, Tryz.ntmps33
  go_wp2_with fail
  go_loopg [3, 4] n (fun gh m i wr => ∃ j : Nat, j ≤ n ∧ gh = n - j ∧ m = .int .i64 (((Z.take j).count 10 : Nat) : Int) ∧ i = .int .i64 j ∧ Hid (wr = w))
  case atStart => exact ⟨0, Nat.zero_le _, rfl, by simp, rfl, rfl⟩
  case round =>
    obtain ⟨j, hj, hgk, rfl, rfl, HI⟩ := hrel
    have HGK : Hid (gk = n - j) := hgk
    clear hgk
    obtain rfl := HI.out
    have hcn := HC.out j
    have hct := HT.out j
    obtain ⟨x, hx⟩ : ∃ x, (Z.take j).count 10 = x := ⟨_, rfl⟩
    rw [hx] at hcn hct ⊢
    by_cases hlt : j < n
    · have cj := HZ.out j (by have := HN.out; omega)
      have hyb := hb.at j
      have HX : Hid _ := hct hlt
      clear hct
      obtain ⟨y, hy⟩ : ∃ y, Z.getD j 0 = y := ⟨_, rfl⟩
      rw [hy] at cj hyb HX
      clear hy hx
      by_cases h10 : y = 10
      · subst h10
        go_wp2
        go_roundg (n - (j + 1))
        case rel => exact ⟨j + 1, by omega, rfl, by rw [HX.out]; go_num, by go_num, rfl⟩
        case measure => have := HGK.out; omega
      · have h10' : (y == 10) = false := by rw [beq_eq_false_iff_ne]; exact h10
        go_wp2
        go_roundg (n - (j + 1))
        case rel => exact ⟨j + 1, by omega, rfl, by rw [HX.out, if_neg h10, Nat.add_zero], by go_num, rfl⟩
        case measure => have := HGK.out; omega
    · obtain rfl : j = n := by omega
      have HE : Hid (x = Z.count 10) := by
        show x = _
        rw [← hx, ← HN.out, List.take_length]
      clear hct hx
      go_wp2
      go_ret
      rw [← HE.out]
      exact ⟨rfl, rfl⟩
end Go.Proofs.YtjllhcifmfhkmaaGreat.Oct
