/-
  The document's pool: one, take.
-/
import Derived.Test.YtojckbhbnalkeaaGreatJc
import Derived.StillTailTactics
namespace Go.Proofs.YtojckbhbnalkeaaGreat.Oct
open Go.RowKit

section
variable {w : World} {p q : Nat} {Fd F : Nat → Prop} {vL : Value} {K : List RF} {D : Dv} {N : Nat} {L : List Fr}

/-- A pool, behind a step. -/
theorem RP.fin {w' : World} {Fd' : Nat → Prop} {v' : Value} {K' : List RF} {D' : Dv} (hF : ∀ k, F k → k < w.heap.size) (h' : RPC w' p q Fd' v' K' D' N) (hc : Ch w.heap.size F w w') (hfo : ∀ k, footQ p Fd' v' K' k → F k ∨ w.heap.size ≤ k) :
    ∃ F', RP w' p q F' D' N (K'.map (·.f)) ∧ Step F F' w w' := by
  have s := hc.size
  refine ⟨fun k => F k ∨ (w.heap.size ≤ k ∧ k < w'.heap.size), ⟨fun k hk => ?_, Fd', v', K', h', rfl, fun k hk => ?_⟩, hc, fun k hk => ?_⟩
  · rcases hk with hk | hk
    · have := hF k hk; omega
    · exact hk.2
  · rcases hfo k hk with e | e
    · exact .inl e
    · exact .inr ⟨e, h'.lt k hk⟩
  · rcases hk with hk | hk
    · exact .inl hk
    · exact .inr hk.1

theorem map_eraseK (K : List RF) (i : Nat) : (K.eraseIdx i).map (·.f) = (K.map (·.f)).eraseIdx i := by
  simp [List.eraseIdx_eq_take_drop_succ, List.map_take, List.map_drop]

/-- out, over its blocks. -/
theorem rout_all (h : RP w p q F D N L) (hK : L.length ≤ 5000) (i : Nat) (hi : i < L.length) :
    Calls Tryz.prog 57 #[.pointer (some ⟨p, 0, none⟩), .int .i64 i] w fun e w' => e = .returned (.tuple #[]) ∧ ∃ F', RP w' p q F' D N (L.eraseIdx i) ∧ Step F F' w w' := by
  obtain ⟨hF, Fd, vL, K, h, rfl, hfo⟩ := h
  rw [List.length_map] at hK hi
  refine (rout_any h hK i hi).mono ?_
  rintro e w1 ⟨rfl, v, h1, hc, hv⟩
  refine ⟨rfl, ?_⟩
  rw [← map_eraseK]
  refine RP.fin hF h1 (hc.mono (Nat.le_refl _) (fun k _ e => by rw [e]; exact hfo p (.inl rfl))) (fun k hk => ?_)
  rcases hk with hk | hk | hk | ⟨x, hx, e⟩
  · exact .inl (hfo k (.inl hk))
  · exact .inl (hfo k (.inr (.inl hk)))
  · exact .inr (hv k hk)
  · exact .inl (hfo k (.inr (.inr (.inr ⟨x, mem_erase hx, e⟩))))

theorem rlast_all (h : RP w p q F D N L) (hK : L.length ≤ 5000) (i : Nat) (hi : i < L.length) :
    Calls Tryz.prog 51 #[.pointer (some ⟨p, 0, none⟩), .int .i64 i] w fun e w' => e = .returned (.tuple #[]) ∧ ∃ F', RP w' p q F' D N (L.eraseIdx i ++ [L.getD i fr0]) ∧ Step F F' w w' := by
  obtain ⟨hF, Fd, vL, K, h, rfl, hfo⟩ := h
  rw [List.length_map] at hK hi
  refine (rlast_any h hK i hi).mono ?_
  rintro e w1 ⟨rfl, v, h1, hc, hv⟩
  refine ⟨rfl, ?_⟩
  have e : (K.eraseIdx i ++ [K.getD i rf0]).map (·.f) = (K.map (·.f)).eraseIdx i ++ [(K.map (·.f)).getD i fr0] := by rw [List.map_append, map_eraseK, kmap_getD]; rfl
  rw [← e]
  refine RP.fin hF h1 (hc.mono (Nat.le_refl _) (fun k _ e => by rw [e]; exact hfo p (.inl rfl))) (fun k hk => ?_)
  have hm : K.getD i rf0 ∈ K := by rw [List.getD_eq_getElem?_getD, List.getElem?_eq_getElem hi, Option.getD_some]; exact List.getElem_mem hi
  rcases hk with hk | hk | hk | ⟨x, hx, e⟩
  · exact .inl (hfo k (.inl hk))
  · exact .inl (hfo k (.inr (.inl hk)))
  · exact .inr (hv k hk)
  · rcases List.mem_append.1 hx with hx | hx
    · exact .inl (hfo k (.inr (.inr (.inr ⟨x, mem_erase hx, e⟩))))
    · simp only [List.mem_singleton] at hx
      exact .inl (hfo k (.inr (.inr (.inr ⟨x, by rw [hx]; exact hm, e⟩))))

/-- A frame is written to the device. -/
theorem rwrite_all (h : RP w p q F D N L) (hops : D.ops ≤ 1000000) (hsl : D.since.length ≤ 1000000) (i : Nat) (hi : i < L.length) (hpg : (L.getD i fr0).page < D.n) (hok : (L.getD i fr0).ok) :
    ∃ g cap xg xc, w.cell? ⟨p, 0, none⟩ = some (.pointer (some ⟨q, 0, none⟩)) ∧ w.cell? ⟨p, 2, none⟩ = some (.slice (some ⟨g, 0, none⟩) L.length cap) ∧ w.cell? ⟨g, i * 4, none⟩ = some (.int .i64 (L.getD i fr0).page) ∧ w.cell? ⟨g, i * 4 + 1, none⟩ = some (.int .i64 (L.getD i fr0).pins) ∧ w.cell? ⟨g, i * 4 + 2, none⟩ = some (.bool (L.getD i fr0).dirty) ∧ w.cell? ⟨g, i * 4 + 3, none⟩ = some (.slice (some ⟨xg, 0, none⟩) 256 xc) ∧
      Calls Tryz.prog 60 #[.pointer (some ⟨q, 0, none⟩), .int .i64 (L.getD i fr0).page, .slice (some ⟨xg, 0, none⟩) 256 xc] w fun e w' => e = .returned (.int .i64 (saysD D)) ∧ ∃ F', RP w' p q F' (writeD D (L.getD i fr0).page (L.getD i fr0).b) N L ∧ Step F F' w w' := by
  obtain ⟨hF, Fd, vL, K, h, rfl, hfo⟩ := h
  rw [List.length_map] at hi
  rw [kmap_getD] at hpg hok ⊢
  obtain ⟨c0, c1, c2, z⟩ := h.at
  obtain ⟨g, cap, rfl, hle, hmx, hgl, hz, hcells⟩ := h.opened (by omega)
  obtain ⟨d0, d1, d2, d3⟩ := hcells i hi
  have hm : K.getD i rf0 ∈ K := by rw [List.getD_eq_getElem?_getD, List.getElem?_eq_getElem hi, Option.getD_some]; exact List.getElem_mem hi
  obtain ⟨o1, o2⟩ := h.fr _ hm
  have hx := h.fx _ hm
  refine ⟨g, cap, (K.getD i rf0).g, (K.getD i rf0).c, c0, by rw [List.length_map]; exact c2, d0, d1, d2, d3, ?_⟩
  have hrow := (o1.row' hok.2).2
  refine (rwrite_any h.dev hops hsl _ hpg _ _ _ hrow o2 (fun x e => by cases e; exact hx.2.1)).mono ?_
  rintro e w1 ⟨rfl, Fd', h1, st⟩
  refine ⟨rfl, RP.fin hF (h.step h1 st) (st.1.mono (Nat.le_refl _) (fun k _ e => hfo k (.inr (.inl e)))) (fun k hk => ?_)⟩
  rcases hk with hk | hk | hk | hk
  · exact .inl (hfo k (.inl hk))
  · rcases st.2 k hk with e | e
    · exact .inl (hfo k (.inr (.inl e)))
    · exact .inr e
  · exact .inl (hfo k (.inr (.inr (.inl hk))))
  · exact .inl (hfo k (.inr (.inr (.inr hk))))

/-- The cells that a look at the frames reads. -/
theorem RP.look (h : RP w p q F D N L) : ∃ a cap, w.cell? ⟨p, 0, none⟩ = some (.pointer (some ⟨q, 0, none⟩)) ∧ w.cell? ⟨p, 1, none⟩ = some (.int .i64 N) ∧ w.cell? ⟨p, 2, none⟩ = some (.slice a L.length cap) ∧ L.length ≤ cap ∧ cap ≤ maxLen ∧ ∀ i, i < L.length → ∃ g, a = some ⟨g, 0, none⟩ ∧ w.cell? ⟨g, i * 4, none⟩ = some (.int .i64 (L.getD i fr0).page) ∧ w.cell? ⟨g, i * 4 + 1, none⟩ = some (.int .i64 (L.getD i fr0).pins) ∧ w.cell? ⟨g, i * 4 + 2, none⟩ = some (.bool (L.getD i fr0).dirty) := by
  obtain ⟨hF, Fd, vL, K, h, rfl, hfo⟩ := h
  obtain ⟨c0, c1, c2, z⟩ := h.at
  obtain ⟨a, cap, rfl, h1, h2, h3⟩ := h.vl
  refine ⟨a, cap, c0, c1, by rw [List.length_map]; exact c2, by rw [List.length_map]; exact h1, h2, fun i hi => ?_⟩
  rw [List.length_map] at hi
  obtain ⟨g, cap', e, -, -, -, -, hcells⟩ := h.opened (by omega)
  simp only [Value.slice.injEq, true_and] at e
  rw [kmap_getD]
  exact ⟨g, e.1, (hcells i hi).1, (hcells i hi).2.1, (hcells i hi).2.2.1⟩

theorem rfind_all (h : RP w p q F D N L) (x : Int) : Calls Tryz.prog 48 #[.pointer (some ⟨p, 0, none⟩), .int .i64 x] w fun e w' => e = .returned (.int .i64 (fdV L x)) ∧ w = w' := by
  obtain ⟨hF, Fd, vL, K, h, rfl, hfo⟩ := h
  exact rfind_any h x
theorem rPinned_all (h : RP w p q F D N L) : Calls Tryz.prog 33 #[.pointer (some ⟨p, 0, none⟩)] w fun e w' => e = .returned (.int .i64 (L.filter fitP).length) ∧ w = w' := by
  obtain ⟨hF, Fd, vL, K, h, rfl, hfo⟩ := h
  exact rPinned_any h

def onE (D : Dv) (L : List Fr) : Int := if nuP L 0 < L.length then evE D (L.getD (nuP L 0) fr0) else 0
def onD (D : Dv) (L : List Fr) : Dv := if nuP L 0 < L.length then evD D (L.getD (nuP L 0) fr0) else D
def onL (D : Dv) (L : List Fr) : List Fr := if nuP L 0 < L.length then (if evE D (L.getD (nuP L 0) fr0) = 0 then L.eraseIdx (nuP L 0) else L) else L

set_option maxHeartbeats 4000000 in
set_option maxRecDepth 20000 in
theorem rone_any (h : RP w p q F D N L) (hops : D.ops ≤ 1000000) (hsl : D.since.length ≤ 1000000) (hK : L.length ≤ 5000) (hfr : ∀ f ∈ L, f.page < D.n ∧ f.ok) :
    Calls Tryz.prog 64 #[.pointer (some ⟨p, 0, none⟩)] w fun e w' => e = .returned (.tuple #[.bool (decide (nuP L 0 < L.length)), .int .i64 (onE D L)]) ∧ ∃ F', RP w' p q F' (onD D L) N (onL D L) ∧ Step F F' w w' := by
  obtain ⟨a, cap, c0, c1, c2, hle, hmx, hlook⟩ := h.look
  unfold maxLen at hmx
  have HLK : Hid _ := hlook
  have HP : Hid (RP w p q F D N L) := h
  have HFR : Hid (∀ f ∈ L, f.page < D.n ∧ f.ok) := hfr
  clear h hlook c1 hfr
  go_enter Tryz.func64, Tryz.ntmps64
  go_wp2
  go_loop [4] (fun i => ∃ k : Nat, k ≤ L.length ∧ i = .int .i64 k ∧ Hid (nuP L k = nuP L 0)) (fun i => L.length - (intOf i).toNat)
  case atStart => exact ⟨0, Nat.zero_le _, rfl, rfl⟩
  case round =>
    obtain ⟨k, hk, rfl, hnu⟩ := hrel
    by_cases hlt : k < L.length
    · obtain ⟨g, rfl, d0, d1, d2⟩ := HLK.out k hlt
      by_cases hp0 : (L.getD k fr0).pins = 0
      · have e0 : nuP L 0 = k := by rw [← hnu.out]; exact nuP_hit hlt hp0
        have HD1 : Hid (decide (nuP L 0 < L.length) = true) := by show _ = true; rw [e0]; simpa using hlt
        have HE1 : Hid (onE D L = evE D (L.getD k fr0)) := by show _ = _; unfold onE; rw [e0, if_pos hlt]
        have HE2 : Hid (onD D L = evD D (L.getD k fr0)) := by show _ = _; unfold onD; rw [e0, if_pos hlt]
        have HE3 : Hid (onL D L = if evE D (L.getD k fr0) = 0 then L.eraseIdx k else L) := by show _ = _; unfold onL; rw [e0, if_pos hlt]
        obtain ⟨fp, fo⟩ := HFR.out _ (getD_memF hlt)
        obtain ⟨g', cap', xg, xc, -, c2', -, -, -, d3, hwr⟩ := rwrite_all (w := w.drew) (HP.out.keep (Nat.le_refl _) (fun _ _ => rfl)) hops hsl k hlt fp fo
        have c2' : w.cell? ⟨p, 2, none⟩ = some (.slice (some ⟨g', 0, none⟩) L.length cap') := c2'
        have d3 : w.cell? ⟨g', k * 4 + 3, none⟩ = some (.slice (some ⟨xg, 0, none⟩) 256 xc) := d3
        rw [c2] at c2'
        simp only [Option.some.injEq, Value.slice.injEq, Addr.mk.injEq, and_true, true_and] at c2'
        obtain ⟨rfl, rfl⟩ := c2'
        obtain ⟨f, hf⟩ : ∃ f, L.getD k fr0 = f := ⟨_, rfl⟩
        rw [hf] at d0 d1 d2 hwr hp0 HE1 HE2 HE3
        rw [hp0] at d1
        clear hnu e0 fp fo hp0 HFR
        cases hdt : f.dirty with
        | false =>
          rw [hdt] at d2
          have HE0 : Hid (evE D f = 0 ∧ evD D f = D) := by unfold evE evD; rw [if_neg (by rw [hdt]; simp), if_neg (by rw [hdt]; simp)]; exact ⟨rfl, rfl⟩
          have hou := rout_all HP.out hK k hlt
          clear hwr hdt
          go_wp2_with fail
          refine hou.mono ?_
          clear hou
          rintro e w1 ⟨rfl, F1, h1, st1⟩
          have H1 : Hid (∃ F', RP w1 p q F' D N (L.eraseIdx k) ∧ Step F F' w w1) := ⟨F1, h1, st1⟩
          clear h1 st1
          go_wp2
          go_ret2
          refine ⟨?_, ?_⟩
          · rw [HD1.out, HE1.out, HE0.out.1]; rfl
          · rw [HE2.out, HE3.out, if_pos HE0.out.1, HE0.out.2]; exact H1.out
        | true =>
          rw [hdt] at d2
          have HE0 : Hid (evE D f = saysD D ∧ evD D f = writeD D f.page f.b) := by unfold evE evD; rw [if_pos hdt, if_pos hdt]; exact ⟨rfl, rfl⟩
          clear hdt
          go_wp2_with fail
          go_still_tail 20, (by kernel_rfl)
          by_cases hsay : saysD D = 0
          · rw [hsay] at hwr HE0
            go_wp2_with (go_at_call 60; refine hwr.mono ?_; rintro e w1 ⟨rfl, F1, h1, st1⟩; have H1 : Hid (RP w1 p q F1 (writeD D f.page f.b) N L ∧ Step F F1 w w1) := ⟨h1, st1.undrew⟩; have hou := rout_all h1 hK k hlt; clear h1 st1)
            refine hou.mono ?_
            clear hou
            rintro e w2 ⟨rfl, F2, h2, st2⟩
            have H2 : Hid (∃ F', RP w2 p q F' (writeD D f.page f.b) N (L.eraseIdx k) ∧ Step F F' w w2) := ⟨F2, h2, H1.out.2.trans st2⟩
            clear h2 st2
            go_wp2
            go_ret2
            refine ⟨?_, ?_⟩
            · rw [HD1.out, HE1.out, HE0.out.1]; rfl
            · rw [HE2.out, HE3.out, if_pos HE0.out.1, HE0.out.2]; exact H2.out
          · have hs1 : (saysD D != 0) = true := by simpa using hsay
            have HSY : Hid (¬ saysD D = 0) := hsay
            obtain ⟨sy, hsy⟩ : ∃ sy, saysD D = sy := ⟨_, rfl⟩
            rw [hsy] at hs1 HSY hwr HE0
            clear hsay hsy
            go_wp2_with (go_at_call 60; refine hwr.mono ?_; rintro e w1 ⟨rfl, F1, h1, st1⟩; have H1 : Hid (∃ F', RP w1 p q F' (writeD D f.page f.b) N L ∧ Step F F' w w1) := ⟨F1, h1, st1.undrew⟩; clear h1 st1)
            go_ret2
            refine ⟨?_, ?_⟩
            · rw [HD1.out, HE1.out, HE0.out.1]; rfl
            · rw [HE2.out, HE3.out, if_neg (by rw [HE0.out.1]; exact HSY.out), HE0.out.2]; exact H1.out
      · have HN : Hid (nuP L (k + 1) = nuP L 0) := by show _ = _; rw [← hnu.out]; exact (nuP_skip hlt hp0).symm
        obtain ⟨m, hm⟩ : ∃ m, (L.getD k fr0).pins = m := ⟨_, rfl⟩
        rw [hm] at d1 hp0
        have hp1 : (0 : Int) < m := by omega
        clear hm hp0 hnu
        go_wp2
        go_round
        case rel => exact ⟨k + 1, by omega, by go_num, HN⟩
        case measure => simp [intOf]; omega
    · have hk' : k = L.length := by omega
      subst hk'
      have e0 : nuP L 0 = L.length := by rw [← hnu.out]; exact nuP_end L
      have HD1 : Hid (decide (nuP L 0 < L.length) = false) := by show _ = false; rw [e0]; simp
      have HE1 : Hid (onE D L = 0 ∧ onD D L = D ∧ onL D L = L) := by show onE D L = 0 ∧ onD D L = D ∧ onL D L = L; unfold onE onD onL; rw [e0]; simp
      clear hnu e0
      go_wp2
      go_ret2
      refine ⟨?_, ?_⟩
      · rw [HD1.out, HE1.out.1]; rfl
      · rw [HE1.out.2.1, HE1.out.2.2]; exact ⟨F, HP.out, Step.refl F w⟩

set_option maxHeartbeats 1000000 in
set_option maxRecDepth 20000 in
theorem rtake_any (h : RP w p q F D N L) (hops : D.ops ≤ 1000000) (hsl : D.since.length ≤ 1000000) (hK : L.length ≤ 5000) (hfr : ∀ f ∈ L, f.page < D.n ∧ f.ok) :
    Calls Tryz.prog 49 #[.pointer (some ⟨p, 0, none⟩)] w fun e w' => e = .returned (.int .i64 (tkE D N L)) ∧ ∃ F', RP w' p q F' (tkD D N L) N (tkL D N L) ∧ Step F F' w w' := by
  obtain ⟨a, cap, c0, c1, c2, hle, hmx, hlook⟩ := h.look
  unfold maxLen at hmx
  have hon := rone_any (w := w.drew) (h.keep (Nat.le_refl _) (fun _ _ => rfl)) hops hsl hK hfr
  have HP : Hid (RP w p q F D N L) := h
  clear h hlook c0 hfr
  by_cases hl : L.length < N
  · have HE : Hid (tkE D N L = 0 ∧ tkD D N L = D ∧ tkL D N L = L) := by show _ ∧ _ ∧ _; unfold tkE tkD tkL; rw [if_pos hl, if_pos hl, if_pos hl]; exact ⟨rfl, rfl, rfl⟩
    clear hon
    go_enter Tryz.func49, Tryz.ntmps49
    go_wp2_with fail
    go_still_tail 9, (by kernel_rfl)
    go_wp2
    go_ret
    refine ⟨by rw [HE.out.1]; rfl, ?_⟩
    rw [HE.out.2.1, HE.out.2.2]
    exact ⟨F, HP.out.keep (Nat.le_refl _) (fun _ _ => rfl), (Step.refl F w.drew).undrew⟩
  · by_cases hnu : nuP L 0 < L.length
    · have HE : Hid (tkE D N L = onE D L ∧ tkD D N L = onD D L ∧ tkL D N L = onL D L) := by show _ ∧ _ ∧ _; unfold tkE tkD tkL onE onD onL; rw [if_neg hl, if_neg hl, if_neg hl]; exact ⟨by rw [if_pos hnu, if_pos hnu], rfl, rfl⟩
      rw [decide_eq_true hnu] at hon
      clear hnu
      go_enter Tryz.func49, Tryz.ntmps49
      go_wp2_with fail
      go_still_tail 9, (by kernel_rfl)
      go_wp2_with (go_at_call 64; refine hon.mono ?_; rintro e w1 ⟨rfl, F1, h1, st1⟩; have H1 : Hid (∃ F', RP w1 p q F' (onD D L) N (onL D L) ∧ Step F F' w w1) := ⟨F1, h1, st1.undrew⟩; clear h1 st1)
      go_ret
      refine ⟨by rw [HE.out.1]; rfl, ?_⟩
      rw [HE.out.2.1, HE.out.2.2]
      exact H1.out
    · have HE : Hid (tkE D N L = 6 ∧ tkD D N L = onD D L ∧ tkL D N L = onL D L) := by show _ ∧ _ ∧ _; unfold tkE tkD tkL onD onL; rw [if_neg hl, if_neg hl, if_neg hl, if_neg hnu, if_neg hnu, if_neg hnu]; exact ⟨rfl, rfl, rfl⟩
      rw [decide_eq_false hnu] at hon
      clear hnu
      go_enter Tryz.func49, Tryz.ntmps49
      go_wp2_with fail
      go_still_tail 9, (by kernel_rfl)
      go_wp2_with (go_at_call 64; refine hon.mono ?_; rintro e w1 ⟨rfl, F1, h1, st1⟩; have H1 : Hid (∃ F', RP w1 p q F' (onD D L) N (onL D L) ∧ Step F F' w w1) := ⟨F1, h1, st1.undrew⟩; clear h1 st1)
      go_ret
      refine ⟨by rw [HE.out.1]; rfl, ?_⟩
      rw [HE.out.2.1, HE.out.2.2]
      exact H1.out
end
end Go.Proofs.YtojckbhbnalkeaaGreat.Oct
