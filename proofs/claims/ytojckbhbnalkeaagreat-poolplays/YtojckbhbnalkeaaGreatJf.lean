/-
  The document's pool: Unpin, Forget, Evict.
-/
import Derived.Test.YtojckbhbnalkeaaGreatJe
namespace Go.Proofs.YtojckbhbnalkeaaGreat.Oct
open Go.RowKit

section
variable {w : World} {p q : Nat} {Fd F : Nat → Prop} {vL : Value} {K : List RF} {D : Dv} {N : Nat} {L : List Fr}

/-- A frame's fields, and what is left when one is set. -/
theorem RP.field (h : RP w p q F D N L) (i : Nat) (hi : i < L.length) : ∃ g cap, w.cell? ⟨p, 2, none⟩ = some (.slice (some ⟨g, 0, none⟩) L.length cap) ∧ L.length ≤ cap ∧ cap ≤ maxLen ∧ (∀ k, w.frozen? ⟨g, k, none⟩ = false) ∧ w.cell? ⟨g, i * 4, none⟩ = some (.int .i64 (L.getD i fr0).page) ∧ w.cell? ⟨g, i * 4 + 1, none⟩ = some (.int .i64 (L.getD i fr0).pins) ∧ w.cell? ⟨g, i * 4 + 2, none⟩ = some (.bool (L.getD i fr0).dirty) ∧
    (∃ xg xc, w.cell? ⟨g, i * 4 + 3, none⟩ = some (.slice (some ⟨xg, 0, none⟩) 256 xc) ∧ Own 0 w (.slice (some ⟨xg, 0, none⟩) 256 xc) (L.getD i fr0).b ∧ ¬ g = p) ∧
    (∀ n : Nat, RP (w.setCell ⟨g, i * 4 + 1, none⟩ (.int .i64 n)) p q F D N (L.set i { L.getD i fr0 with pins := n }) ∧ Ch w.heap.size F w (w.setCell ⟨g, i * 4 + 1, none⟩ (.int .i64 n))) ∧
    (∀ b : Bool, RP (w.setCell ⟨g, i * 4 + 2, none⟩ (.bool b)) p q F D N (L.set i { L.getD i fr0 with dirty := b }) ∧ Ch w.heap.size F w (w.setCell ⟨g, i * 4 + 2, none⟩ (.bool b))) := by
  obtain ⟨hF, Fd, vL, K, h, rfl, hfo⟩ := h
  rw [List.length_map] at hi
  rw [kmap_getD]
  obtain ⟨c0, c1, c2, z⟩ := h.at
  obtain ⟨g, cap, rfl, hle, hmx, hgl, hz, hcells⟩ := h.opened (by omega)
  obtain ⟨d0, d1, d2, d3⟩ := hcells i hi
  have hm : K.getD i rf0 ∈ K := by rw [List.getD_eq_getElem?_getD, List.getElem?_eq_getElem hi, Option.getD_some]; exact List.getElem_mem hi
  have hfr := h.fr _ hm
  have hfx := h.fx _ hm
  have hFg : F g := hfo g (.inr (.inr (.inl rfl)))
  have hfin : ∀ (j : Nat) (x : RF) (v : Value), RPC (w.setCell ⟨g, i * 4 + j, none⟩ v) p q Fd (.slice (some ⟨g, 0, none⟩) K.length cap) (K.set i x) D N → x.g = (K.getD i rf0).g → RP (w.setCell ⟨g, i * 4 + j, none⟩ v) p q F D N ((K.map (·.f)).set i x.f) := fun j x v hr hxg => by
    refine ⟨fun k hk => by rw [size_setCell]; exact hF k hk, Fd, _, K.set i x, hr, List.map_set, fun k hk => ?_⟩
    rcases hk with hk | hk | hk | ⟨y, hy, e⟩
    · exact hfo k (.inl hk)
    · exact hfo k (.inr (.inl hk))
    · exact hfo k (.inr (.inr (.inl hk)))
    · rcases List.mem_or_eq_of_mem_set hy with hy | hy
      · exact hfo k (.inr (.inr (.inr ⟨y, hy, e⟩)))
      · exact hfo k (.inr (.inr (.inr ⟨_, hm, by rw [← hxg, ← hy]; exact e⟩)))
  have hch : ∀ (j : Nat) (v : Value), Ch w.heap.size F w (w.setCell ⟨g, i * 4 + j, none⟩ v) := fun j v => (Ch.refl w.heap.size F w).setCell (p := ⟨g, i * 4 + j, none⟩) (.inr hFg) _
  refine ⟨g, cap, by rw [List.length_map]; exact c2, by rw [List.length_map]; exact hle, hmx, hz, d0, d1, d2, ⟨_, _, d3, hfr.1, (h.dL g rfl).2⟩, fun n => ⟨?_, hch 1 _⟩, fun b => ⟨?_, hch 2 _⟩⟩
  · exact hfin 1 ⟨{ (K.getD i rf0).f with pins := n }, (K.getD i rf0).g, (K.getD i rf0).c⟩ _ (h.setF hi (by omega) _ _ rfl hfr ⟨hfx.1, hfx.2.1, fun e => hfx.2.2 (by rw [e]; rfl)⟩) rfl
  · exact hfin 2 ⟨{ (K.getD i rf0).f with dirty := b }, (K.getD i rf0).g, (K.getD i rf0).c⟩ _ (h.setF hi (by omega) _ _ rfl hfr ⟨hfx.1, hfx.2.1, fun e => hfx.2.2 (by rw [e]; rfl)⟩) rfl

theorem pinB_yes {pg : Int} (hf : fiP L pg < L.length) (h : 0 < (L.getD (fiP L pg) fr0).pins) : pinB L pg = true := by unfold pinB; rw [decide_eq_true hf, decide_eq_true h]; rfl
theorem pinB_no {pg : Int} (h : (L.getD (fiP L pg) fr0).pins = 0) : ¬ pinB L pg = true := by unfold pinB; rw [decide_eq_false (p := 0 < _) (by omega), Bool.and_false]; simp
theorem pinB_not {pg : Int} (hf : ¬ fiP L pg < L.length) : ¬ pinB L pg = true := by unfold pinB; rw [decide_eq_false hf]; simp
theorem fgB_yes {pg : Int} (hf : fiP L pg < L.length) (h : (L.getD (fiP L pg) fr0).pins = 0) : fgB L pg = true := by unfold fgB; rw [decide_eq_true hf, decide_eq_true h]; rfl
theorem fgB_no {pg : Int} (h : ¬ (L.getD (fiP L pg) fr0).pins = 0) : fgB L pg = false := by unfold fgB; rw [decide_eq_false h, Bool.and_false]
theorem fgB_not {pg : Int} (hf : ¬ fiP L pg < L.length) : fgB L pg = false := by unfold fgB; rw [decide_eq_false hf]; simp

set_option maxHeartbeats 1000000 in
set_option maxRecDepth 20000 in
theorem rUnpin_any (h : RP w p q F D N L) (hpn : ∀ f ∈ L, f.pins ≤ 1000001) (pg : Int) :
    Calls Tryz.prog 14 #[.pointer (some ⟨p, 0, none⟩), .int .i64 pg] w fun x w' => x = .returned (.int .i64 (unE L pg)) ∧ RP w' p q F D N (unL L pg) ∧ Ch w.heap.size F w w' := by
  have hfi := rfind_all h pg
  by_cases hf : fiP L pg < L.length
  · rw [fdV_yes hf] at hfi
    obtain ⟨g, cap, c2, hle, hmx, hz, d0, d1, d2, ⟨-, -, -, -, hgp⟩, hset, -⟩ := h.field _ hf
    unfold maxLen at hmx
    have hb := hpn _ (getD_memF hf)
    have hz1 := hz (fiP L pg * 4 + 1)
    by_cases h0 : (L.getD (fiP L pg) fr0).pins = 0
    · have HE : Hid (unE L pg = 10 ∧ unL L pg = L) := by
        show _ ∧ _
        unfold unE unL
        rw [if_neg (pinB_no h0), if_neg (pinB_no h0)]
        exact ⟨rfl, rfl⟩
      have HP : Hid (RP w p q F D N L) := h
      rw [h0] at d1
      obtain ⟨i, hi⟩ : ∃ i, fiP L pg = i := ⟨_, rfl⟩
      rw [hi] at hfi d1 hf
      clear h hset h0 hi hb d0 d2 hz hz1 hpn
      go_enter Tryz.func14, Tryz.ntmps14
      go_wp2_with (go_at_call 48; refine hfi.mono ?_; rintro e w1 ⟨rfl, rfl⟩)
      go_ret
      exact ⟨by rw [HE.out.1]; rfl, by rw [HE.out.2]; exact HP.out, Ch.refl _ _ _⟩
    · obtain ⟨m, hm⟩ : ∃ m, (L.getD (fiP L pg) fr0).pins = m + 1 := ⟨(L.getD (fiP L pg) fr0).pins - 1, by omega⟩
      have HE : Hid (unE L pg = 0 ∧ unL L pg = L.set (fiP L pg) { L.getD (fiP L pg) fr0 with pins := m }) := by
        show _ ∧ _
        unfold unE unL
        rw [if_pos (pinB_yes hf (by omega)), if_pos (pinB_yes hf (by omega)), hm]
        exact ⟨rfl, rfl⟩
      have HS : Hid _ := hset m
      rw [hm] at d1 hb
      obtain ⟨i, hi⟩ : ∃ i, fiP L pg = i := ⟨_, rfl⟩
      rw [hi] at hfi d1 hf HS HE hz1
      have hne : (((m : Int) + 1) == 0) = false := by simp; omega
      have hgp' : ¬ p = g := fun e => hgp e.symm
      clear h hset h0 hi d0 d2 hz hpn hm
      go_enter Tryz.func14, Tryz.ntmps14
      go_wp2_with (go_at_call 48; refine hfi.mono ?_; rintro e w1 ⟨rfl, rfl⟩)
      go_ret
      rw [HE.out.1, HE.out.2]
      exact ⟨rfl, HS.out⟩
  · rw [fdV_no hf] at hfi
    have HE : Hid (unE L pg = 10 ∧ unL L pg = L) := by
      show _ ∧ _
      unfold unE unL
      rw [if_neg (pinB_not hf), if_neg (pinB_not hf)]
      exact ⟨rfl, rfl⟩
    have HP : Hid (RP w p q F D N L) := h
    clear h hpn hf
    go_enter Tryz.func14, Tryz.ntmps14
    go_wp2_with (go_at_call 48; refine hfi.mono ?_; rintro e w1 ⟨rfl, rfl⟩)
    go_ret
    exact ⟨by rw [HE.out.1]; rfl, by rw [HE.out.2]; exact HP.out, Ch.refl _ _ _⟩

set_option maxHeartbeats 1000000 in
set_option maxRecDepth 20000 in
theorem rForget_any (h : RP w p q F D N L) (hK : L.length ≤ 5000) (pg : Int) :
    Calls Tryz.prog 19 #[.pointer (some ⟨p, 0, none⟩), .int .i64 pg] w fun x w' => x = .returned (.bool (fgB L pg)) ∧ ∃ F', RP w' p q F' D N (fgL L pg) ∧ Step F F' w w' := by
  have hfi := rfind_all h pg
  by_cases hf : fiP L pg < L.length
  · rw [fdV_yes hf] at hfi
    obtain ⟨g, cap, c2, hle, hmx, hz, d0, d1, d2, -, -, -⟩ := h.field _ hf
    unfold maxLen at hmx
    have hou := rout_all h hK _ hf
    by_cases h0 : (L.getD (fiP L pg) fr0).pins = 0
    · have HE : Hid (fgB L pg = true ∧ fgL L pg = L.eraseIdx (fiP L pg)) := by
        show _ ∧ _
        unfold fgL
        rw [fgB_yes hf h0, if_pos rfl]
        exact ⟨rfl, rfl⟩
      rw [h0] at d1
      obtain ⟨i, hi⟩ : ∃ i, fiP L pg = i := ⟨_, rfl⟩
      rw [hi] at hfi d1 hf hou HE
      clear h h0 hi d0 d2 hz
      go_enter Tryz.func19, Tryz.ntmps19
      go_wp2_with (go_at_call 48; refine hfi.mono ?_; rintro e w1 ⟨rfl, rfl⟩)
      refine hou.mono ?_
      clear hou
      rintro e w1 ⟨rfl, H⟩
      have H1 : Hid _ := H
      clear H
      go_wp2
      go_ret
      rw [HE.out.1, HE.out.2]
      exact ⟨rfl, H1.out⟩
    · have HE : Hid (fgB L pg = false ∧ fgL L pg = L) := by
        show _ ∧ _
        unfold fgL
        rw [fgB_no h0, if_neg (by simp)]
        exact ⟨rfl, rfl⟩
      have HP : Hid (RP w p q F D N L) := h
      obtain ⟨m, hm⟩ : ∃ m, (L.getD (fiP L pg) fr0).pins = m := ⟨_, rfl⟩
      rw [hm] at d1 h0
      have hp1 : (0 : Int) < m := by omega
      obtain ⟨i, hi⟩ : ∃ i, fiP L pg = i := ⟨_, rfl⟩
      rw [hi] at hfi d1 hf
      clear h h0 hi d0 d2 hz hou hm
      go_enter Tryz.func19, Tryz.ntmps19
      go_wp2_with (go_at_call 48; refine hfi.mono ?_; rintro e w1 ⟨rfl, rfl⟩)
      go_ret
      rw [HE.out.1, HE.out.2]
      exact ⟨rfl, F, HP.out, Step.refl F w⟩
  · rw [fdV_no hf] at hfi
    have HE : Hid (fgB L pg = false ∧ fgL L pg = L) := by
      show _ ∧ _
      unfold fgL
      rw [fgB_not hf, if_neg (by simp)]
      exact ⟨rfl, rfl⟩
    have HP : Hid (RP w p q F D N L) := h
    clear h hf
    go_enter Tryz.func19, Tryz.ntmps19
    go_wp2_with (go_at_call 48; refine hfi.mono ?_; rintro e w1 ⟨rfl, rfl⟩)
    go_ret
    rw [HE.out.1, HE.out.2]
    exact ⟨rfl, F, HP.out, Step.refl F w⟩
end
end Go.Proofs.YtojckbhbnalkeaaGreat.Oct

/-
  The document's pool: Evict.
-/
namespace Go.Proofs.YtojckbhbnalkeaaGreat.Oct
open Go.RowKit

theorem evD_bd (D : Dv) (f : Fr) : (evD D f).n = D.n ∧ (evD D f).ops ≤ D.ops + 1 ∧ (evD D f).since.length ≤ D.since.length + 1 := by
  unfold evD
  split
  · have := writeD_ops D f.page f.b
    exact ⟨writeD_n _ _ _, by omega, by omega⟩
  · exact ⟨rfl, by omega, by omega⟩

section
variable {w : World} {p q : Nat} {F : Nat → Prop} {D : Dv} {N : Nat} {L : List Fr}

set_option maxHeartbeats 2000000 in
set_option maxRecDepth 20000 in
theorem rEvict_any (h : RP w p q F D N L) (hops : D.ops ≤ 900000) (hsl : D.since.length ≤ 900000) (hK : L.length ≤ 5000) (hfr : ∀ f ∈ L, f.page < D.n ∧ f.ok) (n : Int) (hn : -9223372036854775808 ≤ n ∧ n ≤ 9223372036854775807) :
    Calls Tryz.prog 23 #[.pointer (some ⟨p, 0, none⟩), .int .i64 n] w fun x w' => x = .returned (.int .i64 (evS n.toNat D L).1) ∧ ∃ F', RP w' p q F' (evS n.toNat D L).2.1 N (evS n.toNat D L).2.2 ∧ Step F F' w w' := by
  have HP : Hid (RP w p q F D N L) := h
  have HFR : Hid (∀ f ∈ L, f.page < D.n ∧ f.ok) := hfr
  clear h hfr
  obtain ⟨hn1, hn2⟩ := hn
  go_enter Tryz.func23, Tryz.ntmps23
  go_wp2
  go_loopw [5] (fun i wr => ∃ (k : Nat) (F' : Nat → Prop) (D' : Dv) (L' : List Fr), i = .int .i64 k ∧ k + L'.length ≤ L.length ∧ (0 < k → (k : Int) ≤ n) ∧ Hid (RP wr p q F' D' N L' ∧ Step F F' w wr) ∧ Hid (evS n.toNat D L = evS (n.toNat - k) D' L') ∧ Hid (D'.ops ≤ D.ops + k ∧ D'.since.length ≤ D.since.length + k ∧ D'.n = D.n) ∧ Hid (∀ f ∈ L', f.page < D.n ∧ f.ok)) (fun i _ => n.toNat - (intOf i).toNat)
  case atStart => exact ⟨0, F, D, L, rfl, by omega, fun e => by omega, ⟨HP.out, Step.refl F w⟩, by show _ = _; rw [Nat.sub_zero], ⟨Nat.le_refl _, Nat.le_refl _, rfl⟩, HFR.out⟩
  case round =>
    obtain ⟨k, F', D', L', rfl, hkL, hkn, HR, HE, HB, HF'⟩ := hrel
    clear HP HFR
    by_cases hlt : (k : Int) < n
    · obtain ⟨m, hm⟩ : ∃ m, n.toNat - k = m + 1 := ⟨n.toNat - k - 1, by omega⟩
      rw [hm] at HE
      obtain ⟨b1, b2, b3⟩ := HB.out
      have hon := rone_any HR.out.1 (by omega) (by omega) (by omega) (fun f hf => by rw [b3]; exact HF'.out f hf)
      by_cases hnu : nuP L' 0 < L'.length
      · have e1 : onE D' L' = evE D' (L'.getD (nuP L' 0) fr0) := if_pos hnu
        have e2 : onD D' L' = evD D' (L'.getD (nuP L' 0) fr0) := if_pos hnu
        have e3 : onL D' L' = if evE D' (L'.getD (nuP L' 0) fr0) = 0 then L'.eraseIdx (nuP L' 0) else L' := if_pos hnu
        have hbd := evD_bd D' (L'.getD (nuP L' 0) fr0)
        by_cases hev : evE D' (L'.getD (nuP L' 0) fr0) = 0
        · have HE2 : Hid (evS n.toNat D L = evS (n.toNat - (k + 1)) (evD D' (L'.getD (nuP L' 0) fr0)) (L'.eraseIdx (nuP L' 0))) := by
            show _ = _
            rw [HE.out]
            show (if nuP L' 0 < L'.length then _ else _ : Int × Dv × List Fr) = _
            rw [if_pos hnu, if_pos hev, show n.toNat - (k + 1) = m by omega]
          have hlen : (L'.eraseIdx (nuP L' 0)).length = L'.length - 1 := List.length_eraseIdx_of_lt hnu
          have hpos : 0 < L'.length := by omega
          have HF2 : Hid (∀ f ∈ L'.eraseIdx (nuP L' 0), f.page < D.n ∧ f.ok) := fun f hf => HF'.out f (List.mem_of_mem_eraseIdx hf)
          rw [e1, e2, e3, hev, if_pos rfl, decide_eq_true hnu] at hon
          obtain ⟨D2, hD2⟩ : ∃ D2, evD D' (L'.getD (nuP L' 0) fr0) = D2 := ⟨_, rfl⟩
          obtain ⟨L2, hL2⟩ : ∃ L2, L'.eraseIdx (nuP L' 0) = L2 := ⟨_, rfl⟩
          rw [hD2, hL2] at hon HE2
          rw [hL2] at hlen HF2
          rw [hD2] at hbd
          have HBD : Hid (D2.ops ≤ D.ops + (k + 1) ∧ D2.since.length ≤ D.since.length + (k + 1) ∧ D2.n = D.n) := ⟨by omega, by omega, by omega⟩
          clear e1 e2 e3 hev hnu hD2 hL2 hbd b1 b2 b3 HE
          go_wp2_with fail
          refine hon.mono ?_
          clear hon
          rintro e w1 ⟨rfl, F1, h1, st1⟩
          have H1 : Hid (RP w1 p q F1 D2 N L2 ∧ Step F F1 w w1) := ⟨h1, HR.out.2.trans st1⟩
          clear h1 st1
          go_wp2
          go_roundw
          case rel => exact ⟨k + 1, F1, D2, L2, by go_num, by omega, fun _ => by omega, H1.out, HE2.out, HBD.out, HF2.out⟩
          case measure => simp [intOf]; omega
        · have HE2 : Hid (evS n.toNat D L = (evE D' (L'.getD (nuP L' 0) fr0), evD D' (L'.getD (nuP L' 0) fr0), L')) := by
            show _ = _
            rw [HE.out]
            show (if nuP L' 0 < L'.length then _ else _ : Int × Dv × List Fr) = _
            rw [if_pos hnu, if_neg hev]
          rw [e1, e2, e3, if_neg hev, decide_eq_true hnu] at hon
          obtain ⟨z, hz⟩ : ∃ z, evE D' (L'.getD (nuP L' 0) fr0) = z := ⟨_, rfl⟩
          rw [hz] at hon HE2 hev
          have hz1 : (z != 0) = true := by simpa using hev
          clear e1 e2 e3 hev hnu hbd b1 b2 b3 HE hz
          go_wp2_with fail
          refine hon.mono ?_
          clear hon
          rintro e w1 ⟨rfl, F1, h1, st1⟩
          have H1 : Hid (∃ F', RP w1 p q F' (evD D' (L'.getD (nuP L' 0) fr0)) N L' ∧ Step F F' w w1) := ⟨F1, h1, HR.out.2.trans st1⟩
          clear h1 st1
          go_wp2
          go_ret
          rw [HE2.out]
          exact ⟨rfl, H1.out⟩
      · have HE2 : Hid (evS n.toNat D L = (0, D', L')) := by
          show _ = _
          rw [HE.out]
          show (if nuP L' 0 < L'.length then _ else _ : Int × Dv × List Fr) = _
          rw [if_neg hnu]
        have e2 : onD D' L' = D' := if_neg hnu
        have e3 : onL D' L' = L' := if_neg hnu
        rw [e2, e3, decide_eq_false hnu] at hon
        clear e2 e3 hnu b1 b2 b3 HE
        go_wp2_with fail
        refine hon.mono ?_
        clear hon
        rintro e w1 ⟨rfl, F1, h1, st1⟩
        have H1 : Hid (∃ F', RP w1 p q F' D' N L' ∧ Step F F' w w1) := ⟨F1, h1, HR.out.2.trans st1⟩
        clear h1 st1
        go_wp2
        go_ret
        rw [HE2.out]
        exact ⟨rfl, H1.out⟩
    · have HE2 : Hid (evS n.toNat D L = (0, D', L')) := by
        show _ = _
        rw [HE.out, show n.toNat - k = 0 by omega]
        rfl
      have H1 : Hid (∃ F', RP wr p q F' D' N L' ∧ Step F F' w wr) := ⟨F', HR.out⟩
      clear HE
      go_wp2
      go_ret
      rw [HE2.out]
      exact ⟨rfl, H1.out⟩
end
end Go.Proofs.YtojckbhbnalkeaaGreat.Oct
