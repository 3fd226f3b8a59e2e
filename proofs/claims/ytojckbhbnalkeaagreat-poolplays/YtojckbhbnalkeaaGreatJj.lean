/-
  The document's pool: Flush.
-/
import Derived.Test.YtojckbhbnalkeaaGreatJh
namespace Go.Proofs.YtojckbhbnalkeaaGreat.Oct
open Go.RowKit

/-- A row of ints apart from the blocks F. -/
def UsedI (B : Nat) (w : World) (F : Nat → Prop) (v : Value) (us : List Int) : Prop := OwnI B w v us ∧ ∀ g, v.ownBlock = some g → ¬ F g
theorem UsedI.step {B : Nat} {w w' : World} {F F' : Nat → Prop} {v : Value} {us : List Int} (h : UsedI B w F v us) (st : Step F F' w w') : UsedI B w' F' v us :=
  ⟨owns_keep h.1 (fun g hg => st.1.block g (World.ownsRow.lt h.1 g hg).2 (h.2 g hg)), fun g hg e1 => by
    rcases st.2 g e1 with e2 | e2
    · exact h.2 g hg e2
    · have := (World.ownsRow.lt h.1 g hg).2; omega⟩

section
variable {w : World} {p q : Nat} {F : Nat → Prop} {D : Dv} {N : Nat} {L : List Fr}

set_option maxHeartbeats 4000000 in
set_option maxRecDepth 20000 in
theorem rFlush_any (h : RP w p q F D N L) (hops : D.ops ≤ 900000) (hsl : D.since.length ≤ 900000) (hK : L.length ≤ 5000) (hn : (L.map (·.page)).Nodup) (hfr : ∀ f ∈ L, f.page < D.n ∧ f.ok) :
    Calls Tryz.prog 21 #[.pointer (some ⟨p, 0, none⟩)] w fun x w' => x = .returned (.int .i64 (flS (pgsP L fitD) D L).1) ∧ ∃ F', RP w' p q F' (flS (pgsP L fitD) D L).2.1 N (flS (pgsP L fitD) D L).2.2 ∧ Step F F' w w' := by
  have hdi := rDirty_any h hn (fun f hf => (hfr f hf).1)
  have hzl : (pgsP L fitD).length ≤ L.length := by rw [pgsP_len]; exact List.length_filter_le _ _
  have hz0 : ∀ z ∈ pgsP L fitD, fiP L z < L.length := fun z hz => by
    unfold pgsP at hz
    rw [(srt_perm _).mem_iff] at hz
    obtain ⟨f, hf, e⟩ := List.mem_map.1 hz
    exact (fiP_some ⟨f, (List.mem_filter.1 hf).1, e⟩).1
  obtain ⟨zs, hzs⟩ : ∃ zs, pgsP L fitD = zs := ⟨_, rfl⟩
  rw [hzs] at hdi hzl hz0 ⊢
  have HP : Hid (RP w p q F D N L) := h
  have HZ : Hid (∀ z ∈ zs, fiP L z < L.length) := hz0
  have HFR : Hid (∀ f ∈ L, f.page < D.n ∧ f.ok) := hfr
  clear h hz0 hfr hzs hn
  go_enter Tryz.func21, Tryz.ntmps21
  go_wp2_with fail
  refine hdi.mono ?_
  clear hdi
  rintro x w1 ⟨a, c, rfl, ho1, hb1⟩
  have HU1 : Hid (UsedI w.heap.size w1 F (.slice a zs.length c) zs) := ⟨ho1, fun g hg e => by have := (World.ownsRow.lt ho1 g hg).1; have := HP.out.1 g e; omega⟩
  have HP1 : Hid (RP w1 p q F D N L ∧ Step F F w w1) := ⟨HP.out.below hb1, Step.ofB hb1⟩
  clear ho1 hb1 HP
  go_wp2_with fail
  go_loopw [4] (fun i wr => ∃ (k : Nat) (F' : Nat → Prop) (D' : Dv) (L' : List Fr), k ≤ zs.length ∧ i = .int .i64 k ∧ Hid (RP wr p q F' D' N L' ∧ Step F F' w wr) ∧ Hid (UsedI w.heap.size wr F' (.slice a zs.length c) zs) ∧ Hid (flS zs D L = flS (zs.drop k) D' L') ∧ Hid (D'.ops ≤ D.ops + k ∧ D'.since.length ≤ D.since.length + k ∧ D'.n = D.n ∧ L'.length = L.length) ∧ Hid (∀ z ∈ zs, fiP L' z < L'.length) ∧ Hid (∀ f ∈ L', f.page < D.n ∧ f.ok)) (fun i _ => zs.length - (intOf i).toNat)
  case atStart => exact ⟨0, F, D, L, Nat.zero_le _, rfl, HP1.out, HU1.out, rfl, ⟨Nat.le_refl _, Nat.le_refl _, rfl, rfl⟩, HZ.out, HFR.out⟩
  case round =>
    obtain ⟨k, F', D', L', hk, rfl, HR, HU, HE, HB, HZ', HF'⟩ := hrel
    clear HP1 HU1 HZ HFR
    by_cases hlt : k < zs.length
    · obtain ⟨z, hz⟩ : ∃ z, zs.getD k 0 = z := ⟨_, rfl⟩
      have hzm : z ∈ zs := by rw [← hz, List.getD_eq_getElem?_getD, List.getElem?_eq_getElem hlt, Option.getD_some]; exact List.getElem_mem hlt
      have hdr : zs.drop k = z :: zs.drop (k + 1) := by
        rw [List.drop_eq_getElem_cons hlt]
        rw [List.getD_eq_getElem?_getD, List.getElem?_eq_getElem hlt, Option.getD_some] at hz
        rw [hz]
      obtain ⟨b1, b2, b3, b4⟩ := HB.out
      have hfl := HZ'.out z hzm
      have hfm := getD_memF hfl
      have hpz : ((L'.getD (fiP L' z) fr0).page : Int) = z := by
        have := List.findIdx_getElem (w := hfl)
        simp only [decide_eq_true_eq] at this
        rw [List.getD_eq_getElem?_getD, List.getElem?_eq_getElem hfl, Option.getD_some]
        exact this
      have hfi := rfind_all HR.out.1 z
      rw [fdV_yes hfl] at hfi
      obtain ⟨fp, fo⟩ := HF'.out _ hfm
      obtain ⟨g', cap', xg, xc, c0, c2, -, -, -, d3, hwr⟩ := rwrite_all (w := wr.drew) (HR.out.1.keep (Nat.le_refl _) (fun _ _ => rfl)) (by omega) (by omega) _ hfl (by rw [b3]; exact fp) fo
      have c0 : wr.cell? ⟨p, 0, none⟩ = some (.pointer (some ⟨q, 0, none⟩)) := c0
      have c2 : wr.cell? ⟨p, 2, none⟩ = some (.slice (some ⟨g', 0, none⟩) L'.length cap') := c2
      have d3 : wr.cell? ⟨g', fiP L' z * 4 + 3, none⟩ = some (.slice (some ⟨xg, 0, none⟩) 256 xc) := d3
      obtain ⟨a', cc', hv', hrow⟩ := HU.out.1.row
      simp only [Value.slice.injEq] at hv'
      obtain ⟨rfl, -, rfl⟩ := hv'
      obtain ⟨zb, zo, rfl, hcz⟩ := hrow.at' k hlt
      rw [hz] at hcz
      have HST : Hid (flS zs D L = if saysD D' = 0 then flS (zs.drop (k + 1)) (writeD D' (L'.getD (fiP L' z) fr0).page (L'.getD (fiP L' z) fr0).b) (L'.set (fiP L' z) { L'.getD (fiP L' z) fr0 with dirty := false }) else (saysD D', writeD D' (L'.getD (fiP L' z) fr0).page (L'.getD (fiP L' z) fr0).b, L')) := by
        show _ = _
        rw [HE.out, hdr]
        rfl
      have HSET : Hid (∀ y : Int, fiP (L'.set (fiP L' z) { L'.getD (fiP L' z) fr0 with dirty := false }) y = fiP L' y) := fun y => fiP_set (f := { L'.getD (fiP L' z) fr0 with dirty := false }) hfl rfl y
      have hwo := writeD_ops D' (L'.getD (fiP L' z) fr0).page (L'.getD (fiP L' z) fr0).b
      have hwn := writeD_n D' (L'.getD (fiP L' z) fr0).page (L'.getD (fiP L' z) fr0).b
      have HF2 : Hid (∀ f ∈ L'.set (fiP L' z) { L'.getD (fiP L' z) fr0 with dirty := false }, f.page < D.n ∧ f.ok) := fun f hf => by
        rcases List.mem_or_eq_of_mem_set hf with hf | hf
        · exact HF'.out f hf
        · rw [hf]; exact ⟨fp, fo⟩
      rw [hpz] at hwr
      obtain ⟨D2, hD2⟩ : ∃ D2, writeD D' (L'.getD (fiP L' z) fr0).page (L'.getD (fiP L' z) fr0).b = D2 := ⟨_, rfl⟩
      rw [hD2] at hwr HST hwo hwn
      have HBD : Hid (D2.ops ≤ D.ops + (k + 1) ∧ D2.since.length ≤ D.since.length + (k + 1) ∧ D2.n = D.n) := ⟨by omega, by omega, by omega⟩
      have hcap : L'.length ≤ cap' ∧ cap' ≤ maxLen := by
        obtain ⟨a9, cap9, -, -, c29, h91, h92, -⟩ := HR.out.1.look
        rw [c2] at c29
        simp only [Option.some.injEq, Value.slice.injEq] at c29
        obtain ⟨-, -, rfl⟩ := c29
        exact ⟨h91, h92⟩
      unfold maxLen at hcap
      obtain ⟨i, hi⟩ : ∃ i, fiP L' z = i := ⟨_, rfl⟩
      have HI : Hid (fiP L' z = i) := hi
      rw [hi] at hfi hfl d3
      have hL5 : L'.length ≤ 5000 := by omega
      have B4 : Hid (L'.length = L.length) := b4
      clear HE hdr hz hfm hpz fp fo hD2 hwo hwn b1 b2 b3 b4 hrow hi hzm
      go_wp2_with fail
      refine hfi.mono ?_
      clear hfi
      rintro x w2 ⟨rfl, rfl⟩
      go_wp2_with fail
      go_still_tail 16, (by kernel_rfl)
      by_cases hsay : saysD D' = 0
      · rw [hsay] at hwr HST
        rw [if_pos rfl] at HST
        rw [HI.out] at HST HSET HF2
        clear hsay
        go_wp2_with (go_at_call 60; refine hwr.mono ?_; rintro e w3 ⟨rfl, F3, h3, st3⟩; obtain ⟨g3, cap3, c23, hle3, hmx3, hz3, -, -, d23, -, -, hset3⟩ := h3.field i hfl; have hz32 := hz3 (i * 4 + 2); have HS3 : Hid _ := hset3 false; have HST3 : Hid (Step F' F3 wr w3) := st3.undrew; clear h3 st3 hset3 hz3; unfold maxLen at hmx3)
        go_roundw
        case rel =>
          have st4 := HST3.out.trans (Step.of HS3.out.2)
          refine ⟨k + 1, F3, D2, _, by omega, by go_num, ⟨HS3.out.1, HR.out.2.trans st4⟩, HU.out.step st4, HST.out, ⟨HBD.out.1, HBD.out.2.1, HBD.out.2.2, by rw [List.length_set]; exact B4.out⟩, fun y hy => ?_, HF2.out⟩
          rw [HSET.out, List.length_set]
          exact HZ'.out y hy
        case measure => simp [intOf]; omega
      · have hs1 : (saysD D' != 0) = true := by simpa using hsay
        rw [if_neg hsay] at HST
        obtain ⟨sy, hsy⟩ : ∃ sy, saysD D' = sy := ⟨_, rfl⟩
        rw [hsy] at hs1 hwr HST
        clear hsay hsy
        go_wp2_with (go_at_call 60; refine hwr.mono ?_; rintro e w3 ⟨rfl, F3, h3, st3⟩; have H3 : Hid (∃ F', RP w3 p q F' D2 N L' ∧ Step F F' w w3) := ⟨F3, h3, HR.out.2.trans st3.undrew⟩; clear h3 st3)
        go_ret
        rw [HST.out]
        exact ⟨rfl, H3.out⟩
    · have hkz : k = zs.length := by omega
      subst hkz
      have HE2 : Hid (flS zs D L = (0, D', L')) := by
        show _ = _
        rw [HE.out, List.drop_length]
        rfl
      have H1 : Hid (∃ F', RP wr p q F' D' N L' ∧ Step F F' w wr) := ⟨F', HR.out⟩
      clear HE
      go_wp2
      go_ret
      rw [HE2.out]
      exact ⟨rfl, H1.out⟩
end
end Go.Proofs.YtojckbhbnalkeaaGreat.Oct

/-
  The document's pool: what Pin needs.
-/
namespace Go.Proofs.YtojckbhbnalkeaaGreat.Oct
open Go.RowKit

section
variable {w : World} {p q : Nat} {F : Nat → Prop} {D : Dv} {N : Nat} {L : List Fr}

theorem rread_all (h : RP w p q F D N L) (hops : D.ops ≤ 1000000) (pg : Nat) (hpg : pg < D.n) :
    Calls Tryz.prog 50 #[.pointer (some ⟨q, 0, none⟩), .int .i64 pg] w fun e w' => ReadEnd D pg w e w' ∧ RP w' p q F (readD D) N L ∧ Ch w.heap.size F w w' := by
  obtain ⟨hF, Fd, vL, K, h, rfl, hfo⟩ := h
  refine (rread_any h.dev hops pg hpg).mono ?_
  rintro e w1 ⟨h1, h2, h3⟩
  refine ⟨h1, ⟨fun k hk => Nat.lt_of_lt_of_le (hF k hk) h3.size, Fd, vL, K, h.step h2 (Step.of h3), rfl, hfo⟩, h3.mono (Nat.le_refl _) (fun k _ e => hfo k (.inr (.inl e)))⟩

theorem rpage_all (h : RP w p q F D N L) (pg : Int) :
    Calls Tryz.prog 47 #[.pointer (some ⟨q, 0, none⟩), .int .i64 pg] w fun e w' => e = .returned (.bool (decide (0 ≤ pg ∧ pg < D.n))) ∧ w = w' := by
  obtain ⟨Fd, hd, -⟩ := h.dev
  exact rpage_any hd pg

/-- A frame is appended, over the blocks. -/
theorem RP.pushed (h : RP w p q F D N L) : ∃ a cap xs, w.cell? ⟨p, 2, none⟩ = some (.slice a L.length cap) ∧ p < w.heap.size ∧ w.ownsRow 0 81 4 (.slice a L.length cap) L.length xs ∧
    ∀ (w2 : World) (g2 cap2 : Nat) (o : Obj) (f : Fr) (xg xc : Nat), w2.ownsRow 0 81 4 (.slice (some ⟨g2, 0, none⟩) (L.length + 1) cap2) (L.length + 1) (xs ++ [.int .i64 f.page, .int .i64 f.pins, .bool f.dirty, .slice (some ⟨xg, 0, none⟩) 256 xc]) → (w.alloc o).grownBy w2 (Value.slice a L.length cap).ownBlock → ((Value.slice a L.length cap).ownBlock = some g2 ∨ g2 = w.heap.size + 1) →
      Own 0 w (.slice (some ⟨xg, 0, none⟩) 256 xc) f.b → f.b.length = 256 → ∀ w0 : World, (∀ k, F k → k < w0.heap.size) → Step F F w0 w → w0.heap.size ≤ xg →
      (w2.cell? ⟨p, 2, none⟩ = some (.slice a L.length cap) ∧ w2.frozen? ⟨p, 2, none⟩ = false) ∧ ∃ F', RP (w2.setCell ⟨p, 2, none⟩ (.slice (some ⟨g2, 0, none⟩) (L.length + 1) cap2)) p q F' D N (L ++ [f]) ∧ Step F F' w0 (w2.setCell ⟨p, 2, none⟩ (.slice (some ⟨g2, 0, none⟩) (L.length + 1) cap2)) := by
  obtain ⟨hF, Fd, vL, K, h, rfl, hfo⟩ := h
  obtain ⟨c0, c1, c2, z⟩ := h.at
  obtain ⟨a, cap, rfl, h1, h2, h3⟩ := h.vl
  have hpl : p < w.heap.size := h.lt p (.inl rfl)
  rw [List.length_map]
  refine ⟨a, cap, kcells K, c2, hpl, h.row, fun w2 g2 cap2 o f xg xc ho hg hat hx hl w0 hF0 st0 hxg => ?_⟩
  have hnF : ¬ F xg := fun e => by have := hF0 xg e; omega
  have hpv : (Value.slice a K.length cap).ownBlock ≠ some p := fun e => (h.dL p e).2 rfl
  have hb : w2.heap[p]? = w.heap[p]? := (hg.block p (by simp; omega) (fun e => hpv e.symm)).trans (Below.heap_alloc _ _ _ hpl)
  have hp2 := h.push (x := ⟨f, xg, xc⟩) ho hg hat ⟨hx, hl⟩ ⟨fun (e : xg = p) => hnF (e ▸ hfo p (.inl rfl)), fun (e : Fd xg) => hnF (hfo xg (.inr (.inl e))), fun (e : _ = some xg) => hnF (hfo xg (.inr (.inr (.inl e))))⟩
  refine ⟨⟨(World.cell?_of_block (w := w) (a := ⟨p, 2, none⟩) hb).trans c2, (World.frozen?_of_block (w := w) (a := ⟨p, 2, none⟩) hb).trans (z 2)⟩, ?_⟩
  have e : (K ++ [(⟨f, xg, xc⟩ : RF)]).map (·.f) = K.map (·.f) ++ [f] := by simp
  rw [← e]
  have hs0 := st0.1.size
  refine RP.fin hF0 hp2.1 (st0.1.trans (hp2.2.mono hs0 (fun k _ e => ?_))) (fun k hk => ?_)
  · rcases e with e | e
    · rw [e]; exact hfo p (.inl rfl)
    · exact hfo k (.inr (.inr (.inl e)))
  · rcases hk with hk | hk | hk | ⟨x, hx', e⟩
    · exact .inl (hfo k (.inl hk))
    · exact .inl (hfo k (.inr (.inl hk)))
    · simp [Value.ownBlock] at hk
      subst hk
      rcases hat with e | e
      · exact .inl (hfo _ (.inr (.inr (.inl e))))
      · exact .inr (by omega)
    · rcases List.mem_append.1 hx' with hx' | hx'
      · exact .inl (hfo k (.inr (.inr (.inr ⟨x, hx', e⟩))))
      · simp only [List.mem_singleton] at hx'
        rw [hx'] at e
        exact .inr (by rw [← e]; exact hxg)
end
end Go.Proofs.YtojckbhbnalkeaaGreat.Oct
