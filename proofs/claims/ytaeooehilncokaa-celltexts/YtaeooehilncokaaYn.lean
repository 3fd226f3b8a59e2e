/-
  cell's readCells.
-/
import Derived.Test.YtaeooehilncokaaYm
import Derived.Deep.CutBlock
import Derived.Deep.DeepCutAuto
import Derived.Deep.RegionWith
namespace Go.Proofs.Ytaeooehilncokaa.Oct
open Go.RowKit

theorem cell_wrote (w : World) (B : Nat) (y0 y1 y2 y3 : Value) (a j : Nat) (h : a ≠ B) :
    ((((w.setCell ⟨B, 0, none⟩ y0).setCell ⟨B, 1, none⟩ y1).setCell ⟨B, 2, none⟩ y2).setCell ⟨B, 3, none⟩ y3).cell? ⟨a, j, none⟩ = w.cell? ⟨a, j, none⟩ := by
  refine World.cell?_of_block ?_
  have ne : ∀ i, a ≠ (⟨B, i, none⟩ : Addr).block := fun i => h
  show (World.heap _)[a]? = w.heap[a]?
  rw [Below.heap_setCell _ _ _ _ (ne 3), Below.heap_setCell _ _ _ _ (ne 2), Below.heap_setCell _ _ _ _ (ne 1), Below.heap_setCell _ _ _ _ (ne 0)]
theorem append_c4n (tS tE : TypeId) (hu : Try.prog.underlying tS = some (.slice tE)) (hinfo : (Try.prog.info? tE).map (fun i => (i.zero, i.size, i.bytes)) = some (some zero4, 4, 32))
    {w : World} {ops : Array Oper} {rest : List Oper} {o : Oper} {a : Act} {Q : Exit → Act → World → Prop} (hgd : o.guard = none) (s x : Operand)
    (ho : o.op = .call { callee := .builtin .append, args := #[s, x], argTypes := #[tS, tS] })
    (base : Nat) (v : Value) (l : List C4) (hs : a.eval s = v) (hown : OwnC tE base w v l) (q : C4) (B : Nat) (hx : a.eval x = .slice (some ⟨B, 0, none⟩) 1 1) (hq : At4 w B 0 q)
    (hsz : l.length ≤ 1000000) (hbase : base ≤ w.heap.size) (n : Nat) (hn : l.length = n) (L : List C4) (hL : l ++ [q] = L)
    (h : ∀ b c w', OwnC tE base w' (.slice b (n + 1) c) L → Below base w w' → wpList Try.prog ops Q rest (a.put o.dst (.slice b (n + 1) c)) w') : wpList Try.prog ops Q (o :: rest) a w := by
  subst hn
  subst hL
  exact append_c4 tS tE hu hinfo hgd s x ho base v l hs hown q B hx hq hsz hbase h
theorem okL_yes {t : Bool} {zs : List Int} {n : Nat} (h : ∀ j, j < n → okAt t zs j = true) : okL t zs n = true := okL_all.2 h
theorem rdL_wf {t : Bool} {zs : List Int} (h : Bys zs) (n : Nat) : ∀ q ∈ rdL t zs n, wfC q := by
  intro q hq
  obtain ⟨i, _, rfl⟩ := List.mem_map.1 hq
  exact rd_wf (fun z hz => h z (List.mem_of_mem_drop hz))

set_option maxHeartbeats 4000000 in
set_option maxRecDepth 20000 in
theorem pieceRds_v (b off cap n : Nat) (zs : List Int) (w : World) (hr : Row w (some ⟨b, off, none⟩) cap zs) (hl : zs.length = 248) (hn : n ≤ 20) (V : Bool) (hV : (okL false zs n && nouB (zs.drop (n * 12))) = V) :
    Calls Try.prog 51 #[.agg #[.int .i64 12, .func (Fn.func 45) #[] #[], .func (Fn.func 46) #[] #[]], .int .i64 n, .slice (some ⟨b, off, none⟩) 248 cap] w fun e w' => ∃ g m c, e = .returned (.tuple #[.slice g m c, .bool V]) ∧ (V = true → m = n ∧ OwnC 30 w.heap.size w' (.slice g m c) (rdL false zs n)) ∧ Below w.heap.size w w' := by
  have HR : Hid (Row w (some ⟨b, off, none⟩) cap zs) := hr
  have HL : Hid (zs.length = 248) := hl
  have hcap := hr.2.1
  have hmx := hr.2.2.1
  unfold maxLen at hmx
  rw [hl] at hcap
  have HN : Hid (∀ j, j < n → okAt false zs j = false → V = false) := fun j hj h => by rw [← hV, okL_no hj h]; rfl
  have HY : Hid ((∀ j, j < n → okAt false zs j = true) → V = nouB (zs.drop (n * 12))) := fun h => by rw [← hV, okL_yes h, Bool.true_and]
  clear hr hl hV
  obtain ⟨i0, hi0, hz0, hz1, hz2⟩ := info_parts infoP
  go_enter Try.func51, Try.ntmps51
  go_wp2_with (at_make; refine wpList_make_own _ rfl _ _ 27 rfl (w.heap.size + 1) 30 i0 zero4 4 Try.underlying27 hi0 hz0 hz1 .i64 .i64 _ n rfl rfl rfl (by rw [hz2]; omega) (by unfold maxLen; omega) (by rw [heap_alloc_size]; exact Nat.le_refl _) ?_; intro w1 hown1 hgrow1)
  obtain ⟨W, hW⟩ : ∃ W, w.alloc (.cells #[.int .i64 12, .func (Fn.func 45) #[] #[], .func (Fn.func 46) #[] #[]] 58) = W := ⟨_, rfl⟩
  have hs : W.heap.size = w.heap.size + 1 := by rw [← hW]; exact heap_alloc_size _ _
  have hO3 : W.heap[w.heap.size]? = some (.cells #[.int .i64 12, .func (Fn.func 45) #[] #[], .func (Fn.func 46) #[] #[]] 58) := by rw [← hW]; exact heap_alloc_new _ _
  have HBW : Hid (Below w.heap.size w W) := by rw [← hW]; exact (Below.refl _ w).alloc (Nat.le_refl _) _
  rw [hW] at hown1 hgrow1
  have HB1 : Hid (Below W.heap.size W w1) := (Below.refl _ _).grown hgrow1 (Nat.le_refl _) (by simp)
  have HO1 : Hid (OwnC 30 W.heap.size w1 (.slice (some ⟨w.heap.size + 1, 0, none⟩) 0 n) []) := by rw [hs] at hown1 ⊢; exact hown1
  have HP0 : Hid (W.cell? ⟨w.heap.size, 0, none⟩ = some (.int .i64 12)) := cell_obj hO3 0 _ rfl
  have HP1 : Hid (W.cell? ⟨w.heap.size, 1, none⟩ = some (.func (Fn.func 45) #[] #[])) := cell_obj hO3 1 _ rfl
  have HP2 : Hid (W.cell? ⟨w.heap.size, 2, none⟩ = some (.func (Fn.func 46) #[] #[])) := cell_obj hO3 2 _ rfl
  have HSW : Hid (w.heap.size < W.heap.size) := by show _ < _; omega
  have HRW : Hid (Row W (some ⟨b, off, none⟩) cap zs) := HR.out.below HBW.out
  clear hown1 hgrow1 hO3 hW hs hi0 hz0 hz1 hz2 HR
  go_wp2_with fail
  go_loopw [2, 8, 14] (fun bd ls i wr => ∃ (k : Nat) (g : Option Addr) (c : Nat), k ≤ n ∧ bd = .slice (some ⟨b, off + k * 12, none⟩) (248 - k * 12) (cap - k * 12) ∧ ls = .slice g k c ∧ i = .int .i64 k ∧ Hid (∀ j, j < k → okAt false zs j = true) ∧ Hid (OwnC 30 W.heap.size wr (.slice g k c) (rdL false zs k)) ∧ Hid (Below W.heap.size W wr)) (fun _ _ i _ => n - (intOf i).toNat)
  case atStart => exact ⟨0, _, _, Nat.zero_le _, by rw [Nat.zero_mul]; rfl, rfl, rfl, fun j hj => by omega, HO1.out, HB1.out⟩
  case round =>
    obtain ⟨k, g, c, hk, rfl, rfl, rfl, HJ, HO, HBR⟩ := hrel
    clear HO1 HB1
    have p0 := (HBR.out.cell (p := ⟨w.heap.size, 0, none⟩) HSW.out).trans HP0.out
    have p1 := (HBR.out.cell (p := ⟨w.heap.size, 1, none⟩) HSW.out).trans HP1.out
    have p2 := (HBR.out.cell (p := ⟨w.heap.size, 2, none⟩) HSW.out).trans HP2.out
    have HRR : Hid (Row wr (some ⟨b, off + k * 12, none⟩) (cap - k * 12) (zs.drop (k * 12))) := (HRW.out.below HBR.out).drop' (k * 12) (by rw [HL.out]; omega)
    have HBWR : Hid (Below w.heap.size w wr) := HBW.out.trans (HBR.out.mono HBW.out.size)
    by_cases hlt : k < n
    · have HNX : Hid (∃ o2 m2 c2, off + k * 12 = o2 ∧ 248 - k * 12 = m2 ∧ cap - k * 12 = c2 ∧ 12 < m2 ∧ m2 ≤ c2 ∧ c2 ≤ cap ∧ off + (k + 1) * 12 = o2 + 12 ∧ 248 - (k + 1) * 12 = m2 - 12 ∧ cap - (k + 1) * 12 = c2 - 12) := ⟨_, _, _, rfl, rfl, rfl, by omega, by omega, by omega, by omega, by omega, by omega⟩
      obtain ⟨o2, m2, c2, eo, em, ec, hm2, hmc, hcc, eo', em', ec'⟩ := HNX.out
      have HE : Hid (off + (k + 1) * 12 = o2 + 12 ∧ 248 - (k + 1) * 12 = m2 - 12 ∧ cap - (k + 1) * 12 = c2 - 12) := ⟨eo', em', ec'⟩
      have HLD : Hid (12 ≤ (zs.drop (k * 12)).length) := by show _ ≤ _; rw [List.length_drop, HL.out]; omega
      rw [eo, ec] at HRR
      rw [eo, em, ec]
      clear eo em ec eo' em' ec' HNX
      obtain ⟨V2, hV2⟩ : ∃ V2, okAt false zs k = V2 := ⟨_, rfl⟩
      have HRC : Hid (∀ w5, Below wr.heap.size wr w5 → Calls Try.prog 66 #[.agg #[.int .i64 12, .func (Fn.func 45) #[] #[], .func (Fn.func 46) #[] #[]], .slice (some ⟨b, o2, none⟩) 12 c2] w5 fun e w' => ∃ q : C4, e = .returned (.tuple #[.agg #[.int .i64 q.a, .int .i64 q.b, .int .i64 q.c, .int .i64 q.d], .bool V2]) ∧ Hid (V2 = true → q = cellAt false zs k) ∧ Hid (Below wr.heap.size wr w') ∧ w'.cell? ⟨w.heap.size, 0, none⟩ = some (.int .i64 12) ∧ w'.cell? ⟨w.heap.size, 1, none⟩ = some (.func (Fn.func 45) #[] #[]) ∧ w'.cell? ⟨w.heap.size, 2, none⟩ = some (.func (Fn.func 46) #[] #[]) ∧ (wr.heap.size < w5.heap.size → w'.cell? ⟨wr.heap.size, 0, none⟩ = w5.cell? ⟨wr.heap.size, 0, none⟩) ∧ (wr.heap.size < w5.heap.size → w'.cell? ⟨wr.heap.size, 1, none⟩ = w5.cell? ⟨wr.heap.size, 1, none⟩) ∧ (wr.heap.size < w5.heap.size → w'.cell? ⟨wr.heap.size, 2, none⟩ = w5.cell? ⟨wr.heap.size, 2, none⟩) ∧ (wr.heap.size < w5.heap.size → w'.cell? ⟨wr.heap.size, 3, none⟩ = w5.cell? ⟨wr.heap.size, 3, none⟩) ∧ (wr.heap.size < w5.heap.size → w'.frozen? ⟨wr.heap.size, 0, none⟩ = w5.frozen? ⟨wr.heap.size, 0, none⟩) ∧ (wr.heap.size < w5.heap.size → w'.frozen? ⟨wr.heap.size, 1, none⟩ = w5.frozen? ⟨wr.heap.size, 1, none⟩) ∧ (wr.heap.size < w5.heap.size → w'.frozen? ⟨wr.heap.size, 2, none⟩ = w5.frozen? ⟨wr.heap.size, 2, none⟩) ∧ (wr.heap.size < w5.heap.size → w'.frozen? ⟨wr.heap.size, 3, none⟩ = w5.frozen? ⟨wr.heap.size, 3, none⟩)) := fun w5 hb5 => by
        have hrow : Row w5 (some ⟨b, o2, none⟩) c2 ((zs.drop (k * 12)).take 12) := (HRR.out.below hb5).take' 12 c2 HLD.out (by omega) (Nat.le_refl _)
        refine (pieceRd_v b o2 c2 ((zs.drop (k * 12)).take 12) w5 hrow (by rw [List.length_take]; have := HLD.out; omega) V2 (by rw [← hV2]; exact okCell_take false _ HLD.out)).mono ?_
        rintro e w' ⟨q, rfl, h3, hb⟩
        have hb' : Below wr.heap.size wr w' := hb5.trans (hb.mono hb5.size)
        have hlt' := Nat.lt_of_lt_of_le HSW.out HBR.out.size
        refine ⟨q, rfl, fun hv => ?_, hb', (hb'.cell (p := ⟨w.heap.size, 0, none⟩) hlt').trans p0, (hb'.cell (p := ⟨w.heap.size, 1, none⟩) hlt').trans p1, (hb'.cell (p := ⟨w.heap.size, 2, none⟩) hlt').trans p2, fun h => hb.cell (p := ⟨wr.heap.size, 0, none⟩) h, fun h => hb.cell (p := ⟨wr.heap.size, 1, none⟩) h, fun h => hb.cell (p := ⟨wr.heap.size, 2, none⟩) h, fun h => hb.cell (p := ⟨wr.heap.size, 3, none⟩) h, fun h => hb.frozen (p := ⟨wr.heap.size, 0, none⟩) h, fun h => hb.frozen (p := ⟨wr.heap.size, 1, none⟩) h, fun h => hb.frozen (p := ⟨wr.heap.size, 2, none⟩) h, fun h => hb.frozen (p := ⟨wr.heap.size, 3, none⟩) h⟩
        rw [h3 hv]
        exact rdC_take false _ HLD.out
      have HN2 : Hid (V2 = false → V = false) := fun h => HN.out k hlt (by rw [hV2]; exact h)
      have HJ2 : Hid (V2 = true → ∀ j, j < k + 1 → okAt false zs j = true) := fun h j hj => by
        by_cases ej : j = k
        · rw [ej, hV2]; exact h
        · exact HJ.out j (by omega)
      have hne : ¬ c2 = 12 := by omega
      have hle : 12 ≤ c2 := by omega
      have hlm : 12 ≤ m2 := by omega
      have pa0 : (wr.alloc (.cells #[.int .i64 0, .int .i64 0, .int .i64 0, .int .i64 0] 30)).cell? ⟨w.heap.size, 0, none⟩ = some (.int .i64 12) := by rw [World.cell?_alloc_lt _ _ _ (Nat.lt_of_lt_of_le HSW.out HBR.out.size)]; exact p0
      have pa1 : (wr.alloc (.cells #[.int .i64 0, .int .i64 0, .int .i64 0, .int .i64 0] 30)).cell? ⟨w.heap.size, 1, none⟩ = some (.func (Fn.func 45) #[] #[]) := by rw [World.cell?_alloc_lt _ _ _ (Nat.lt_of_lt_of_le HSW.out HBR.out.size)]; exact p1
      have pa2 : (wr.alloc (.cells #[.int .i64 0, .int .i64 0, .int .i64 0, .int .i64 0] 30)).cell? ⟨w.heap.size, 2, none⟩ = some (.func (Fn.func 46) #[] #[]) := by rw [World.cell?_alloc_lt _ _ _ (Nat.lt_of_lt_of_le HSW.out HBR.out.size)]; exact p2
      have HNE : Hid (w.heap.size ≠ wr.heap.size) := Nat.ne_of_lt (Nat.lt_of_lt_of_le HSW.out HBR.out.size)
      have hi1 : (12 : Int) ≤ (c2 : Int) := by omega
      have hne0 : ¬ c2 = 0 := by omega
      have hi2 : (12 : Int) ≤ (m2 : Int) := by omega
      clear hV2 HN HJ
      go_upto_region 4 with fail
      go_cut [9, 10] (fun s9 s10 wx => ∃ (B9 : Nat) (q : C4), s9 = .pointer (some ⟨B9, 0, none⟩) ∧ s10 = .bool V2 ∧ Hid (At4 wx B9 0 q ∧ Below wr.heap.size wr wx ∧ (V2 = true → q = cellAt false zs k)))
      case first =>
        go_region_held3 (fun u => u.cell? ⟨w.heap.size, 0, none⟩ = some (.int .i64 12) ∧ u.cell? ⟨w.heap.size, 1, none⟩ = some (.func (Fn.func 45) #[] #[]) ∧ u.cell? ⟨w.heap.size, 2, none⟩ = some (.func (Fn.func 46) #[] #[])) (first | with_reducible exact ⟨s0, s1, s2⟩ | with_reducible exact ⟨(cell_wrote _ _ _ _ _ _ _ _ HNE.out).trans s0, (cell_wrote _ _ _ _ _ _ _ _ HNE.out).trans s1, (cell_wrote _ _ _ _ _ _ _ _ HNE.out).trans s2⟩ | go_keep) ((go_at_call 66; refine Calls.mono (HRC.out _ ?_) ?_; (first | exact (Below.refl _ wr).drew | exact ((Below.refl _ wr).alloc (Nat.le_refl _) _).drew); rintro e w6 ⟨q, rfl, HQ, HB7, s0, s1, s2, n0, n1, n2, n3, g0, g1, g2, g3⟩; simp at n0 n1 n2 n3 g0 g1 g2 g3))
        · go_wp2_with fail
          go_meet
          exact ⟨w6.heap.size, q, rfl, rfl, at4_new w6 q _, HB7.out.alloc HB7.out.size _, HQ.out⟩
        · go_wp2_with fail
          go_meet
          exact ⟨wr.heap.size, q, rfl, rfl, (Slot.wrote ⟨⟨n0, n1, n2, n3⟩, g0, g1, g2, g3⟩ (.int .i64 q.a) (.int .i64 q.b) (.int .i64 q.c) (.int .i64 q.d)).1, below_wrote HB7.out (Nat.le_refl _) _ _ _ _, HQ.out⟩
      case rest =>
        obtain ⟨B9, q, rfl, rfl, HX⟩ := hcut
        obtain ⟨z0, z1, z2, z3⟩ := HX.out.1
        have HBX : Hid (Below wr.heap.size wr wc) := HX.out.2.1
        have HBW6 : Hid (Below w.heap.size w wc) := HBWR.out.trans (HBX.out.mono HBWR.out.size)
        have HBWW : Hid (Below W.heap.size W wc) := HBR.out.trans (HBX.out.mono HBR.out.size)
        clear p0 p1 p2 pa0 pa1 pa2 HRC
        cases V2
        · have ev := HN2.out rfl
          subst ev
          go_wp2
          go_ret2
          exact ⟨⟨_, _, _, rfl⟩, HBW6.out⟩
        · have HJ3 := HJ2.out rfl
          have HJ4 : Hid (∀ j, j < k + 1 → okAt false zs j = true) := HJ3
          have HQ4 : Hid (rdL false zs k ++ [q] = rdL false zs (k + 1)) := by show _ = _; rw [rdL_succ, HX.out.2.2 rfl]
          have HO6 : Hid (OwnC 30 W.heap.size wc (.slice g k c) (rdL false zs k)) := HO.out.below' HBX.out
          clear HJ2 HJ3 HN2 HX HO
          go_wp2_with (at_builtin; have _t := HO6; refine append_c4n 27 30 Try.underlying27 infoP rfl _ _ rfl W.heap.size _ (rdL false zs k) rfl (HO6.out.below' ((Below.refl _ _).alloc (Nat.le_refl _) _)) q wc.heap.size rfl (at4_new wc q _) (by rw [rdL_len]; omega) (Nat.le_trans HBWW.out.size (by rw [heap_alloc_size]; omega)) k (rdL_len _ _ _) _ HQ4.out ?_; intro b7 c7 w7 ho7 hb7; have HO7 : Hid (OwnC 30 W.heap.size w7 (.slice b7 (k + 1) c7) (rdL false zs (k + 1))) := ho7; have HB7 : Hid (Below W.heap.size W w7) := (HBWW.out.alloc HBWW.out.size _).trans hb7; have t0 := (HB7.out.cell (p := ⟨w.heap.size, 0, none⟩) HSW.out).trans HP0.out; clear _t ho7 hb7 HO6)
          go_roundw
          case rel => exact ⟨k + 1, b7, c7, by omega, by rw [HE.out.1, HE.out.2.1, HE.out.2.2], rfl, by go_num, HJ4.out, HO7.out, HB7.out⟩
          case measure => simp [intOf]; omega
    · have hkn : k = n := by omega
      subst hkn
      have ev := HY.out HJ.out
      have HNX : Hid (∃ o2 m2 c2, off + k * 12 = o2 ∧ 248 - k * 12 = m2 ∧ cap - k * 12 = c2 ∧ (zs.drop (k * 12)).length = m2) := ⟨_, _, _, rfl, rfl, rfl, by rw [List.length_drop, HL.out]⟩
      obtain ⟨o2, m2, c2, eo, em, ec, hlm⟩ := HNX.out
      rw [eo, ec] at HRR
      rw [eo, em, ec]
      have HC : Hid (Calls Try.prog 30 #[.slice (some ⟨b, o2, none⟩) m2 c2] wr fun e w' => e = .returned (.bool V) ∧ wr = w') := noughts_w _ _ _ _ wr HRR.out hlm V ev.symm
      clear eo em ec HNX hlm HRR ev HN HY HJ p0 p1 p2
      go_wp2_with fail
      refine Calls.mono HC.out ?_
      rintro e w6 ⟨rfl, rfl⟩
      go_wp2
      go_ret2
      exact ⟨_, _, _, rfl, (fun _ => ⟨rfl, HO.out.weaken HBW.out.size⟩), HBWR.out⟩

set_option maxHeartbeats 4000000 in
set_option maxRecDepth 20000 in
theorem kidRds_v (b off cap n : Nat) (zs : List Int) (w : World) (hr : Row w (some ⟨b, off, none⟩) cap zs) (hl : zs.length = 248) (hn : n ≤ 12) (V : Bool) (hV : (okL true zs n && nouB (zs.drop (n * 20))) = V) :
    Calls Try.prog 55 #[.agg #[.int .i64 20, .func (Fn.func 53) #[] #[], .func (Fn.func 54) #[] #[]], .int .i64 n, .slice (some ⟨b, off, none⟩) 248 cap] w fun e w' => ∃ g m c, e = .returned (.tuple #[.slice g m c, .bool V]) ∧ (V = true → m = n ∧ OwnC 71 w.heap.size w' (.slice g m c) (rdL true zs n)) ∧ Below w.heap.size w w' := by
  have HR : Hid (Row w (some ⟨b, off, none⟩) cap zs) := hr
  have HL : Hid (zs.length = 248) := hl
  have hcap := hr.2.1
  have hmx := hr.2.2.1
  unfold maxLen at hmx
  rw [hl] at hcap
  have HN : Hid (∀ j, j < n → okAt true zs j = false → V = false) := fun j hj h => by rw [← hV, okL_no hj h]; rfl
  have HY : Hid ((∀ j, j < n → okAt true zs j = true) → V = nouB (zs.drop (n * 20))) := fun h => by rw [← hV, okL_yes h, Bool.true_and]
  clear hr hl hV
  obtain ⟨i0, hi0, hz0, hz1, hz2⟩ := info_parts infoK
  go_enter Try.func55, Try.ntmps55
  go_wp2_with (at_make; refine wpList_make_own _ rfl _ _ 38 rfl (w.heap.size + 1) 71 i0 zero4 4 Try.underlying38 hi0 hz0 hz1 .i64 .i64 _ n rfl rfl rfl (by rw [hz2]; omega) (by unfold maxLen; omega) (by rw [heap_alloc_size]; exact Nat.le_refl _) ?_; intro w1 hown1 hgrow1)
  obtain ⟨W, hW⟩ : ∃ W, w.alloc (.cells #[.int .i64 20, .func (Fn.func 53) #[] #[], .func (Fn.func 54) #[] #[]] 75) = W := ⟨_, rfl⟩
  have hs : W.heap.size = w.heap.size + 1 := by rw [← hW]; exact heap_alloc_size _ _
  have hO3 : W.heap[w.heap.size]? = some (.cells #[.int .i64 20, .func (Fn.func 53) #[] #[], .func (Fn.func 54) #[] #[]] 75) := by rw [← hW]; exact heap_alloc_new _ _
  have HBW : Hid (Below w.heap.size w W) := by rw [← hW]; exact (Below.refl _ w).alloc (Nat.le_refl _) _
  rw [hW] at hown1 hgrow1
  have HB1 : Hid (Below W.heap.size W w1) := (Below.refl _ _).grown hgrow1 (Nat.le_refl _) (by simp)
  have HO1 : Hid (OwnC 71 W.heap.size w1 (.slice (some ⟨w.heap.size + 1, 0, none⟩) 0 n) []) := by rw [hs] at hown1 ⊢; exact hown1
  have HP0 : Hid (W.cell? ⟨w.heap.size, 0, none⟩ = some (.int .i64 20)) := cell_obj hO3 0 _ rfl
  have HP1 : Hid (W.cell? ⟨w.heap.size, 1, none⟩ = some (.func (Fn.func 53) #[] #[])) := cell_obj hO3 1 _ rfl
  have HP2 : Hid (W.cell? ⟨w.heap.size, 2, none⟩ = some (.func (Fn.func 54) #[] #[])) := cell_obj hO3 2 _ rfl
  have HSW : Hid (w.heap.size < W.heap.size) := by show _ < _; omega
  have HRW : Hid (Row W (some ⟨b, off, none⟩) cap zs) := HR.out.below HBW.out
  clear hown1 hgrow1 hO3 hW hs hi0 hz0 hz1 hz2 HR
  go_wp2_with fail
  go_loopw [2, 8, 14] (fun bd ls i wr => ∃ (k : Nat) (g : Option Addr) (c : Nat), k ≤ n ∧ bd = .slice (some ⟨b, off + k * 20, none⟩) (248 - k * 20) (cap - k * 20) ∧ ls = .slice g k c ∧ i = .int .i64 k ∧ Hid (∀ j, j < k → okAt true zs j = true) ∧ Hid (OwnC 71 W.heap.size wr (.slice g k c) (rdL true zs k)) ∧ Hid (Below W.heap.size W wr)) (fun _ _ i _ => n - (intOf i).toNat)
  case atStart => exact ⟨0, _, _, Nat.zero_le _, by rw [Nat.zero_mul]; rfl, rfl, rfl, fun j hj => by omega, HO1.out, HB1.out⟩
  case round =>
    obtain ⟨k, g, c, hk, rfl, rfl, rfl, HJ, HO, HBR⟩ := hrel
    clear HO1 HB1
    have p0 := (HBR.out.cell (p := ⟨w.heap.size, 0, none⟩) HSW.out).trans HP0.out
    have p1 := (HBR.out.cell (p := ⟨w.heap.size, 1, none⟩) HSW.out).trans HP1.out
    have p2 := (HBR.out.cell (p := ⟨w.heap.size, 2, none⟩) HSW.out).trans HP2.out
    have HRR : Hid (Row wr (some ⟨b, off + k * 20, none⟩) (cap - k * 20) (zs.drop (k * 20))) := (HRW.out.below HBR.out).drop' (k * 20) (by rw [HL.out]; omega)
    have HBWR : Hid (Below w.heap.size w wr) := HBW.out.trans (HBR.out.mono HBW.out.size)
    by_cases hlt : k < n
    · have HNX : Hid (∃ o2 m2 c2, off + k * 20 = o2 ∧ 248 - k * 20 = m2 ∧ cap - k * 20 = c2 ∧ 20 < m2 ∧ m2 ≤ c2 ∧ c2 ≤ cap ∧ off + (k + 1) * 20 = o2 + 20 ∧ 248 - (k + 1) * 20 = m2 - 20 ∧ cap - (k + 1) * 20 = c2 - 20) := ⟨_, _, _, rfl, rfl, rfl, by omega, by omega, by omega, by omega, by omega, by omega⟩
      obtain ⟨o2, m2, c2, eo, em, ec, hm2, hmc, hcc, eo', em', ec'⟩ := HNX.out
      have HE : Hid (off + (k + 1) * 20 = o2 + 20 ∧ 248 - (k + 1) * 20 = m2 - 20 ∧ cap - (k + 1) * 20 = c2 - 20) := ⟨eo', em', ec'⟩
      have HLD : Hid (20 ≤ (zs.drop (k * 20)).length) := by show _ ≤ _; rw [List.length_drop, HL.out]; omega
      rw [eo, ec] at HRR
      rw [eo, em, ec]
      clear eo em ec eo' em' ec' HNX
      obtain ⟨V2, hV2⟩ : ∃ V2, okAt true zs k = V2 := ⟨_, rfl⟩
      have HRC : Hid (∀ w5, Below wr.heap.size wr w5 → Calls Try.prog 67 #[.agg #[.int .i64 20, .func (Fn.func 53) #[] #[], .func (Fn.func 54) #[] #[]], .slice (some ⟨b, o2, none⟩) 20 c2] w5 fun e w' => ∃ q : C4, e = .returned (.tuple #[.agg #[.int .i64 q.a, .int .i64 q.b, .int .i64 q.c, .int .i64 q.d], .bool V2]) ∧ Hid (V2 = true → q = cellAt true zs k) ∧ Hid (Below wr.heap.size wr w') ∧ w'.cell? ⟨w.heap.size, 0, none⟩ = some (.int .i64 20) ∧ w'.cell? ⟨w.heap.size, 1, none⟩ = some (.func (Fn.func 53) #[] #[]) ∧ w'.cell? ⟨w.heap.size, 2, none⟩ = some (.func (Fn.func 54) #[] #[]) ∧ (wr.heap.size < w5.heap.size → w'.cell? ⟨wr.heap.size, 0, none⟩ = w5.cell? ⟨wr.heap.size, 0, none⟩) ∧ (wr.heap.size < w5.heap.size → w'.cell? ⟨wr.heap.size, 1, none⟩ = w5.cell? ⟨wr.heap.size, 1, none⟩) ∧ (wr.heap.size < w5.heap.size → w'.cell? ⟨wr.heap.size, 2, none⟩ = w5.cell? ⟨wr.heap.size, 2, none⟩) ∧ (wr.heap.size < w5.heap.size → w'.cell? ⟨wr.heap.size, 3, none⟩ = w5.cell? ⟨wr.heap.size, 3, none⟩) ∧ (wr.heap.size < w5.heap.size → w'.frozen? ⟨wr.heap.size, 0, none⟩ = w5.frozen? ⟨wr.heap.size, 0, none⟩) ∧ (wr.heap.size < w5.heap.size → w'.frozen? ⟨wr.heap.size, 1, none⟩ = w5.frozen? ⟨wr.heap.size, 1, none⟩) ∧ (wr.heap.size < w5.heap.size → w'.frozen? ⟨wr.heap.size, 2, none⟩ = w5.frozen? ⟨wr.heap.size, 2, none⟩) ∧ (wr.heap.size < w5.heap.size → w'.frozen? ⟨wr.heap.size, 3, none⟩ = w5.frozen? ⟨wr.heap.size, 3, none⟩)) := fun w5 hb5 => by
        have hrow : Row w5 (some ⟨b, o2, none⟩) c2 ((zs.drop (k * 20)).take 20) := (HRR.out.below hb5).take' 20 c2 HLD.out (by omega) (Nat.le_refl _)
        refine (kidRd_v b o2 c2 ((zs.drop (k * 20)).take 20) w5 hrow (by rw [List.length_take]; have := HLD.out; omega) V2 (by rw [← hV2]; exact okCell_take true _ HLD.out)).mono ?_
        rintro e w' ⟨q, rfl, h3, hb⟩
        have hb' : Below wr.heap.size wr w' := hb5.trans (hb.mono hb5.size)
        have hlt' := Nat.lt_of_lt_of_le HSW.out HBR.out.size
        refine ⟨q, rfl, fun hv => ?_, hb', (hb'.cell (p := ⟨w.heap.size, 0, none⟩) hlt').trans p0, (hb'.cell (p := ⟨w.heap.size, 1, none⟩) hlt').trans p1, (hb'.cell (p := ⟨w.heap.size, 2, none⟩) hlt').trans p2, fun h => hb.cell (p := ⟨wr.heap.size, 0, none⟩) h, fun h => hb.cell (p := ⟨wr.heap.size, 1, none⟩) h, fun h => hb.cell (p := ⟨wr.heap.size, 2, none⟩) h, fun h => hb.cell (p := ⟨wr.heap.size, 3, none⟩) h, fun h => hb.frozen (p := ⟨wr.heap.size, 0, none⟩) h, fun h => hb.frozen (p := ⟨wr.heap.size, 1, none⟩) h, fun h => hb.frozen (p := ⟨wr.heap.size, 2, none⟩) h, fun h => hb.frozen (p := ⟨wr.heap.size, 3, none⟩) h⟩
        rw [h3 hv]
        exact rdC_take true _ HLD.out
      have HN2 : Hid (V2 = false → V = false) := fun h => HN.out k hlt (by rw [hV2]; exact h)
      have HJ2 : Hid (V2 = true → ∀ j, j < k + 1 → okAt true zs j = true) := fun h j hj => by
        by_cases ej : j = k
        · rw [ej, hV2]; exact h
        · exact HJ.out j (by omega)
      have hne : ¬ c2 = 20 := by omega
      have hle : 20 ≤ c2 := by omega
      have hlm : 20 ≤ m2 := by omega
      have pa0 : (wr.alloc (.cells #[.int .i64 0, .int .i64 0, .int .i64 0, .int .i64 0] 71)).cell? ⟨w.heap.size, 0, none⟩ = some (.int .i64 20) := by rw [World.cell?_alloc_lt _ _ _ (Nat.lt_of_lt_of_le HSW.out HBR.out.size)]; exact p0
      have pa1 : (wr.alloc (.cells #[.int .i64 0, .int .i64 0, .int .i64 0, .int .i64 0] 71)).cell? ⟨w.heap.size, 1, none⟩ = some (.func (Fn.func 53) #[] #[]) := by rw [World.cell?_alloc_lt _ _ _ (Nat.lt_of_lt_of_le HSW.out HBR.out.size)]; exact p1
      have pa2 : (wr.alloc (.cells #[.int .i64 0, .int .i64 0, .int .i64 0, .int .i64 0] 71)).cell? ⟨w.heap.size, 2, none⟩ = some (.func (Fn.func 54) #[] #[]) := by rw [World.cell?_alloc_lt _ _ _ (Nat.lt_of_lt_of_le HSW.out HBR.out.size)]; exact p2
      have HNE : Hid (w.heap.size ≠ wr.heap.size) := Nat.ne_of_lt (Nat.lt_of_lt_of_le HSW.out HBR.out.size)
      have hi1 : (20 : Int) ≤ (c2 : Int) := by omega
      have hne0 : ¬ c2 = 0 := by omega
      have hi2 : (20 : Int) ≤ (m2 : Int) := by omega
      clear hV2 HN HJ
      go_upto_region 4 with fail
      go_cut [9, 10] (fun s9 s10 wx => ∃ (B9 : Nat) (q : C4), s9 = .pointer (some ⟨B9, 0, none⟩) ∧ s10 = .bool V2 ∧ Hid (At4 wx B9 0 q ∧ Below wr.heap.size wr wx ∧ (V2 = true → q = cellAt true zs k)))
      case first =>
        go_region_held3 (fun u => u.cell? ⟨w.heap.size, 0, none⟩ = some (.int .i64 20) ∧ u.cell? ⟨w.heap.size, 1, none⟩ = some (.func (Fn.func 53) #[] #[]) ∧ u.cell? ⟨w.heap.size, 2, none⟩ = some (.func (Fn.func 54) #[] #[])) (first | with_reducible exact ⟨s0, s1, s2⟩ | with_reducible exact ⟨(cell_wrote _ _ _ _ _ _ _ _ HNE.out).trans s0, (cell_wrote _ _ _ _ _ _ _ _ HNE.out).trans s1, (cell_wrote _ _ _ _ _ _ _ _ HNE.out).trans s2⟩ | go_keep) ((go_at_call 67; refine Calls.mono (HRC.out _ ?_) ?_; (first | exact (Below.refl _ wr).drew | exact ((Below.refl _ wr).alloc (Nat.le_refl _) _).drew); rintro e w6 ⟨q, rfl, HQ, HB7, s0, s1, s2, n0, n1, n2, n3, g0, g1, g2, g3⟩; simp at n0 n1 n2 n3 g0 g1 g2 g3))
        · go_wp2_with fail
          go_meet
          exact ⟨w6.heap.size, q, rfl, rfl, at4_new w6 q _, HB7.out.alloc HB7.out.size _, HQ.out⟩
        · go_wp2_with fail
          go_meet
          exact ⟨wr.heap.size, q, rfl, rfl, (Slot.wrote ⟨⟨n0, n1, n2, n3⟩, g0, g1, g2, g3⟩ (.int .i64 q.a) (.int .i64 q.b) (.int .i64 q.c) (.int .i64 q.d)).1, below_wrote HB7.out (Nat.le_refl _) _ _ _ _, HQ.out⟩
      case rest =>
        obtain ⟨B9, q, rfl, rfl, HX⟩ := hcut
        obtain ⟨z0, z1, z2, z3⟩ := HX.out.1
        have HBX : Hid (Below wr.heap.size wr wc) := HX.out.2.1
        have HBW6 : Hid (Below w.heap.size w wc) := HBWR.out.trans (HBX.out.mono HBWR.out.size)
        have HBWW : Hid (Below W.heap.size W wc) := HBR.out.trans (HBX.out.mono HBR.out.size)
        clear p0 p1 p2 pa0 pa1 pa2 HRC
        cases V2
        · have ev := HN2.out rfl
          subst ev
          go_wp2
          go_ret2
          exact ⟨⟨_, _, _, rfl⟩, HBW6.out⟩
        · have HJ3 := HJ2.out rfl
          have HJ4 : Hid (∀ j, j < k + 1 → okAt true zs j = true) := HJ3
          have HQ4 : Hid (rdL true zs k ++ [q] = rdL true zs (k + 1)) := by show _ = _; rw [rdL_succ, HX.out.2.2 rfl]
          have HO6 : Hid (OwnC 71 W.heap.size wc (.slice g k c) (rdL true zs k)) := HO.out.below' HBX.out
          clear HJ2 HJ3 HN2 HX HO
          go_wp2_with (at_builtin; have _t := HO6; refine append_c4n 38 71 Try.underlying38 infoK rfl _ _ rfl W.heap.size _ (rdL true zs k) rfl (HO6.out.below' ((Below.refl _ _).alloc (Nat.le_refl _) _)) q wc.heap.size rfl (at4_new wc q _) (by rw [rdL_len]; omega) (Nat.le_trans HBWW.out.size (by rw [heap_alloc_size]; omega)) k (rdL_len _ _ _) _ HQ4.out ?_; intro b7 c7 w7 ho7 hb7; have HO7 : Hid (OwnC 71 W.heap.size w7 (.slice b7 (k + 1) c7) (rdL true zs (k + 1))) := ho7; have HB7 : Hid (Below W.heap.size W w7) := (HBWW.out.alloc HBWW.out.size _).trans hb7; have t0 := (HB7.out.cell (p := ⟨w.heap.size, 0, none⟩) HSW.out).trans HP0.out; clear _t ho7 hb7 HO6)
          go_roundw
          case rel => exact ⟨k + 1, b7, c7, by omega, by rw [HE.out.1, HE.out.2.1, HE.out.2.2], rfl, by go_num, HJ4.out, HO7.out, HB7.out⟩
          case measure => simp [intOf]; omega
    · have hkn : k = n := by omega
      subst hkn
      have ev := HY.out HJ.out
      have HNX : Hid (∃ o2 m2 c2, off + k * 20 = o2 ∧ 248 - k * 20 = m2 ∧ cap - k * 20 = c2 ∧ (zs.drop (k * 20)).length = m2) := ⟨_, _, _, rfl, rfl, rfl, by rw [List.length_drop, HL.out]⟩
      obtain ⟨o2, m2, c2, eo, em, ec, hlm⟩ := HNX.out
      rw [eo, ec] at HRR
      rw [eo, em, ec]
      have HC : Hid (Calls Try.prog 30 #[.slice (some ⟨b, o2, none⟩) m2 c2] wr fun e w' => e = .returned (.bool V) ∧ wr = w') := noughts_w _ _ _ _ wr HRR.out hlm V ev.symm
      clear eo em ec HNX hlm HRR ev HN HY HJ p0 p1 p2
      go_wp2_with fail
      refine Calls.mono HC.out ?_
      rintro e w6 ⟨rfl, rfl⟩
      go_wp2
      go_ret2
      exact ⟨_, _, _, rfl, (fun _ => ⟨rfl, HO.out.weaken HBW.out.size⟩), HBWR.out⟩
end Go.Proofs.Ytaeooehilncokaa.Oct
