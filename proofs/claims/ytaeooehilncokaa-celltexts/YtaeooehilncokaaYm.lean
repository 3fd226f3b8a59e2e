/-
  cell's readCell.
-/
import Derived.Test.YtaeooehilncokaaYl
namespace Go.Proofs.Ytaeooehilncokaa.Oct
open Go.RowKit

theorem num_take (zs : List Int) (m p : Nat) : ∀ n, p + n ≤ m → num (zs.take m) p n = num zs p n := by
  intro n
  induction n with
  | zero => intro _; rfl
  | succ n ih =>
    intro h
    rw [num_succ, num_succ, ih (by omega)]
    congr 1
    rw [List.getD_eq_getElem?_getD, List.getD_eq_getElem?_getD, List.getElem?_take, if_pos (by omega)]
theorem get_take (zs : List Int) (m p n : Nat) (hn : 1 ≤ n) (hn8 : n ≤ 8) (h : p + n ≤ m) (hm : m ≤ zs.length) : getI (zs.take m) p n = getI zs p n ∧ getB (zs.take m) p n = getB zs p n := by
  have hl : (zs.take m).length = m := by rw [List.length_take]; omega
  unfold getI getB
  rw [hl, ins_yes hn hn8 h, ins_yes hn hn8 (show p + n ≤ zs.length by omega), if_pos rfl, if_pos rfl, if_pos rfl, if_pos rfl, Int.toNat_natCast, Int.toNat_natCast, num_take zs m p n h]
  exact ⟨rfl, rfl⟩
theorem rdC_take (t : Bool) (zs : List Int) (h : szC t ≤ zs.length) : rdC t (zs.take (szC t)) = rdC t zs := by
  have g := fun k (hk : k < 4) => (get_take zs (szC t) (ofC t k) (wdC t k) (wdC_bd t k).1 (wdC_bd t k).2 (ofC_bd t hk) h).1
  unfold rdC
  rw [g 0 (by omega), g 1 (by omega), g 2 (by omega), g 3 (by omega)]
theorem okCell_take (t : Bool) (zs : List Int) (h : szC t ≤ zs.length) : okCell t (zs.take (szC t)) = okCell t zs := by
  unfold okCell
  rw [rdC_take t zs h, List.take_take, Nat.min_self]

/-- The numbers that are read, the first k of them. -/
def mixC (T : C4) (k : Nat) : C4 := ⟨if 0 < k then T.a else 0, if 1 < k then T.b else 0, if 2 < k then T.c else 0, if 3 < k then T.d else 0⟩
theorem mixC_0 (T : C4) : mixC T 0 = c40 := rfl
theorem mixC_4 (T : C4) : mixC T 4 = T := rfl

/-- Four cells of a block that may be written. -/
def Sw4 (w : World) (B : Nat) (q : C4) : Prop := At4 w B 0 q ∧ ∀ k, k < 4 → w.frozen? ⟨B, k, none⟩ = false
theorem Sw4.same {w w1 : World} {B : Nat} {q : C4} (h : Sw4 w B q) (k : w1.heap[B]? = w.heap[B]?) : Sw4 w1 B q :=
  ⟨h.1.same k, fun i hi => (World.frozen?_of_block k).trans (h.2 i hi)⟩
theorem sw4_new (w : World) (q : C4) (t : TypeId) : Sw4 (w.alloc (.cells #[.int .i64 q.a, .int .i64 q.b, .int .i64 q.c, .int .i64 q.d] t)) w.heap.size q :=
  ⟨at4_new w q t, fun k hk => by rcases four hk with rfl | rfl | rfl | rfl <;> simp⟩
theorem Sw4.put {w : World} {B : Nat} {T : C4} {k : Nat} (h : Sw4 w B (mixC T k)) (hk : k < 4) : Sw4 (w.setCell ⟨B, k, none⟩ (.int .i64 (atC T k))) B (mixC T (k + 1)) := by
  have hc := h.1.at hk
  refine ⟨?_, fun i hi => by rw [World.frozen?_setCell]; exact h.2 i hi⟩
  have key : ∀ j, j < 4 → (w.setCell ⟨B, k, none⟩ (.int .i64 (atC T k))).cell? ⟨B, j, none⟩ = some (.int .i64 (atC (mixC T (k + 1)) j)) := by
    intro j hj
    by_cases e : j = k
    · subst e
      rw [World.cell?_setCell_same _ _ _ hc]
      rcases four hj with rfl | rfl | rfl | rfl <;> rfl
    · rw [World.cell?_setCell_other _ _ _ _ (by intro e'; simp only [Addr.mk.injEq] at e'; omega), h.1.at hj]
      have : atC (mixC T k) j = atC (mixC T (k + 1)) j := by
        have st : ∀ (x : Int) (i : Nat), ¬ i = k → (if i < k then x else 0) = (if i < k + 1 then x else 0) := fun x i hi => by
          by_cases h1 : i < k
          · rw [if_pos h1, if_pos (by omega)]
          · rw [if_neg h1, if_neg (by omega)]
        rcases four hj with rfl | rfl | rfl | rfl
        all_goals exact st _ _ e
      rw [this]
  exact ⟨key 0 (by omega), key 1 (by omega), key 2 (by omega), key 3 (by omega)⟩

/-- A cell that is read: k numbers are taken. -/
structure Rdc (w wr : World) (t : Bool) (zs : List Int) (B F k : Nat) : Prop where
  yes : ∀ j, j < k → getB zs (ofC t j : Nat) (wdC t j : Nat) = true
  sw : Sw4 wr B (mixC (rdC t zs) k)
  fd : Fd4 t wr F B
  bel : Below B w wr
  ne : B < F

theorem Row.low {w wr : World} {b off cap B : Nat} {zs : List Int} (h : Row w (some ⟨b, off, none⟩) cap zs) (hb : b < B) (k : Below B w wr) : Row wr (some ⟨b, off, none⟩) cap zs := by
  obtain ⟨h1, h2, h3, h4⟩ := h
  refine ⟨h1, h2, h3, ?_⟩
  rcases h4 with h4 | ⟨b', off', ha, hc⟩
  · exact .inl h4
  · simp only [Option.some.injEq, Addr.mk.injEq, and_true] at ha
    obtain ⟨rfl, rfl⟩ := ha
    exact .inr ⟨b, off, rfl, fun i hi => (k.cell (p := ⟨b, off + i, none⟩) hb).trans (hc i hi)⟩

theorem getB_yes {zs : List Int} (hb : Bys zs) {p n : Nat} (h1 : 1 ≤ n) (h7 : n ≤ 7) (h : p + n ≤ zs.length) : getB zs p n = true := by
  have := num_bd7 hb p n h7
  unfold getB
  rw [ins_yes h1 (by omega) h, if_pos rfl, Int.toNat_natCast, Int.toNat_natCast]
  exact (cap_yes (by omega)).2

theorem getC_no {t : Bool} {zs : List Int} (hb : Bys zs) (hl : szC t ≤ zs.length) {k : Nat} (hk : k < 4) (h : getB zs (ofC t k : Nat) (wdC t k : Nat) = false) : okCell t zs = false := by
  have hw := wdC_bd t k
  have ho := ofC_bd t hk
  by_cases h7 : wdC t k ≤ 7
  · rw [getB_yes hb hw.1 h7 (by omega)] at h
    cases h
  · have hk2 : t = true ∧ k = 2 := by
      cases t
      · rcases four hk with rfl | rfl | rfl | rfl <;> exact absurd (by decide) h7
      · rcases four hk with rfl | rfl | rfl | rfl
        · exact absurd (by decide) h7
        · exact absurd (by decide) h7
        · exact ⟨rfl, rfl⟩
        · exact absurd (by decide) h7
    obtain ⟨rfl, rfl⟩ := hk2
    have hz : (rdC true zs).c = 0 := by
      show getI zs (ofC true 2 : Nat) (wdC true 2 : Nat) = 0
      unfold getB at h
      unfold getI
      rw [ins_yes hw.1 hw.2 (by omega), if_pos rfl] at h
      rw [ins_yes hw.1 hw.2 (by omega), if_pos rfl]
      unfold capB at h
      have := of_decide_eq_false h
      exact (cap_no (by omega)).1
    unfold okCell
    cases hc : okC true (rdC true zs)
    · rw [Bool.and_false]
    · have := (okC_bd hc).2.2.1
      omega

theorem getI_bd {zs : List Int} (h : Bys zs) (p n : Int) : 0 ≤ getI zs p n ∧ getI zs p n ≤ 4611686018427387904 := by
  have := num_bd h p.toNat n.toNat
  unfold getI
  split
  · unfold capI
    split
    · omega
    · omega
  · omega
theorem rd_wf {t : Bool} {zs : List Int} (h : Bys zs) : wfC (rdC t zs) := by
  have g := fun p n => getI_bd h p n
  refine ⟨?_, ?_, ?_, ?_⟩
  · have := g (ofC t 0 : Nat) (wdC t 0 : Nat); show wf1 (getI _ _ _); unfold wf1; omega
  · have := g (ofC t 1 : Nat) (wdC t 1 : Nat); show wf1 (getI _ _ _); unfold wf1; omega
  · have := g (ofC t 2 : Nat) (wdC t 2 : Nat); show wf1 (getI _ _ _); unfold wf1; omega
  · have := g (ofC t 3 : Nat) (wdC t 3 : Nat); show wf1 (getI _ _ _); unfold wf1; omega

theorem slot_of {w : World} {R : Nat} (h : Sw4 w R c40) : Slot w R (.int .i64 0) (.int .i64 0) (.int .i64 0) (.int .i64 0) := ⟨h.1, h.2 0 (by omega), h.2 1 (by omega), h.2 2 (by omega), h.2 3 (by omega)⟩

theorem rd_start (w w2 : World) (o : Obj) (ty : TypeId) (W : World) (hW : ((w.alloc o).alloc (.cells #[.int .i64 0, .int .i64 0, .int .i64 0, .int .i64 0] ty)).alloc (.cells #[.int .i64 0, .int .i64 0, .int .i64 0, .int .i64 0] ty) = W) (hb : Below W.heap.size W w2) :
    W.heap.size = w.heap.size + 1 + 1 + 1 ∧ Below w.heap.size w W ∧ Sw4 W (w.heap.size + 1) c40 ∧ Sw4 w2 (w.heap.size + 1 + 1) c40 ∧ W.heap[w.heap.size]? = some o := by
  have hs : W.heap.size = w.heap.size + 1 + 1 + 1 := by rw [← hW, heap_alloc_size, heap_alloc_size, heap_alloc_size]
  have h1 := sw4_new (w.alloc o) c40 ty
  have h2 := sw4_new ((w.alloc o).alloc (.cells #[.int .i64 0, .int .i64 0, .int .i64 0, .int .i64 0] ty)) c40 ty
  have e2 : ((w.alloc o).alloc (.cells #[.int .i64 0, .int .i64 0, .int .i64 0, .int .i64 0] ty)).heap.size = w.heap.size + 1 + 1 := by rw [heap_alloc_size, heap_alloc_size]
  have e1 : (w.alloc o).heap.size = w.heap.size + 1 := heap_alloc_size _ _
  rw [e2, show c40.a = 0 from rfl, show c40.b = 0 from rfl, show c40.c = 0 from rfl, show c40.d = 0 from rfl, hW] at h2
  rw [e1] at h1
  refine ⟨hs, ?_, ?_, h2.same (hb.block _ (by omega)), ?_⟩
  · rw [← hW]
    exact (((Below.refl _ w).alloc (Nat.le_refl _) _).alloc (by omega) _).alloc (by omega) _
  · refine h1.same ?_
    rw [← hW]
    exact heap_alloc_old _ _ (by omega)
  · rw [← hW, heap_alloc_old _ _ (by omega), heap_alloc_old _ _ (by omega)]
    exact heap_alloc_new w o
theorem cell_obj {w : World} {B : Nat} {cs : Array Value} {ty : TypeId} (h : w.heap[B]? = some (.cells cs ty)) (j : Nat) (v : Value) (hv : cs[j]? = some v) : w.cell? ⟨B, j, none⟩ = some v := by
  unfold World.cell?
  rw [h]
  simpa using hv

set_option maxHeartbeats 4000000 in
set_option maxRecDepth 20000 in
theorem pieceRd_v (b off cap : Nat) (zs : List Int) (w : World) (hr : Row w (some ⟨b, off, none⟩) cap zs) (hl : zs.length = 12) (V : Bool) (hV : okCell false zs = V) :
    Calls Try.prog 66 #[.agg #[.int .i64 12, .func (Fn.func 45) #[] #[], .func (Fn.func 46) #[] #[]], .slice (some ⟨b, off, none⟩) 12 cap] w fun e w' => ∃ q : C4, e = .returned (.tuple #[.agg #[.int .i64 q.a, .int .i64 q.b, .int .i64 q.c, .int .i64 q.d], .bool V]) ∧ (V = true → q = rdC false zs) ∧ Below w.heap.size w w' := by
  have HR : Hid (Row w (some ⟨b, off, none⟩) cap zs) := hr
  have HL : Hid (zs.length = 12) := hl
  have hcap := hr.2.1
  have hmx := hr.2.2.1
  unfold maxLen at hmx
  rw [hl] at hcap
  have HBW : Hid (b < w.heap.size) := block_lt_of_cell (hr.cells 0 (by omega))
  have HN : Hid (∀ k, k < 4 → getB zs (ofC false k : Nat) (wdC false k : Nat) = false → V = false) := fun k hk hf => by
    rw [← hV]
    exact getC_no hr.1 (by rw [hl]; decide) hk hf
  have HY : Hid (V = (nouB (zs.drop 10) && okC false (rdC false zs))) := by
    show V = _
    rw [← hV]
    unfold okCell
    rw [List.take_of_length_le (by rw [hl]; decide)]
    rfl
  clear hr hl hV
  go_enter Try.func66, Try.ntmps66
  go_wp2_with fail
  refine (pieceFields_v _ _).mono ?_
  rintro e w2 ⟨rfl, hfd, hb⟩
  obtain ⟨W, hW⟩ : ∃ W, (((w.alloc (.cells #[.int .i64 12, .func (Fn.func 45) #[] #[], .func (Fn.func 46) #[] #[]] 58)).alloc (.cells #[.int .i64 0, .int .i64 0, .int .i64 0, .int .i64 0] 30)).alloc (.cells #[.int .i64 0, .int .i64 0, .int .i64 0, .int .i64 0] 30)) = W := ⟨_, rfl⟩
  rw [hW] at hfd hb ⊢
  obtain ⟨hs, hbw, hR3, hB2, hO3⟩ := rd_start w w2 _ _ W hW hb
  have HSZ : Hid (W.heap.size = w.heap.size + 1 + 1 + 1) := hs
  have HBW3 : Hid (Below w.heap.size w W) := hbw
  have HR3 : Hid (Sw4 W (w.heap.size + 1) c40) := hR3
  have HF3 : Hid (W.cell? ⟨w.heap.size, 2, none⟩ = some (.func (Fn.func 46) #[] #[])) := cell_obj hO3 2 _ rfl
  have HC : Hid (Rdc W w2 false zs (w.heap.size + 1 + 1) W.heap.size 0) := ⟨fun j hj => by omega, hB2, hfd, hb.mono (by omega), by omega⟩
  have HRW : Hid (Row W (some ⟨b, off, none⟩) cap zs) := HR.out.below hbw
  clear hb hfd hs hbw hR3 hB2 hO3 hW HR
  go_wp2_with fail
  obtain ⟨F, hF⟩ : ∃ F, W.heap.size = F := ⟨_, rfl⟩
  rw [hF] at HC HSZ ⊢
  clear hF
  go_loopw [7, 16] (fun a i wr => ∃ k : Nat, k ≤ 4 ∧ a = .int .i64 (ofC false k : Nat) ∧ i = .int .i64 k ∧ Rdc W wr false zs (w.heap.size + 1 + 1) F k) (fun _ i _ => 4 - (intOf i).toNat)
  case atStart => exact ⟨0, Nat.zero_le _, rfl, rfl, HC.out⟩
  case round =>
    obtain ⟨k, hk, rfl, rfl, hrd⟩ := hrel
    clear HC
    have HBL : Hid (Below w.heap.size w wr) := HBW3.out.trans (hrd.bel.mono (by omega))
    have HRR : Hid (Sw4 wr (w.heap.size + 1) c40) := HR3.out.same (hrd.bel.block _ (by omega))
    have HFF : Hid (wr.cell? ⟨w.heap.size, 2, none⟩ = some (.func (Fn.func 46) #[] #[])) := (hrd.bel.cell (p := ⟨w.heap.size, 2, none⟩) (by show w.heap.size < _; omega)).trans HF3.out
    have HRZ : Hid (Row wr (some ⟨b, off, none⟩) cap zs) := HRW.out.low (by have := HBW.out; omega) hrd.bel
    have HB2 : Hid (w.heap.size + 1 < w.heap.size + 1 + 1) := by show _ < _; omega
    obtain ⟨S, hS⟩ : ∃ S, w.heap.size = S := ⟨_, rfl⟩
    rw [hS] at HFF
    obtain ⟨R, hR⟩ : ∃ R, w.heap.size + 1 = R := ⟨_, rfl⟩
    rw [hR] at HRR hrd HB2 ⊢
    obtain ⟨B, hB⟩ : ∃ B, R + 1 = B := ⟨_, rfl⟩
    rw [hB] at hrd HB2 ⊢
    have HWR : Hid (w.heap.size ≤ R) := by show _ ≤ _; omega
    rw [hS] at ⊢
    clear HR3 HF3 HRW
    by_cases hlt : k < 4
    · obtain ⟨c0, c1⟩ := hrd.fd k hlt
      have hc3 := hrd.sw.1.at hlt
      have hz3 := hrd.sw.2 k hlt
      have hBw : B < wr.heap.size := hrd.sw.1.lt
      have HSW : Hid (Sw4 wr B (mixC (rdC false zs) k)) := hrd.sw
      have CG : Hid (∀ o : Obj, Calls Try.prog 75 #[.slice (some ⟨b, off, none⟩) 12 cap, .int .i64 (ofC false k : Nat), .int .i64 (wdC false k : Nat)] (wr.alloc o) fun e w' => e = .returned (.tuple #[.int .i64 (atC (rdC false zs) k), .bool (getB zs (ofC false k : Nat) (wdC false k : Nat))]) ∧ Below (wr.alloc o).heap.size (wr.alloc o) w') := fun o => by
        have := get_any _ _ _ (ofC false k : Nat) (wdC false k : Nat) _ (HRZ.out.below ((Below.refl _ _).alloc (Nat.le_refl _) o))
        rw [HL.out, ← rdC_at false zs hlt] at this
        exact this
      have HX : Hid (∀ (w3 : World) (o : Obj), Below (wr.alloc o).heap.size (wr.alloc o) w3 → getB zs (ofC false k : Nat) (wdC false k : Nat) = true → Rdc W (w3.setCell ⟨B, k, none⟩ (.int .i64 (atC (rdC false zs) k))) false zs B F (k + 1)) := fun w3 o hb3 hg => by
        have hb : Below wr.heap.size wr w3 := ((Below.refl _ wr).alloc (Nat.le_refl _) o).trans (hb3.mono (by rw [heap_alloc_size]; omega))
        refine ⟨fun j hj => ?_, (hrd.sw.same (hb.block B hBw)).put hlt, (hrd.fd.below hb).same (Below.heap_setCell _ _ _ _ (by show F ≠ B; have := hrd.ne; omega)), ?_, hrd.ne⟩
        · by_cases e : j = k
          · rw [e]; exact hg
          · exact hrd.yes j (by omega)
        · exact (hrd.bel.trans (hb.mono (Nat.le_of_lt hBw))).setCell (p := ⟨B, k, none⟩) (Nat.le_refl _) _
      have HNX : Hid (ofC false (k + 1) = ofC false k + wdC false k) := ofC_next false hlt
      have hob : ofC false k + wdC false k ≤ 12 := ofC_bd false hlt
      obtain ⟨qw, hq⟩ : ∃ q, wdC false k = q := ⟨_, rfl⟩
      obtain ⟨x, hx⟩ : ∃ x, atC (rdC false zs) k = x := ⟨_, rfl⟩
      obtain ⟨y, hy⟩ : ∃ y, atC (mixC (rdC false zs) k) k = y := ⟨_, rfl⟩
      obtain ⟨p, hp⟩ : ∃ p, ofC false k = p := ⟨_, rfl⟩
      rw [hy] at hc3
      cases hg : getB zs (ofC false k : Nat) (wdC false k : Nat)
      · have ev := HN.out k hlt hg
        subst ev
        rw [hg, hq, hx, hp] at CG
        rw [hq] at c0
        rw [hp]
        obtain ⟨M, hM⟩ : ∃ M, mixC (rdC false zs) k = M := ⟨_, rfl⟩
        rw [hM] at HSW
        clear hrd hq hx hp HN HY HX hg HNX hy hM hc3 hz3
        go_wp2_with fail
        refine (CG.out _).mono ?_
        rintro e w3 ⟨rfl, hb3⟩
        have hb : Below wr.heap.size wr w3 := ((Below.refl _ wr).alloc (Nat.le_refl _) _).trans (hb3.mono (by rw [heap_alloc_size]; omega))
        have HB3 : Hid (Below w.heap.size w w3) := HBL.out.trans (hb.mono HBL.out.size)
        have hm := HSW.out.1.below hb
        have HRR3 : Hid (Sw4 w3 R c40) := HRR.out.same (hb.block _ HRR.out.1.lt)
        obtain ⟨m0, m1, m2, m3⟩ := hm
        obtain ⟨⟨r0, r1, r2, r3⟩, rf⟩ := HRR3.out
        have f0 := rf 0 (by omega)
        have f1 := rf 1 (by omega)
        have f2 := rf 2 (by omega)
        have f3 := rf 3 (by omega)
        dsimp only [c40] at r0 r1 r2 r3
        have HSL : Hid (Slot w3 R (.int .i64 0) (.int .i64 0) (.int .i64 0) (.int .i64 0)) := ⟨⟨r0, r1, r2, r3⟩, f0, f1, f2, f3⟩
        clear hb3 hb rf
        go_wp2
        clear r0 r1 r2 r3 f0 f1 f2 f3 m0 m1 m2 m3
        obtain ⟨⟨q0, q1, q2, q3⟩, _⟩ := HSL.out.wrote (.int .i64 M.a) (.int .i64 M.b) (.int .i64 M.c) (.int .i64 M.d)
        refine bodyPost_ret (v := .tuple #[.agg #[.int .i64 M.a, .int .i64 M.b, .int .i64 M.c, .int .i64 M.d], .bool false]) ?_ rfl ⟨M, rfl, (fun h => by cases h), below_wrote HB3.out HWR.out _ _ _ _⟩
        simp [results, Try.results66, go_sem, q0, q1, q2, q3]
      · have HX' : Hid (∀ (w3 : World) (o : Obj), Below (wr.alloc o).heap.size (wr.alloc o) w3 → Rdc W (w3.setCell ⟨B, k, none⟩ (.int .i64 (atC (rdC false zs) k))) false zs B F (k + 1)) := fun w3 o h => HX.out w3 o h hg
        rw [hg, hq, hx, hp] at CG
        rw [hx] at HX'
        rw [hq] at c0
        rw [hq, hp] at hob HNX
        rw [hp]
        clear hrd hq hx hp hg HN HY HX hy HBL HSW HRR HFF
        go_wp2_with fail
        refine (CG.out _).mono ?_
        rintro e w3 ⟨rfl, hb3⟩
        have HR3 : Hid (Rdc W (w3.setCell ⟨B, k, none⟩ (.int .i64 x)) false zs B F (k + 1)) := HX'.out w3 _ hb3
        have d0 : w3.cell? ⟨wr.heap.size, 0, none⟩ = some (.int .i64 (qw : Int)) := (hb3.cell (p := ⟨wr.heap.size, 0, none⟩) (by simp)).trans (by simp)
        have d1 : w3.cell? ⟨wr.heap.size, 1, none⟩ = some (.pointer (some ⟨B, k, none⟩)) := (hb3.cell (p := ⟨wr.heap.size, 1, none⟩) (by simp)).trans (by simp)
        have d2 : w3.cell? ⟨B, k, none⟩ = some (.int .i64 y) := (hb3.cell (p := ⟨B, k, none⟩) (by simp; omega)).trans (by rw [World.cell?_alloc_lt _ _ _ hBw]; exact hc3)
        have d3 : w3.frozen? ⟨B, k, none⟩ = false := (hb3.frozen (p := ⟨B, k, none⟩) (by simp; omega)).trans ((((Below.refl _ wr).alloc (Nat.le_refl _) _).frozen (p := ⟨B, k, none⟩) hBw).trans hz3)
        have d4 : (w3.setCell ⟨B, k, none⟩ (.int .i64 x)).cell? ⟨wr.heap.size, 0, none⟩ = some (.int .i64 (qw : Int)) := by rw [World.cell?_setCell_other _ _ _ _ (by intro e'; simp only [Addr.mk.injEq] at e'; omega)]; exact d0
        clear hb3 HX'
        go_wp2_with fail
        go_roundw
        case rel => exact ⟨k + 1, by omega, by rw [HNX.out]; go_num, by go_num, HR3.out⟩
        case measure => simp [intOf]; omega
    · have hk4 : k = 4 := by omega
      subst hk4
      obtain ⟨Tq, hTq⟩ : ∃ Tq, rdC false zs = Tq := ⟨_, rfl⟩
      have hsw : Sw4 wr B (rdC false zs) := hrd.sw
      rw [hTq] at hsw HY
      have HTQ : Hid (rdC false zs = Tq) := hTq
      have HSW : Hid (Sw4 wr B Tq) := hsw
      obtain ⟨⟨m0, m1, m2, m3⟩, _⟩ := hsw
      obtain ⟨⟨r0, r1, r2, r3⟩, rf⟩ := HRR.out
      have f0 := rf 0 (by omega)
      have f1 := rf 1 (by omega)
      have f2 := rf 2 (by omega)
      have f3 := rf 3 (by omega)
      dsimp only [c40] at r0 r1 r2 r3
      have fF := HFF.out
      clear rf hrd HN HFF hTq
      have e4 : ofC false 4 = 10 := rfl
      rw [e4]
      clear e4
      have HCF : Hid (Calls Try.prog 46 #[.agg #[.int .i64 Tq.a, .int .i64 Tq.b, .int .i64 Tq.c, .int .i64 Tq.d]] wr.drew fun e w' => e = .returned (.bool (okC false Tq)) ∧ Hid (Sw4 w' B Tq ∧ Sw4 w' R c40 ∧ Below w.heap.size w w')) := by
        refine (pieceFits_v Tq (by rw [← HTQ.out]; exact rd_wf HRZ.out.1) wr.drew _ rfl).mono ?_
        rintro e w6 ⟨rfl, hb6⟩
        have hb : Below wr.heap.size wr w6 := ((Below.refl _ wr).drew).trans hb6
        exact ⟨rfl, HSW.out.same (hb.block _ HSW.out.1.lt), HRR.out.same (hb.block _ HRR.out.1.lt), HBL.out.trans (hb.mono HBL.out.size)⟩
      have HSL : Hid (Slot wr R (.int .i64 0) (.int .i64 0) (.int .i64 0) (.int .i64 0)) := ⟨⟨r0, r1, r2, r3⟩, f0, f1, f2, f3⟩
      have HCN : Hid (∀ w5 : World, w5.heap = wr.heap → Calls Try.prog 30 #[.slice (some ⟨b, off + 10, none⟩) 2 (cap - 10)] w5 fun e w' => e = .returned (.bool (nouB (zs.drop 10))) ∧ w5 = w') := fun w5 h5 => by
        have hrw := HRZ.out.drop' 10 (by rw [HL.out]; decide)
        have hrw5 : Row w5 (some ⟨b, off + 10, none⟩) (cap - 10) (zs.drop 10) := by
          refine ⟨hrw.1, hrw.2.1, hrw.2.2.1, ?_⟩
          rcases hrw.2.2.2 with h | ⟨b', off', e, hc⟩
          · exact .inl h
          · exact .inr ⟨b', off', e, fun i hi => (World.cell?_of_block (by rw [h5])).trans (hc i hi)⟩
        exact noughts_w _ _ _ _ w5 hrw5 (by rw [List.length_drop, HL.out]) _ rfl
      have h10 : ¬ cap = 10 := by omega
      cases hn : nouB (zs.drop 10)
      · rw [hn] at HCN HY
        have ev : V = false := HY.out
        subst ev
        go_wp2_with fail
        first | go_region_with (go_at_call 30; refine (HCN.out wr.drew rfl).mono ?_; rintro e w6 ⟨rfl, rfl⟩) | skip
        all_goals
         go_wp2
         clear m0 m1 m2 m3 r0 r1 r2 r3 f0 f1 f2 f3 fF
         obtain ⟨⟨q0, q1, q2, q3⟩, _⟩ := HSL.out.wrote (.int .i64 Tq.a) (.int .i64 Tq.b) (.int .i64 Tq.c) (.int .i64 Tq.d)
         refine bodyPost_ret (v := .tuple #[.agg #[.int .i64 Tq.a, .int .i64 Tq.b, .int .i64 Tq.c, .int .i64 Tq.d], .bool false]) ?_ rfl ⟨Tq, rfl, (fun h => by cases h), (below_wrote HBL.out HWR.out _ _ _ _).drew⟩
         simp [results, Try.results66, go_sem, q0, q1, q2, q3]
      · rw [hn] at HCN HY
        have ev : V = okC false Tq := HY.out
        subst ev
        go_wp2_with fail
        first | go_region_with (first | (go_at_call 30; refine (HCN.out wr.drew rfl).mono ?_; rintro e w6 ⟨rfl, rfl⟩) | (go_at_call 46; refine Calls.mono HCF.out ?_; rintro e w6 ⟨rfl, H6⟩; have h6 := H6.out; obtain ⟨⟨⟨m0', m1', m2', m3'⟩, _⟩, ⟨⟨r0', r1', r2', r3'⟩, rf'⟩, _⟩ := h6; have f0' := rf' 0 (by omega); have f1' := rf' 1 (by omega); have f2' := rf' 2 (by omega); have f3' := rf' 3 (by omega); clear rf'; dsimp only [c40] at r0' r1' r2' r3')) | skip
        all_goals
         go_wp2
         clear m0 m1 m2 m3 r0 r1 r2 r3 f0 f1 f2 f3 fF m0' m1' m2' m3' r0' r1' r2' r3' f0' f1' f2' f3'
         obtain ⟨⟨q0, q1, q2, q3⟩, _⟩ := (slot_of H6.out.2.1).wrote (.int .i64 Tq.a) (.int .i64 Tq.b) (.int .i64 Tq.c) (.int .i64 Tq.d)
         refine bodyPost_ret (v := .tuple #[.agg #[.int .i64 Tq.a, .int .i64 Tq.b, .int .i64 Tq.c, .int .i64 Tq.d], .bool (okC false Tq)]) ?_ rfl ⟨Tq, rfl, (fun _ => HTQ.out.symm), below_wrote H6.out.2.2 HWR.out _ _ _ _⟩
         simp [results, Try.results66, go_sem, q0, q1, q2, q3]

set_option maxHeartbeats 4000000 in
set_option maxRecDepth 20000 in
theorem kidRd_v (b off cap : Nat) (zs : List Int) (w : World) (hr : Row w (some ⟨b, off, none⟩) cap zs) (hl : zs.length = 20) (V : Bool) (hV : okCell true zs = V) :
    Calls Try.prog 67 #[.agg #[.int .i64 20, .func (Fn.func 53) #[] #[], .func (Fn.func 54) #[] #[]], .slice (some ⟨b, off, none⟩) 20 cap] w fun e w' => ∃ q : C4, e = .returned (.tuple #[.agg #[.int .i64 q.a, .int .i64 q.b, .int .i64 q.c, .int .i64 q.d], .bool V]) ∧ (V = true → q = rdC true zs) ∧ Below w.heap.size w w' := by
  have HR : Hid (Row w (some ⟨b, off, none⟩) cap zs) := hr
  have HL : Hid (zs.length = 20) := hl
  have hcap := hr.2.1
  have hmx := hr.2.2.1
  unfold maxLen at hmx
  rw [hl] at hcap
  have HBW : Hid (b < w.heap.size) := block_lt_of_cell (hr.cells 0 (by omega))
  have HN : Hid (∀ k, k < 4 → getB zs (ofC true k : Nat) (wdC true k : Nat) = false → V = false) := fun k hk hf => by
    rw [← hV]
    exact getC_no hr.1 (by rw [hl]; decide) hk hf
  have HY : Hid (V = (nouB (zs.drop 20) && okC true (rdC true zs))) := by
    show V = _
    rw [← hV]
    unfold okCell
    rw [List.take_of_length_le (by rw [hl]; decide)]
    rfl
  clear hr hl hV
  go_enter Try.func67, Try.ntmps67
  go_wp2_with fail
  refine (kidFields_v _ _).mono ?_
  rintro e w2 ⟨rfl, hfd, hb⟩
  obtain ⟨W, hW⟩ : ∃ W, (((w.alloc (.cells #[.int .i64 20, .func (Fn.func 53) #[] #[], .func (Fn.func 54) #[] #[]] 75)).alloc (.cells #[.int .i64 0, .int .i64 0, .int .i64 0, .int .i64 0] 71)).alloc (.cells #[.int .i64 0, .int .i64 0, .int .i64 0, .int .i64 0] 71)) = W := ⟨_, rfl⟩
  rw [hW] at hfd hb ⊢
  obtain ⟨hs, hbw, hR3, hB2, hO3⟩ := rd_start w w2 _ _ W hW hb
  have HSZ : Hid (W.heap.size = w.heap.size + 1 + 1 + 1) := hs
  have HBW3 : Hid (Below w.heap.size w W) := hbw
  have HR3 : Hid (Sw4 W (w.heap.size + 1) c40) := hR3
  have HF3 : Hid (W.cell? ⟨w.heap.size, 2, none⟩ = some (.func (Fn.func 54) #[] #[])) := cell_obj hO3 2 _ rfl
  have HC : Hid (Rdc W w2 true zs (w.heap.size + 1 + 1) W.heap.size 0) := ⟨fun j hj => by omega, hB2, hfd, hb.mono (by omega), by omega⟩
  have HRW : Hid (Row W (some ⟨b, off, none⟩) cap zs) := HR.out.below hbw
  clear hb hfd hs hbw hR3 hB2 hO3 hW HR
  go_wp2_with fail
  obtain ⟨F, hF⟩ : ∃ F, W.heap.size = F := ⟨_, rfl⟩
  rw [hF] at HC HSZ ⊢
  clear hF
  go_loopw [7, 16] (fun a i wr => ∃ k : Nat, k ≤ 4 ∧ a = .int .i64 (ofC true k : Nat) ∧ i = .int .i64 k ∧ Rdc W wr true zs (w.heap.size + 1 + 1) F k) (fun _ i _ => 4 - (intOf i).toNat)
  case atStart => exact ⟨0, Nat.zero_le _, rfl, rfl, HC.out⟩
  case round =>
    obtain ⟨k, hk, rfl, rfl, hrd⟩ := hrel
    clear HC
    have HBL : Hid (Below w.heap.size w wr) := HBW3.out.trans (hrd.bel.mono (by omega))
    have HRR : Hid (Sw4 wr (w.heap.size + 1) c40) := HR3.out.same (hrd.bel.block _ (by omega))
    have HFF : Hid (wr.cell? ⟨w.heap.size, 2, none⟩ = some (.func (Fn.func 54) #[] #[])) := (hrd.bel.cell (p := ⟨w.heap.size, 2, none⟩) (by show w.heap.size < _; omega)).trans HF3.out
    have HRZ : Hid (Row wr (some ⟨b, off, none⟩) cap zs) := HRW.out.low (by have := HBW.out; omega) hrd.bel
    have HB2 : Hid (w.heap.size + 1 < w.heap.size + 1 + 1) := by show _ < _; omega
    obtain ⟨S, hS⟩ : ∃ S, w.heap.size = S := ⟨_, rfl⟩
    rw [hS] at HFF
    obtain ⟨R, hR⟩ : ∃ R, w.heap.size + 1 = R := ⟨_, rfl⟩
    rw [hR] at HRR hrd HB2 ⊢
    obtain ⟨B, hB⟩ : ∃ B, R + 1 = B := ⟨_, rfl⟩
    rw [hB] at hrd HB2 ⊢
    have HWR : Hid (w.heap.size ≤ R) := by show _ ≤ _; omega
    rw [hS] at ⊢
    clear HR3 HF3 HRW
    by_cases hlt : k < 4
    · obtain ⟨c0, c1⟩ := hrd.fd k hlt
      have hc3 := hrd.sw.1.at hlt
      have hz3 := hrd.sw.2 k hlt
      have hBw : B < wr.heap.size := hrd.sw.1.lt
      have HSW : Hid (Sw4 wr B (mixC (rdC true zs) k)) := hrd.sw
      have CG : Hid (∀ o : Obj, Calls Try.prog 75 #[.slice (some ⟨b, off, none⟩) 20 cap, .int .i64 (ofC true k : Nat), .int .i64 (wdC true k : Nat)] (wr.alloc o) fun e w' => e = .returned (.tuple #[.int .i64 (atC (rdC true zs) k), .bool (getB zs (ofC true k : Nat) (wdC true k : Nat))]) ∧ Below (wr.alloc o).heap.size (wr.alloc o) w') := fun o => by
        have := get_any _ _ _ (ofC true k : Nat) (wdC true k : Nat) _ (HRZ.out.below ((Below.refl _ _).alloc (Nat.le_refl _) o))
        rw [HL.out, ← rdC_at true zs hlt] at this
        exact this
      have HX : Hid (∀ (w3 : World) (o : Obj), Below (wr.alloc o).heap.size (wr.alloc o) w3 → getB zs (ofC true k : Nat) (wdC true k : Nat) = true → Rdc W (w3.setCell ⟨B, k, none⟩ (.int .i64 (atC (rdC true zs) k))) true zs B F (k + 1)) := fun w3 o hb3 hg => by
        have hb : Below wr.heap.size wr w3 := ((Below.refl _ wr).alloc (Nat.le_refl _) o).trans (hb3.mono (by rw [heap_alloc_size]; omega))
        refine ⟨fun j hj => ?_, (hrd.sw.same (hb.block B hBw)).put hlt, (hrd.fd.below hb).same (Below.heap_setCell _ _ _ _ (by show F ≠ B; have := hrd.ne; omega)), ?_, hrd.ne⟩
        · by_cases e : j = k
          · rw [e]; exact hg
          · exact hrd.yes j (by omega)
        · exact (hrd.bel.trans (hb.mono (Nat.le_of_lt hBw))).setCell (p := ⟨B, k, none⟩) (Nat.le_refl _) _
      have HNX : Hid (ofC true (k + 1) = ofC true k + wdC true k) := ofC_next true hlt
      have hob : ofC true k + wdC true k ≤ 20 := ofC_bd true hlt
      obtain ⟨qw, hq⟩ : ∃ q, wdC true k = q := ⟨_, rfl⟩
      obtain ⟨x, hx⟩ : ∃ x, atC (rdC true zs) k = x := ⟨_, rfl⟩
      obtain ⟨y, hy⟩ : ∃ y, atC (mixC (rdC true zs) k) k = y := ⟨_, rfl⟩
      obtain ⟨p, hp⟩ : ∃ p, ofC true k = p := ⟨_, rfl⟩
      rw [hy] at hc3
      cases hg : getB zs (ofC true k : Nat) (wdC true k : Nat)
      · have ev := HN.out k hlt hg
        subst ev
        rw [hg, hq, hx, hp] at CG
        rw [hq] at c0
        rw [hp]
        obtain ⟨M, hM⟩ : ∃ M, mixC (rdC true zs) k = M := ⟨_, rfl⟩
        rw [hM] at HSW
        clear hrd hq hx hp HN HY HX hg HNX hy hM hc3 hz3
        go_wp2_with fail
        refine (CG.out _).mono ?_
        rintro e w3 ⟨rfl, hb3⟩
        have hb : Below wr.heap.size wr w3 := ((Below.refl _ wr).alloc (Nat.le_refl _) _).trans (hb3.mono (by rw [heap_alloc_size]; omega))
        have HB3 : Hid (Below w.heap.size w w3) := HBL.out.trans (hb.mono HBL.out.size)
        have hm := HSW.out.1.below hb
        have HRR3 : Hid (Sw4 w3 R c40) := HRR.out.same (hb.block _ HRR.out.1.lt)
        obtain ⟨m0, m1, m2, m3⟩ := hm
        obtain ⟨⟨r0, r1, r2, r3⟩, rf⟩ := HRR3.out
        have f0 := rf 0 (by omega)
        have f1 := rf 1 (by omega)
        have f2 := rf 2 (by omega)
        have f3 := rf 3 (by omega)
        dsimp only [c40] at r0 r1 r2 r3
        have HSL : Hid (Slot w3 R (.int .i64 0) (.int .i64 0) (.int .i64 0) (.int .i64 0)) := ⟨⟨r0, r1, r2, r3⟩, f0, f1, f2, f3⟩
        clear hb3 hb rf
        go_wp2
        clear r0 r1 r2 r3 f0 f1 f2 f3 m0 m1 m2 m3
        obtain ⟨⟨q0, q1, q2, q3⟩, _⟩ := HSL.out.wrote (.int .i64 M.a) (.int .i64 M.b) (.int .i64 M.c) (.int .i64 M.d)
        refine bodyPost_ret (v := .tuple #[.agg #[.int .i64 M.a, .int .i64 M.b, .int .i64 M.c, .int .i64 M.d], .bool false]) ?_ rfl ⟨M, rfl, (fun h => by cases h), below_wrote HB3.out HWR.out _ _ _ _⟩
        simp [results, Try.results67, go_sem, q0, q1, q2, q3]
      · have HX' : Hid (∀ (w3 : World) (o : Obj), Below (wr.alloc o).heap.size (wr.alloc o) w3 → Rdc W (w3.setCell ⟨B, k, none⟩ (.int .i64 (atC (rdC true zs) k))) true zs B F (k + 1)) := fun w3 o h => HX.out w3 o h hg
        rw [hg, hq, hx, hp] at CG
        rw [hx] at HX'
        rw [hq] at c0
        rw [hq, hp] at hob HNX
        rw [hp]
        clear hrd hq hx hp hg HN HY HX hy HBL HSW HRR HFF
        go_wp2_with fail
        refine (CG.out _).mono ?_
        rintro e w3 ⟨rfl, hb3⟩
        have HR3 : Hid (Rdc W (w3.setCell ⟨B, k, none⟩ (.int .i64 x)) true zs B F (k + 1)) := HX'.out w3 _ hb3
        have d0 : w3.cell? ⟨wr.heap.size, 0, none⟩ = some (.int .i64 (qw : Int)) := (hb3.cell (p := ⟨wr.heap.size, 0, none⟩) (by simp)).trans (by simp)
        have d1 : w3.cell? ⟨wr.heap.size, 1, none⟩ = some (.pointer (some ⟨B, k, none⟩)) := (hb3.cell (p := ⟨wr.heap.size, 1, none⟩) (by simp)).trans (by simp)
        have d2 : w3.cell? ⟨B, k, none⟩ = some (.int .i64 y) := (hb3.cell (p := ⟨B, k, none⟩) (by simp; omega)).trans (by rw [World.cell?_alloc_lt _ _ _ hBw]; exact hc3)
        have d3 : w3.frozen? ⟨B, k, none⟩ = false := (hb3.frozen (p := ⟨B, k, none⟩) (by simp; omega)).trans ((((Below.refl _ wr).alloc (Nat.le_refl _) _).frozen (p := ⟨B, k, none⟩) hBw).trans hz3)
        have d4 : (w3.setCell ⟨B, k, none⟩ (.int .i64 x)).cell? ⟨wr.heap.size, 0, none⟩ = some (.int .i64 (qw : Int)) := by rw [World.cell?_setCell_other _ _ _ _ (by intro e'; simp only [Addr.mk.injEq] at e'; omega)]; exact d0
        clear hb3 HX'
        go_wp2_with fail
        go_roundw
        case rel => exact ⟨k + 1, by omega, by rw [HNX.out]; go_num, by go_num, HR3.out⟩
        case measure => simp [intOf]; omega
    · have hk4 : k = 4 := by omega
      subst hk4
      obtain ⟨Tq, hTq⟩ : ∃ Tq, rdC true zs = Tq := ⟨_, rfl⟩
      have hsw : Sw4 wr B (rdC true zs) := hrd.sw
      rw [hTq] at hsw HY
      have HTQ : Hid (rdC true zs = Tq) := hTq
      have HSW : Hid (Sw4 wr B Tq) := hsw
      obtain ⟨⟨m0, m1, m2, m3⟩, _⟩ := hsw
      obtain ⟨⟨r0, r1, r2, r3⟩, rf⟩ := HRR.out
      have f0 := rf 0 (by omega)
      have f1 := rf 1 (by omega)
      have f2 := rf 2 (by omega)
      have f3 := rf 3 (by omega)
      dsimp only [c40] at r0 r1 r2 r3
      have fF := HFF.out
      clear rf hrd HN HFF hTq
      have e4 : ofC true 4 = 20 := rfl
      rw [e4]
      clear e4
      have HCF : Hid (Calls Try.prog 54 #[.agg #[.int .i64 Tq.a, .int .i64 Tq.b, .int .i64 Tq.c, .int .i64 Tq.d]] wr.drew fun e w' => e = .returned (.bool (okC true Tq)) ∧ Hid (Sw4 w' B Tq ∧ Sw4 w' R c40 ∧ Below w.heap.size w w')) := by
        refine (kidFits_v Tq (by rw [← HTQ.out]; exact rd_wf HRZ.out.1) wr.drew _ rfl).mono ?_
        rintro e w6 ⟨rfl, hb6⟩
        have hb : Below wr.heap.size wr w6 := ((Below.refl _ wr).drew).trans hb6
        exact ⟨rfl, HSW.out.same (hb.block _ HSW.out.1.lt), HRR.out.same (hb.block _ HRR.out.1.lt), HBL.out.trans (hb.mono HBL.out.size)⟩
      have HSL : Hid (Slot wr R (.int .i64 0) (.int .i64 0) (.int .i64 0) (.int .i64 0)) := ⟨⟨r0, r1, r2, r3⟩, f0, f1, f2, f3⟩
      have hn : nouB (zs.drop 20) = true := by rw [List.drop_of_length_le (by rw [HL.out]; exact Nat.le_refl _)]; rfl
      rw [hn] at HY
      have ev : V = okC true Tq := HY.out
      subst ev
      by_cases h10 : cap = 20
      · subst h10
        have HCN : Hid (∀ w5 : World, w5.heap = wr.heap → Calls Try.prog 30 #[.slice (some ⟨b, off, none⟩) 0 0] w5 fun e w' => e = .returned (.bool true) ∧ w5 = w') := fun w5 _ => noughts_e (some ⟨b, off, none⟩) 0 w5
        go_wp2_with fail
        first | go_region_with (first | (go_at_call 30; refine (HCN.out wr.drew rfl).mono ?_; rintro e w6 ⟨rfl, rfl⟩) | (go_at_call 54; refine Calls.mono HCF.out ?_; rintro e w6 ⟨rfl, H6⟩; have h6 := H6.out; obtain ⟨⟨⟨m0', m1', m2', m3'⟩, _⟩, ⟨⟨r0', r1', r2', r3'⟩, rf'⟩, _⟩ := h6; have f0' := rf' 0 (by omega); have f1' := rf' 1 (by omega); have f2' := rf' 2 (by omega); have f3' := rf' 3 (by omega); clear rf'; dsimp only [c40] at r0' r1' r2' r3')) | skip
        all_goals
         go_wp2
         clear m0 m1 m2 m3 r0 r1 r2 r3 f0 f1 f2 f3 fF m0' m1' m2' m3' r0' r1' r2' r3' f0' f1' f2' f3'
         obtain ⟨⟨q0, q1, q2, q3⟩, _⟩ := (slot_of H6.out.2.1).wrote (.int .i64 Tq.a) (.int .i64 Tq.b) (.int .i64 Tq.c) (.int .i64 Tq.d)
         refine bodyPost_ret (v := .tuple #[.agg #[.int .i64 Tq.a, .int .i64 Tq.b, .int .i64 Tq.c, .int .i64 Tq.d], .bool (okC true Tq)]) ?_ rfl ⟨Tq, rfl, (fun _ => HTQ.out.symm), below_wrote H6.out.2.2 HWR.out _ _ _ _⟩
         simp [results, Try.results67, go_sem, q0, q1, q2, q3]
      · have HCN : Hid (∀ w5 : World, w5.heap = wr.heap → Calls Try.prog 30 #[.slice (some ⟨b, off + 20, none⟩) 0 (cap - 20)] w5 fun e w' => e = .returned (.bool true) ∧ w5 = w') := fun w5 _ => noughts_e (some ⟨b, off + 20, none⟩) (cap - 20) w5
        go_wp2_with fail
        first | go_region_with (first | (go_at_call 30; refine (HCN.out wr.drew rfl).mono ?_; rintro e w6 ⟨rfl, rfl⟩) | (go_at_call 54; refine Calls.mono HCF.out ?_; rintro e w6 ⟨rfl, H6⟩; have h6 := H6.out; obtain ⟨⟨⟨m0', m1', m2', m3'⟩, _⟩, ⟨⟨r0', r1', r2', r3'⟩, rf'⟩, _⟩ := h6; have f0' := rf' 0 (by omega); have f1' := rf' 1 (by omega); have f2' := rf' 2 (by omega); have f3' := rf' 3 (by omega); clear rf'; dsimp only [c40] at r0' r1' r2' r3')) | skip
        all_goals
         go_wp2
         clear m0 m1 m2 m3 r0 r1 r2 r3 f0 f1 f2 f3 fF m0' m1' m2' m3' r0' r1' r2' r3' f0' f1' f2' f3'
         obtain ⟨⟨q0, q1, q2, q3⟩, _⟩ := (slot_of H6.out.2.1).wrote (.int .i64 Tq.a) (.int .i64 Tq.b) (.int .i64 Tq.c) (.int .i64 Tq.d)
         refine bodyPost_ret (v := .tuple #[.agg #[.int .i64 Tq.a, .int .i64 Tq.b, .int .i64 Tq.c, .int .i64 Tq.d], .bool (okC true Tq)]) ?_ rfl ⟨Tq, rfl, (fun _ => HTQ.out.symm), below_wrote H6.out.2.2 HWR.out _ _ _ _⟩
         simp [results, Try.results67, go_sem, q0, q1, q2, q3]
end Go.Proofs.Ytaeooehilncokaa.Oct
