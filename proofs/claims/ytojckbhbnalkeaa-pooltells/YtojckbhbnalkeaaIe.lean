/-
  pool: made, has; leave.
-/
import Derived.Test.YtojckbhbnalkeaaId
namespace Go.Proofs.Ytojckbhbnalkeaa.Oct
open Go.RowKit

theorem wpList_held_del {ops : Array Oper} {rest : List Oper} {o : Oper} {a : Act} {Q : Exit → Act → World → Prop} (w : World) (hg : o.guard = none) (x y : Operand) (hop : o.op = Op.call { callee := Callee.builtin Builtin.delete, args := #[x, y], argTypes := #[54, 3] })
    (m pg : Nat) (ps : List (Nat × Nat)) (hx : a.eval x = .map (some m)) (hy : a.eval y = .int .i64 pg) (h : Held w m ps) (hp : pg ≤ 1000000)
    (hK : ∀ w', Held w' m (ps.filter (fun y => decide (y.1 ≠ pg))) → w.mapTurned w' m → wpList Try.prog ops Q rest (a.put o.dst (.tuple #[])) w') : wpList Try.prog ops Q (o :: rest) a w := by
  refine wpList_plain hg fun K' hK' => ?_
  obtain ⟨w', hrun, r1, r2⟩ := h.del pg hp o.type
  unfold Oper.wp
  simp [execOp, hop, resolve, invoke, builtin, hx, hy, hrun, Result.andThen]
  exact hK' _ _ (hK w' r1 r2)

theorem wpList_held_put {ops : Array Oper} {rest : List Oper} {o : Oper} {a : Act} {Q : Exit → Act → World → Prop} (w : World) (hg : o.guard = none) (x y v : Operand) (hop : o.op = Op.mapUpdate 54 x y v)
    (m pg g : Nat) (ps : List (Nat × Nat)) (hx : a.eval x = .map (some m)) (hy : a.eval y = .int .i64 pg) (hv : a.eval v = .pointer (some ⟨g, 0, none⟩)) (h : Held w m ps) (hp : pg ≤ 1000000) (hl : ps.length ≤ 1000000) (hf : findP ps pg = none)
    (hK : ∀ w', Held w' m (ps ++ [(pg, g)]) → w.mapTurned w' m → wpList Try.prog ops Q rest (a.put o.dst undef) w') : wpList Try.prog ops Q (o :: rest) a w := by
  refine wpList_plain hg fun K' hK' => ?_
  obtain ⟨w', hrun, r1, r2⟩ := h.put pg g hp hl hf
  unfold Oper.wp
  simp [execOp, hop, hx, hy, hv, hrun, Result.andThen]
  exact hK' _ _ (hK w' r1 r2)

section
variable {w : World} {p d m e N : Nat} {Fd F : Nat → Prop} {D : Dv} {bs : List Nat} {fr : Nat → Fr} {ol nw : Nat → Nat}

theorem poolMade_any (h : PD w p d m e N Fd F D bs fr ol nw) : Calls Try.prog 25 #[.pointer (some ⟨p, 0, none⟩)] w fun x w' => x = .returned (.bool true) ∧ w = w' := by
  obtain ⟨c0, c1, c2, c3⟩ := h.pool.at
  have n8 := h.pool.n8
  have hN : 0 < N := by omega
  clear h
  go_enter Try.func25, Try.ntmps25
  go_wp2
  go_ret
  refine ⟨?_, rfl⟩
  rfl

theorem poolHas_any (h : PD w p d m e N Fd F D bs fr ol nw) (pg : Int) : Calls Try.prog 26 #[.pointer (some ⟨p, 0, none⟩), .int .i64 pg] w fun x w' => x = .returned (.bool (hasB D pg)) ∧ w = w' := by
  obtain ⟨c0, c1, c2, c3⟩ := h.pool.at
  have hp := pages_any h.dev
  have ht : ∀ (b : Bool), b = hasB D pg → Ending.returned (.bool b) = .returned (.bool (hasB D pg)) := fun b h => by rw [h]
  clear h
  by_cases h0 : 0 ≤ pg
  · by_cases h1 : pg < D.n
    · go_enter Try.func26, Try.ntmps26
      go_wp2_with (go_at_call 49; refine hp.mono ?_; rintro e w' ⟨rfl, rfl⟩)
      go_ret
      exact ⟨ht _ (by simp [hasB]; omega), rfl⟩
    · go_enter Try.func26, Try.ntmps26
      go_wp2_with (go_at_call 49; refine hp.mono ?_; rintro e w' ⟨rfl, rfl⟩)
      go_ret
      exact ⟨ht _ (by simp [hasB]; omega), rfl⟩
  · go_enter Try.func26, Try.ntmps26
    go_wp2_with (go_at_call 49; refine hp.mono ?_; rintro e w' ⟨rfl, rfl⟩)
    go_ret
    exact ⟨ht _ (by simp [hasB]; omega), rfl⟩

theorem Mem.heap {w w' : World} (h : Mem w w') (k : Nat) : w'.heap[k]? = w.heap[k]? := by rw [h.1]
theorem Mem.ch {w w' : World} (h : Mem w w') (B : Nat) (G : Nat → Prop) : Ch B G w w' := ⟨h.2.1, h.2.2.1, h.2.2.2, by rw [h.1]; exact Nat.le_refl _, fun k _ _ => h.heap k⟩
theorem Mem.drew (w : World) : Mem w w.drew := ⟨rfl, rfl, rfl, rfl⟩
theorem Mem.trans {a b c : World} (h : Mem a b) (k : Mem b c) : Mem a c := ⟨k.1.trans h.1, k.2.1.trans h.2.1, k.2.2.1.trans h.2.2.1, k.2.2.2.trans h.2.2.2⟩

/-- The nodes of a ring behind the one that goes. -/
theorem nodes_out (hn : ∀ g ∈ e :: bs, Node w g (fr g) (ol g) (nw g)) (hok : ∀ g ∈ e :: bs, (fr g).ok) (a c : Nat) (x : Nat) (hx : x ∈ e :: bs) :
    Node ((w.setCell ⟨a, 260, none⟩ (.pointer (some ⟨c, 0, none⟩))).setCell ⟨c, 259, none⟩ (.pointer (some ⟨a, 0, none⟩))) x (fr x) (upF ol c a x) (upF nw a c x) := by
  have o1 : ∀ (W : World) (q i : Nat) (v : Value), x ≠ q → (W.setCell ⟨q, i, none⟩ v).heap[x]? = W.heap[x]? := fun W q i v hq => Below.heap_setCell W ⟨q, i, none⟩ v x hq
  have h0 := hn x hx
  have k0 := hok x hx
  by_cases h1 : x = a
  · subst h1
    rw [upF_same]
    have s1 : Node (w.setCell ⟨x, 260, none⟩ (.pointer (some ⟨c, 0, none⟩))) x (fr x) (ol x) c := by
      have := h0.set 260 (.pointer (some ⟨c, 0, none⟩))
      rw [set_newer k0] at this
      exact this
    by_cases h2 : x = c
    · subst h2
      rw [upF_same]
      have := s1.set 259 (.pointer (some ⟨x, 0, none⟩))
      rw [set_older k0] at this
      exact this
    · rw [upF_other _ _ h2]
      exact s1.keep (o1 _ _ _ _ h2)
  · rw [upF_other _ _ h1]
    have s1 : Node (w.setCell ⟨a, 260, none⟩ (.pointer (some ⟨c, 0, none⟩))) x (fr x) (ol x) (nw x) := h0.keep (o1 _ _ _ _ h1)
    by_cases h2 : x = c
    · subst h2
      rw [upF_same]
      have := s1.set 259 (.pointer (some ⟨a, 0, none⟩))
      rw [set_older k0] at this
      exact this
    · rw [upF_other _ _ h2]
      exact s1.keep (o1 _ _ _ _ h2)

theorem getD_mem {i : Nat} (hi : i < bs.length) : bs.getD i e ∈ bs := by
  rw [List.getD_eq_getElem?_getD, List.getElem?_eq_getElem hi]
  exact List.getElem_mem hi

theorem psOf_out (hn : ((psOf bs fr).map (·.1)).Nodup) {i : Nat} (hi : i < bs.length) : (psOf bs fr).filter (fun y => decide (y.1 ≠ (fr (bs.getD i e)).page)) = psOf (bs.eraseIdx i) fr := by
  induction bs generalizing i with
  | nil => simp at hi
  | cons b r ih =>
    simp only [psOf, List.map_cons, List.nodup_cons] at hn
    obtain ⟨h1, h2⟩ := hn
    cases i with
    | zero =>
      simp only [psOf, List.map_cons, List.getD_cons_zero, List.filter_cons, ne_eq, not_true_eq_false, decide_false, Bool.false_eq_true, if_false, List.eraseIdx_cons_zero]
      refine List.filter_eq_self.2 (fun y hy => ?_)
      simp only [decide_eq_true_eq]
      intro e1
      exact h1 (e1 ▸ List.mem_map_of_mem hy)
    | succ i =>
      have hi' : i < r.length := by simpa using hi
      have hne : (fr b).page ≠ (fr (r.getD i e)).page := fun e1 => h1 (by
        rw [e1]
        exact List.mem_map.2 ⟨_, List.mem_map_of_mem (getD_mem (e := e) hi'), rfl⟩)
      have := ih (i := i) h2 hi'
      simp only [psOf, List.map_cons, List.getD_cons_succ, List.filter_cons, ne_eq, hne, not_false_eq_true, decide_true, if_true, List.eraseIdx_cons_succ] at this ⊢
      rw [this]

theorem erase_mem {i x : Nat} (h : x ∈ bs.eraseIdx i) : x ∈ bs := List.mem_of_mem_eraseIdx h

theorem footP_out {i k : Nat} (h : footP p m e (bs.eraseIdx i) k) : footP p m e bs k := by
  rcases h with h | h | h
  · exact .inl h
  · exact .inr (.inl h)
  · rcases List.mem_cons.1 h with h | h
    · exact .inr (.inr (by simp [h]))
    · exact .inr (.inr (List.mem_cons_of_mem _ (erase_mem h)))

/-- A frame is out of the ring and of the map. -/
theorem PD.out (h : PD w p d m e N Fd F D bs fr ol nw) {i : Nat} (hi : i < bs.length) {w1 w2 : World}
    (hm : Mem ((w.setCell ⟨cyc e bs i, 260, none⟩ (.pointer (some ⟨cyc e bs (i + 2), 0, none⟩))).setCell ⟨cyc e bs (i + 2), 259, none⟩ (.pointer (some ⟨cyc e bs i, 0, none⟩))) w1)
    (hh : Held w2 m ((psOf bs fr).filter (fun y => decide (y.1 ≠ (fr (bs.getD i e)).page)))) (ht : w1.mapTurned w2 m) :
    PD w2 p d m e N Fd F D (bs.eraseIdx i) fr (upF ol (cyc e bs (i + 2)) (cyc e bs i)) (upF nw (cyc e bs i) (cyc e bs (i + 2))) ∧ Ch w.heap.size F w w2 := by
  obtain ⟨a1, a2, a3, a4, a5, a6⟩ := h.pool.apart
  have hF := h.flt
  have ha := cyc_mem e bs i
  have hc := cyc_mem e bs (i + 2)
  have c1 : Ch w.heap.size F w w1 := by
    refine Ch.trans ?_ (hm.ch _ _)
    exact ((Ch.refl w.heap.size F w).setCell (p := ⟨cyc e bs i, 260, none⟩) (.inr (h.fp _ (.inr (.inr ha)))) _).setCell (p := ⟨cyc e bs (i + 2), 259, none⟩) (.inr (h.fp _ (.inr (.inr hc)))) _
  have c2 : Ch w.heap.size F w w2 := by
    refine c1.trans ⟨ht.grown.os, ht.grown.tape, ht.grown.output, ht.grown.size, fun k hk hf => ht.grown.block k (Nat.lt_of_lt_of_le hk c1.size) (fun e1 => hf ?_)⟩
    simp at e1
    rw [e1]; exact h.fp m (.inr (.inl rfl))
  have hmw : m < w.heap.size := h.pool.lt m (.inr (.inl rfl))
  -- blocks of the ring and others
  have k2 : ∀ k, k ≠ m → k < w.heap.size → w2.heap[k]? = w1.heap[k]? := fun k hk hl => turned_heap ht hk (Nat.lt_of_lt_of_le hl c1.size)
  have k1 : ∀ k, k ∉ e :: bs → w1.heap[k]? = w.heap[k]? := fun k hk => by
    rw [hm.heap, Below.heap_setCell _ ⟨cyc e bs (i + 2), 259, none⟩ _ k (fun e1 => hk (e1 ▸ hc)), Below.heap_setCell _ ⟨cyc e bs i, 260, none⟩ _ k (fun e1 => hk (e1 ▸ ha))]
  refine ⟨⟨?_, ?_, fun k hk => ⟨(h.fd k hk).1, fun e1 => (h.fd k hk).2 (footP_out e1)⟩, fun k hk => h.fp k (footP_out hk), fun k hk => Nat.lt_of_lt_of_le (hF k hk) c2.size⟩, c2⟩
  · refine h.dev.keep c2.size (fun g hg => ?_)
    have hg2 := (h.fd g hg).2
    exact (k2 g (fun e1 => hg2 (.inr (.inl e1))) (hF g (h.fd g hg).1)).trans (k1 g (fun e1 => hg2 (.inr (.inr e1))))
  · refine { h.pool with cells := ?_, held := ?_, node := ?_, ring := h.pool.ring.out a4 i hi, ok := ?_, pg := ?_, ap := ?_, len := ?_ }
    · have hp := h.pool.lt p (.inl rfl)
      exact ((k2 p a1 hp).trans (k1 p a2)).trans h.pool.cells
    · rw [← psOf_out (e := e) h.pool.held.1 hi]; exact hh
    · intro x hx
      have hx' : x ∈ e :: bs := by
        rcases List.mem_cons.1 hx with hx | hx
        · simp [hx]
        · exact List.mem_cons_of_mem _ (erase_mem hx)
      have hxl := h.pool.lt x (.inr (.inr hx'))
      exact ((nodes_out h.pool.node h.pool.ok _ _ x hx').keep (hm.heap x)).keep (k2 x (fun e1 => a3 (e1 ▸ hx')) hxl)
    · intro x hx
      refine h.pool.ok x ?_
      rcases List.mem_cons.1 hx with hx | hx
      · simp [hx]
      · exact List.mem_cons_of_mem _ (erase_mem hx)
    · exact fun x hx => h.pool.pg x (erase_mem hx)
    · have : (p :: m :: e :: bs.eraseIdx i).Sublist (p :: m :: e :: bs) := ((List.eraseIdx_sublist bs i).cons_cons e |>.cons_cons m).cons_cons p
      exact h.pool.ap.sublist this
    · have := List.length_eraseIdx_le bs i
      have := h.pool.len
      omega

set_option maxRecDepth 20000 in
set_option maxHeartbeats 2000000 in
theorem leave_any (h : PD w p d m e N Fd F D bs fr ol nw) (i : Nat) (hi : i < bs.length) :
    Calls Try.prog 48 #[.pointer (some ⟨p, 0, none⟩), .pointer (some ⟨bs.getD i e, 0, none⟩)] w fun x w' => x = .returned (.tuple #[]) ∧ (∃ ol' nw', PD w' p d m e N Fd F D (bs.eraseIdx i) fr ol' nw') ∧ Ch w.heap.size F w w' := by
  obtain ⟨a1, a2, a3, a4, a5, a6⟩ := h.pool.apart
  obtain ⟨c0, c1, c2, c3⟩ := h.pool.at
  have hgm : bs.getD i e ∈ e :: bs := List.mem_cons_of_mem _ (getD_mem hi)
  have hcy : cyc e bs (i + 1) = bs.getD i e := cyc_succ e bs i hi
  have hend := fun (w1 w2 : World) hm hh ht => h.out hi (w1 := w1) (w2 := w2) hm hh ht
  have ho : ol (bs.getD i e) = cyc e bs i := by rw [← hcy]; exact (h.pool.ring i (by omega)).2
  have hw : nw (bs.getD i e) = cyc e bs (i + 2) := by rw [← hcy]; exact (h.pool.ring (i + 1) (by omega)).1
  obtain ⟨g0, _, _, g3, g4, gz⟩ := (h.pool.node _ hgm).at (h.pool.ok _ hgm)
  rw [ho] at g3
  rw [hw] at g4
  have ha := cyc_mem e bs i
  have hc := cyc_mem e bs (i + 2)
  obtain ⟨_, _, _, _, ha4, haz⟩ := (h.pool.node _ ha).at (h.pool.ok _ ha)
  obtain ⟨_, _, _, hc3, _, hcz⟩ := (h.pool.node _ hc).at (h.pool.ok _ hc)
  have hun := unlink_any w (bs.getD i e) (cyc e bs i) (cyc e bs (i + 2)) _ _ g3 g4 ha4 hc3 (haz _) (hcz _)
  have hpg : (fr (bs.getD i e)).page ≤ 1000000 := by have := h.pool.pg _ (getD_mem (e := e) hi); have := h.pool.np4; omega
  have hheld := h.pool.held
  obtain ⟨g, hg⟩ : ∃ g, bs.getD i e = g := ⟨_, rfl⟩
  obtain ⟨a, hae⟩ : ∃ a, cyc e bs i = a := ⟨_, rfl⟩
  obtain ⟨c, hce⟩ : ∃ c, cyc e bs (i + 2) = c := ⟨_, rfl⟩
  obtain ⟨P, hP⟩ : ∃ P, (fr g).page = P := ⟨_, rfl⟩
  rw [hg] at hun hend hgm hpg g0 ⊢
  rw [hP] at hend hpg g0
  rw [hae, hce] at hun hend
  rw [hae] at ha
  rw [hce] at hc
  have hpa : p ≠ a := fun e1 => a2 (e1 ▸ ha)
  have hpc : p ≠ c := fun e1 => a2 (e1 ▸ hc)
  have hma : m ≠ a := fun e1 => a3 (e1 ▸ ha)
  have hmc : m ≠ c := fun e1 => a3 (e1 ▸ hc)
  have HE : Hid (∀ w1 w2, Mem ((w.setCell ⟨a, 260, none⟩ (.pointer (some ⟨c, 0, none⟩))).setCell ⟨c, 259, none⟩ (.pointer (some ⟨a, 0, none⟩))) w1 → Held w2 m ((psOf bs fr).filter (fun y => decide (y.1 ≠ P))) → w1.mapTurned w2 m → PD w2 p d m e N Fd F D (bs.eraseIdx i) fr (upF ol c a) (upF nw a c) ∧ Ch w.heap.size F w w2) := hend
  have HH : Hid (Held w m (psOf bs fr)) := hheld
  clear hend hheld h ho hw hcy hg hae hce hP gz haz hcz g3 g4 ha4 hc3 c0 c1 c3 a1 a2 a3 a4 a5 a6 hgm ha hc hi
  go_enter Try.func48, Try.ntmps48
  go_wp2_with (go_at_call 52; refine hun.mono ?_; rintro x w1 ⟨rfl, hm⟩)
  have d2 : w1.cell? ⟨p, 2, none⟩ = some (.map (some m)) := by
    rw [← c2]
    refine World.cell?_of_block (a := ⟨p, 2, none⟩) ?_
    show w1.heap[p]? = w.heap[p]?
    rw [hm.heap, Below.heap_setCell _ ⟨c, 259, none⟩ _ p hpc, Below.heap_setCell _ ⟨a, 260, none⟩ _ p hpa]
  have d0 : w1.cell? ⟨g, 0, none⟩ = some (.int .i64 P) := by
    have e1 : ∀ (W : World), W.heap[g]? = w1.heap[g]? → W.cell? ⟨g, 0, none⟩ = w1.cell? ⟨g, 0, none⟩ := fun W hW => World.cell?_of_block (a := ⟨g, 0, none⟩) hW
    rw [← e1 _ (hm.heap g).symm]
    go_simp
  have HH1 : Hid (Held w1 m (psOf bs fr)) := HH.out.keep (by rw [hm.heap, Below.heap_setCell _ ⟨c, 259, none⟩ _ m hmc, Below.heap_setCell _ ⟨a, 260, none⟩ _ m hma])
  have HM : Hid (Mem ((w.setCell ⟨a, 260, none⟩ (.pointer (some ⟨c, 0, none⟩))).setCell ⟨c, 259, none⟩ (.pointer (some ⟨a, 0, none⟩))) w1) := hm
  clear hm hun c2 g0 HH
  go_still_tail 8, (by kernel_rfl)
  refine wpList_held_del _ rfl _ _ rfl m P _ rfl rfl HH1.out hpg ?_
  intro w2 hh2 ht2
  have HF : Hid (PD w2 p d m e N Fd F D (bs.eraseIdx i) fr (upF ol c a) (upF nw a c) ∧ Ch w.heap.size F w w2) := HE.out _ w2 (HM.out.trans (Mem.drew w1)) hh2 ht2
  clear hh2 ht2
  go_wp2
  go_end0
  exact ⟨rfl, ⟨_, _, HF.out.1⟩, HF.out.2⟩
end
end Go.Proofs.Ytojckbhbnalkeaa.Oct
