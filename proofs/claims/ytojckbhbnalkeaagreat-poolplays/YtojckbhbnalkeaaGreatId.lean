/-
  pool: whole frames and whole pages, made and stored.
-/
import Derived.Test.YtojckbhbnalkeaaGreatIc
import Derived.Laws.Rows
namespace Go.Proofs.YtojckbhbnalkeaaGreat.Oct
open Go.RowKit

/-- The cells of a frame, whatever its links. -/
def frV (f : Fr) (vo vn : Value) : List Value := .int .i64 f.page :: (f.b.map (Value.int .u8) ++ [.bool f.dirty, .int .i64 f.pins, vo, vn])

theorem frV_frC (f : Fr) (o n : Nat) : frV f (.pointer (some ⟨o, 0, none⟩)) (.pointer (some ⟨n, 0, none⟩)) = frC f o n := rfl

theorem frV_set {f : Fr} (h : f.ok) (vo vn x y : Value) : ((frV f vo vn).set 259 x).set 260 y = frV f x y := by
  unfold frV
  rw [List.set_cons_succ, List.set_cons_succ, List.set_append_right _ _ (by simp [h.1]), List.set_append_right _ _ (by simp [h.1])]
  simp [h.1]

theorem frV_at {f : Fr} (h : f.ok) (vo vn : Value) : (frV f vo vn)[259]? = some vo ∧ (frV f vo vn)[260]? = some vn := by
  have hl := h.1
  refine ⟨?_, ?_⟩
  iterate 2 (unfold frV; rw [List.getElem?_cons_succ, List.getElem?_append_right (by simp [hl])]; simp [hl])

def AllocA : Sem Value := Instr.alloc 67 true undef
theorem allocA_eq (old : Value) : Instr.alloc 67 true old = AllocA := by simp [AllocA, Instr.alloc]
def StoreA (a v : Value) : Sem Unit := Instr.storeAt 67 a v
theorem storeA_eq (a v : Value) : Instr.storeAt 67 a v = StoreA a v := rfl
def BuildA (ps : Array (Nat × Value)) : Sem Value := Instr.build 67 ps
theorem buildA_eq (ps : Array (Nat × Value)) : Instr.build 67 ps = BuildA ps := rfl
def BuildF (ps : Array (Nat × Value)) : Sem Value := Instr.build 69 ps
theorem buildF_eq (ps : Array (Nat × Value)) : Instr.build 69 ps = BuildF ps := rfl
def BoxF (v : Value) : Sem Value := Instr.box 69 v
theorem boxF_eq (v : Value) : Instr.box 69 v = BoxF v := rfl

def zeA : Array Value := (List.replicate 256 (Value.int .u8 0)).toArray
theorem zeA_size : zeA.size = 256 := by unfold zeA; rw [List.size_toArray, List.length_replicate]
def zeF : Array Value := (frV fr0 (.pointer none) (.pointer none)).toArray

theorem build_a (w : World) : (BuildA #[]).run Tryz.prog w = .ok (.agg zeA) w := by kernel_rfl
theorem build_f0 (w : World) : (BuildF #[]).run Tryz.prog w = .ok (.agg zeF) w := by kernel_rfl
theorem alloc_a (w : World) : AllocA.run Tryz.prog w = .ok (.pointer (some ⟨w.heap.size, 0, none⟩)) (w.alloc (.cells zeA 67)) := by kernel_rfl
theorem box_f (w : World) (cs : Array Value) : (BoxF (.agg cs)).run Tryz.prog w = .ok (.pointer (some ⟨w.heap.size, 0, none⟩)) (w.alloc (.cells cs 69)) := by
  simp [BoxF, Instr.box, newVar, newRow, Value.cells]

theorem zero_f (w : World) : (zeroValue 69).run Tryz.prog w = .ok (.agg zeF) w := by kernel_rfl
theorem infB : (Tryz.prog.info? 4).map (fun i => (i.zero.map (·.cells.size), i.size, i.bytes)) = some (some 1, 1, 1) := by kernel_rfl
theorem infP : (Tryz.prog.info? 66).map (fun i => (i.zero.map (·.cells.size), i.size, i.bytes)) = some (some 1, 1, 8) := by kernel_rfl

theorem build_f (w : World) (pg : Nat) (zs : List Int) (hl : zs.length = 256) : (BuildF #[(0, .int .i64 pg), (1, .agg (zs.map (Value.int .u8)).toArray)]).run Tryz.prog w = .ok (.agg (frV ⟨pg, zs, false, 0⟩ (.pointer none) (.pointer none)).toArray) w := by
  have hz : zeF.size = 261 := by
    unfold zeF frV
    rw [List.size_toArray, List.length_cons, List.length_append, List.length_map, fr0_ok.1]
    rfl
  obtain ⟨_, _, h3, _⟩ := parts_of inf3
  obtain ⟨_, _, h62, _⟩ := parts_of inf62
  obtain ⟨_, _, h4, _⟩ := parts_of infB
  obtain ⟨_, _, h50, _⟩ := parts_of infP
  unfold BuildF Instr.build
  simp only [Sem.run_bind, zero_f, Result.andThen_ok, run_underlying Tryz.underlying69]
  simp [h3, h62, h4, h50]
  rw [show (Value.agg zeF).cells = zeF from rfl]
  rw [fill_step _ _ 0 0 1 _ _ rfl rfl (by omega)]
  rw [fill_step _ _ 1 1 256 _ _ rfl (by show (zs.map (Value.int .u8)).toArray.size = 256; simp [hl]) (by simp [Value.cells, hz])]
  unfold Instr.fill
  simp only [Sem.run_pure, Result.ok.injEq, Value.agg.injEq, and_true]
  congr 1

theorem store_a (w : World) (z : Array Value) (cs : List Value) (hz : z.size = 256) (hl : cs.length = 256) (h1 : ∀ v ∈ cs, v.oneCell' = true) : (StoreA (.pointer (some ⟨w.heap.size, 0, none⟩)) (.agg cs.toArray)).run Tryz.prog (w.alloc (.cells z 67)) = .ok () (w.alloc (.cells cs.toArray 67)) := by
  have := run_storeVar_new (P := Tryz.prog) w 67 z cs.toArray (by rw [size62]; simp [hl]) (by simp [hz, hl]) (all_oneCell_toArray h1)
  simp only [StoreA, Instr.storeAt, Instr.sureAddr, Sem.run_bind, Sem.run_pure, Result.andThen_ok, this]
end Go.Proofs.YtojckbhbnalkeaaGreat.Oct

/-
  pool: made, has; leave.
-/
namespace Go.Proofs.YtojckbhbnalkeaaGreat.Oct
open Go.RowKit

theorem wpList_held_del {ops : Array Oper} {rest : List Oper} {o : Oper} {a : Act} {Q : Exit → Act → World → Prop} (w : World) (hg : o.guard = none) (x y : Operand) (hop : o.op = Op.call { callee := Callee.builtin Builtin.delete, args := #[x, y], argTypes := #[70, 3] })
    (m pg : Nat) (ps : List (Nat × Nat)) (hx : a.eval x = .map (some m)) (hy : a.eval y = .int .i64 pg) (h : Held w m ps) (hp : pg ≤ 1000000)
    (hK : ∀ w', Held w' m (ps.filter (fun y => decide (y.1 ≠ pg))) → w.mapTurned w' m → wpList Tryz.prog ops Q rest (a.put o.dst (.tuple #[])) w') : wpList Tryz.prog ops Q (o :: rest) a w := by
  refine wpList_plain hg fun K' hK' => ?_
  obtain ⟨w', hrun, r1, r2⟩ := h.del pg hp o.type
  unfold Oper.wp
  simp [execOp, hop, resolve, invoke, builtin, hx, hy, hrun, Result.andThen]
  exact hK' _ _ (hK w' r1 r2)

theorem wpList_held_put {ops : Array Oper} {rest : List Oper} {o : Oper} {a : Act} {Q : Exit → Act → World → Prop} (w : World) (hg : o.guard = none) (x y v : Operand) (hop : o.op = Op.mapUpdate 70 x y v)
    (m pg g : Nat) (ps : List (Nat × Nat)) (hx : a.eval x = .map (some m)) (hy : a.eval y = .int .i64 pg) (hv : a.eval v = .pointer (some ⟨g, 0, none⟩)) (h : Held w m ps) (hp : pg ≤ 1000000) (hl : ps.length ≤ 1000000) (hf : findP ps pg = none)
    (hK : ∀ w', Held w' m (ps ++ [(pg, g)]) → w.mapTurned w' m → wpList Tryz.prog ops Q rest (a.put o.dst undef) w') : wpList Tryz.prog ops Q (o :: rest) a w := by
  refine wpList_plain hg fun K' hK' => ?_
  obtain ⟨w', hrun, r1, r2⟩ := h.put pg g hp hl hf
  unfold Oper.wp
  simp [execOp, hop, hx, hy, hv, hrun, Result.andThen]
  exact hK' _ _ (hK w' r1 r2)

section
variable {w : World} {p d m e N : Nat} {Fd F : Nat → Prop} {D : Dv} {bs : List Nat} {fr : Nat → Fr} {ol nw : Nat → Nat}

theorem poolMade_any (h : PD w p d m e N Fd F D bs fr ol nw) : Calls Tryz.prog 40 #[.pointer (some ⟨p, 0, none⟩)] w fun x w' => x = .returned (.bool true) ∧ w = w' := by
  obtain ⟨c0, c1, c2, c3⟩ := h.pool.at
  have n8 := h.pool.n8
  have hN : 0 < N := by omega
  clear h
  go_enter Tryz.func40, Tryz.ntmps40
  go_wp2
  go_ret
  refine ⟨?_, rfl⟩
  rfl

theorem poolHas_any (h : PD w p d m e N Fd F D bs fr ol nw) (pg : Int) : Calls Tryz.prog 41 #[.pointer (some ⟨p, 0, none⟩), .int .i64 pg] w fun x w' => x = .returned (.bool (hasB D pg)) ∧ w = w' := by
  obtain ⟨c0, c1, c2, c3⟩ := h.pool.at
  have hp := pages_any h.dev
  have ht : ∀ (b : Bool), b = hasB D pg → Ending.returned (.bool b) = .returned (.bool (hasB D pg)) := fun b h => by rw [h]
  clear h
  by_cases h0 : 0 ≤ pg
  · by_cases h1 : pg < D.n
    · go_enter Tryz.func41, Tryz.ntmps41
      go_wp2_with (go_at_call 74; refine hp.mono ?_; rintro e w' ⟨rfl, rfl⟩)
      go_ret
      exact ⟨ht _ (by simp [hasB]; omega), rfl⟩
    · go_enter Tryz.func41, Tryz.ntmps41
      go_wp2_with (go_at_call 74; refine hp.mono ?_; rintro e w' ⟨rfl, rfl⟩)
      go_ret
      exact ⟨ht _ (by simp [hasB]; omega), rfl⟩
  · go_enter Tryz.func41, Tryz.ntmps41
    go_wp2_with (go_at_call 74; refine hp.mono ?_; rintro e w' ⟨rfl, rfl⟩)
    go_ret
    exact ⟨ht _ (by simp [hasB]; omega), rfl⟩

theorem Mem.heap {w w' : World} (h : Mem w w') (k : Nat) : w'.heap[k]? = w.heap[k]? := by rw [h.1]
theorem Mem.ch {w w' : World} (h : Mem w w') (B : Nat) (G : Nat → Prop) : Ch B G w w' := ⟨h.2.1, h.2.2.1, h.2.2.2, by rw [h.1]; exact Nat.le_refl _, fun k _ _ => h.heap k⟩
theorem Mem.drew (w : World) : Mem w w.drew := ⟨rfl, rfl, rfl, rfl⟩
theorem Mem.trans {a b c : World} (h : Mem a b) (k : Mem b c) : Mem a c := ⟨k.1.trans h.1, k.2.1.trans h.2.1, k.2.2.1.trans h.2.2.1, k.2.2.2.trans h.2.2.2⟩

/-- The nodes of a ring behind the one that goes. -/
theorem nodes_out (hn : ∀ g ∈ e :: bs, Node w g (fr g) (ol g) (nw g)) (hok : ∀ g ∈ e :: bs, (fr g).ok) (a c : Nat) (x : Nat) (hx : x ∈ e :: bs) :
    Node ((w.setCell ⟨a, 260, none⟩ (.pointer (some ⟨c, 0, none⟩))).setCell ⟨c, 259, none⟩ (.pointer (some ⟨a, 0, none⟩))) x (fr x) (upF ol c a x) (upF nw a c x) := by
  have o1 : ∀ (W : World) (q i : Nat) (v : Value), x ≠ q → (W.setCell ⟨q, i, none⟩ v).heap[x]? = W.heap[x]? := fun W q i v hq => Below.heap_setCell W ⟨q, i, none⟩ v x hq
  have h0 := hn x hx
  have k0 := hok x hx
  by_cases h1 : x = a
  · subst h1
    rw [upF_same]
    have s1 : Node (w.setCell ⟨x, 260, none⟩ (.pointer (some ⟨c, 0, none⟩))) x (fr x) (ol x) c := by
      have := h0.set 260 (.pointer (some ⟨c, 0, none⟩))
      rw [set_newer k0] at this
      exact this
    by_cases h2 : x = c
    · subst h2
      rw [upF_same]
      have := s1.set 259 (.pointer (some ⟨x, 0, none⟩))
      rw [set_older k0] at this
      exact this
    · rw [upF_other _ _ h2]
      exact s1.keep (o1 _ _ _ _ h2)
  · rw [upF_other _ _ h1]
    have s1 : Node (w.setCell ⟨a, 260, none⟩ (.pointer (some ⟨c, 0, none⟩))) x (fr x) (ol x) (nw x) := h0.keep (o1 _ _ _ _ h1)
    by_cases h2 : x = c
    · subst h2
      rw [upF_same]
      have := s1.set 259 (.pointer (some ⟨a, 0, none⟩))
      rw [set_older k0] at this
      exact this
    · rw [upF_other _ _ h2]
      exact s1.keep (o1 _ _ _ _ h2)

theorem getD_mem {i : Nat} (hi : i < bs.length) : bs.getD i e ∈ bs := by
  rw [List.getD_eq_getElem?_getD, List.getElem?_eq_getElem hi]
  exact List.getElem_mem hi

theorem psOf_out (hn : ((psOf bs fr).map (·.1)).Nodup) {i : Nat} (hi : i < bs.length) : (psOf bs fr).filter (fun y => decide (y.1 ≠ (fr (bs.getD i e)).page)) = psOf (bs.eraseIdx i) fr := by
  induction bs generalizing i with
  | nil => simp at hi
  | cons b r ih =>
    simp only [psOf, List.map_cons, List.nodup_cons] at hn
    obtain ⟨h1, h2⟩ := hn
    cases i with
    | zero =>
      simp only [psOf, List.map_cons, List.getD_cons_zero, List.filter_cons, ne_eq, not_true_eq_false, decide_false, Bool.false_eq_true, if_false, List.eraseIdx_cons_zero]
      refine List.filter_eq_self.2 (fun y hy => ?_)
      simp only [decide_eq_true_eq]
      intro e1
      exact h1 (e1 ▸ List.mem_map_of_mem hy)
    | succ i =>
      have hi' : i < r.length := by simpa using hi
      have hne : (fr b).page ≠ (fr (r.getD i e)).page := fun e1 => h1 (by
        rw [e1]
        exact List.mem_map.2 ⟨_, List.mem_map_of_mem (getD_mem (e := e) hi'), rfl⟩)
      have := ih (i := i) h2 hi'
      simp only [psOf, List.map_cons, List.getD_cons_succ, List.filter_cons, ne_eq, hne, not_false_eq_true, decide_true, if_true, List.eraseIdx_cons_succ] at this ⊢
      rw [this]

theorem erase_mem {i x : Nat} (h : x ∈ bs.eraseIdx i) : x ∈ bs := List.mem_of_mem_eraseIdx h

theorem footP_out {i k : Nat} (h : footP p m e (bs.eraseIdx i) k) : footP p m e bs k := by
  rcases h with h | h | h
  · exact .inl h
  · exact .inr (.inl h)
  · rcases List.mem_cons.1 h with h | h
    · exact .inr (.inr (by simp [h]))
    · exact .inr (.inr (List.mem_cons_of_mem _ (erase_mem h)))

/-- A frame is out of the ring and of the map. -/
theorem PD.out (h : PD w p d m e N Fd F D bs fr ol nw) {i : Nat} (hi : i < bs.length) {w1 w2 : World}
    (hm : Mem ((w.setCell ⟨cyc e bs i, 260, none⟩ (.pointer (some ⟨cyc e bs (i + 2), 0, none⟩))).setCell ⟨cyc e bs (i + 2), 259, none⟩ (.pointer (some ⟨cyc e bs i, 0, none⟩))) w1)
    (hh : Held w2 m ((psOf bs fr).filter (fun y => decide (y.1 ≠ (fr (bs.getD i e)).page)))) (ht : w1.mapTurned w2 m) :
    PD w2 p d m e N Fd F D (bs.eraseIdx i) fr (upF ol (cyc e bs (i + 2)) (cyc e bs i)) (upF nw (cyc e bs i) (cyc e bs (i + 2))) ∧ Ch w.heap.size F w w2 := by
  obtain ⟨a1, a2, a3, a4, a5, a6⟩ := h.pool.apart
  have hF := h.flt
  have ha := cyc_mem e bs i
  have hc := cyc_mem e bs (i + 2)
  have c1 : Ch w.heap.size F w w1 := by
    refine Ch.trans ?_ (hm.ch _ _)
    exact ((Ch.refl w.heap.size F w).setCell (p := ⟨cyc e bs i, 260, none⟩) (.inr (h.fp _ (.inr (.inr ha)))) _).setCell (p := ⟨cyc e bs (i + 2), 259, none⟩) (.inr (h.fp _ (.inr (.inr hc)))) _
  have c2 : Ch w.heap.size F w w2 := by
    refine c1.trans ⟨ht.grown.os, ht.grown.tape, ht.grown.output, ht.grown.size, fun k hk hf => ht.grown.block k (Nat.lt_of_lt_of_le hk c1.size) (fun e1 => hf ?_)⟩
    simp at e1
    rw [e1]; exact h.fp m (.inr (.inl rfl))
  have hmw : m < w.heap.size := h.pool.lt m (.inr (.inl rfl))
  -- blocks of the ring and others
  have k2 : ∀ k, k ≠ m → k < w.heap.size → w2.heap[k]? = w1.heap[k]? := fun k hk hl => turned_heap ht hk (Nat.lt_of_lt_of_le hl c1.size)
  have k1 : ∀ k, k ∉ e :: bs → w1.heap[k]? = w.heap[k]? := fun k hk => by
    rw [hm.heap, Below.heap_setCell _ ⟨cyc e bs (i + 2), 259, none⟩ _ k (fun e1 => hk (e1 ▸ hc)), Below.heap_setCell _ ⟨cyc e bs i, 260, none⟩ _ k (fun e1 => hk (e1 ▸ ha))]
  refine ⟨⟨?_, ?_, fun k hk => ⟨(h.fd k hk).1, fun e1 => (h.fd k hk).2 (footP_out e1)⟩, fun k hk => h.fp k (footP_out hk), fun k hk => Nat.lt_of_lt_of_le (hF k hk) c2.size⟩, c2⟩
  · refine h.dev.keep c2.size (fun g hg => ?_)
    have hg2 := (h.fd g hg).2
    exact (k2 g (fun e1 => hg2 (.inr (.inl e1))) (hF g (h.fd g hg).1)).trans (k1 g (fun e1 => hg2 (.inr (.inr e1))))
  · refine { h.pool with cells := ?_, held := ?_, node := ?_, ring := h.pool.ring.out a4 i hi, ok := ?_, pg := ?_, ap := ?_, len := ?_ }
    · have hp := h.pool.lt p (.inl rfl)
      exact ((k2 p a1 hp).trans (k1 p a2)).trans h.pool.cells
    · rw [← psOf_out (e := e) h.pool.held.1 hi]; exact hh
    · intro x hx
      have hx' : x ∈ e :: bs := by
        rcases List.mem_cons.1 hx with hx | hx
        · simp [hx]
        · exact List.mem_cons_of_mem _ (erase_mem hx)
      have hxl := h.pool.lt x (.inr (.inr hx'))
      exact ((nodes_out h.pool.node h.pool.ok _ _ x hx').keep (hm.heap x)).keep (k2 x (fun e1 => a3 (e1 ▸ hx')) hxl)
    · intro x hx
      refine h.pool.ok x ?_
      rcases List.mem_cons.1 hx with hx | hx
      · simp [hx]
      · exact List.mem_cons_of_mem _ (erase_mem hx)
    · exact fun x hx => h.pool.pg x (erase_mem hx)
    · have : (p :: m :: e :: bs.eraseIdx i).Sublist (p :: m :: e :: bs) := ((List.eraseIdx_sublist bs i).cons_cons e |>.cons_cons m).cons_cons p
      exact h.pool.ap.sublist this
    · have := List.length_eraseIdx_le bs i
      have := h.pool.len
      omega

set_option maxRecDepth 20000 in
set_option maxHeartbeats 2000000 in
theorem leave_any (h : PD w p d m e N Fd F D bs fr ol nw) (i : Nat) (hi : i < bs.length) :
    Calls Tryz.prog 56 #[.pointer (some ⟨p, 0, none⟩), .pointer (some ⟨bs.getD i e, 0, none⟩)] w fun x w' => x = .returned (.tuple #[]) ∧ (∃ ol' nw', PD w' p d m e N Fd F D (bs.eraseIdx i) fr ol' nw') ∧ Ch w.heap.size F w w' := by
  obtain ⟨a1, a2, a3, a4, a5, a6⟩ := h.pool.apart
  obtain ⟨c0, c1, c2, c3⟩ := h.pool.at
  have hgm : bs.getD i e ∈ e :: bs := List.mem_cons_of_mem _ (getD_mem hi)
  have hcy : cyc e bs (i + 1) = bs.getD i e := cyc_succ e bs i hi
  have hend := fun (w1 w2 : World) hm hh ht => h.out hi (w1 := w1) (w2 := w2) hm hh ht
  have ho : ol (bs.getD i e) = cyc e bs i := by rw [← hcy]; exact (h.pool.ring i (by omega)).2
  have hw : nw (bs.getD i e) = cyc e bs (i + 2) := by rw [← hcy]; exact (h.pool.ring (i + 1) (by omega)).1
  obtain ⟨g0, _, _, g3, g4, gz⟩ := (h.pool.node _ hgm).at (h.pool.ok _ hgm)
  rw [ho] at g3
  rw [hw] at g4
  have ha := cyc_mem e bs i
  have hc := cyc_mem e bs (i + 2)
  obtain ⟨_, _, _, _, ha4, haz⟩ := (h.pool.node _ ha).at (h.pool.ok _ ha)
  obtain ⟨_, _, _, hc3, _, hcz⟩ := (h.pool.node _ hc).at (h.pool.ok _ hc)
  have hun := unlink_any w (bs.getD i e) (cyc e bs i) (cyc e bs (i + 2)) _ _ g3 g4 ha4 hc3 (haz _) (hcz _)
  have hpg : (fr (bs.getD i e)).page ≤ 1000000 := by have := h.pool.pg _ (getD_mem (e := e) hi); have := h.pool.np4; omega
  have hheld := h.pool.held
  obtain ⟨g, hg⟩ : ∃ g, bs.getD i e = g := ⟨_, rfl⟩
  obtain ⟨a, hae⟩ : ∃ a, cyc e bs i = a := ⟨_, rfl⟩
  obtain ⟨c, hce⟩ : ∃ c, cyc e bs (i + 2) = c := ⟨_, rfl⟩
  obtain ⟨P, hP⟩ : ∃ P, (fr g).page = P := ⟨_, rfl⟩
  rw [hg] at hun hend hgm hpg g0 ⊢
  rw [hP] at hend hpg g0
  rw [hae, hce] at hun hend
  rw [hae] at ha
  rw [hce] at hc
  have hpa : p ≠ a := fun e1 => a2 (e1 ▸ ha)
  have hpc : p ≠ c := fun e1 => a2 (e1 ▸ hc)
  have hma : m ≠ a := fun e1 => a3 (e1 ▸ ha)
  have hmc : m ≠ c := fun e1 => a3 (e1 ▸ hc)
  have HE : Hid (∀ w1 w2, Mem ((w.setCell ⟨a, 260, none⟩ (.pointer (some ⟨c, 0, none⟩))).setCell ⟨c, 259, none⟩ (.pointer (some ⟨a, 0, none⟩))) w1 → Held w2 m ((psOf bs fr).filter (fun y => decide (y.1 ≠ P))) → w1.mapTurned w2 m → PD w2 p d m e N Fd F D (bs.eraseIdx i) fr (upF ol c a) (upF nw a c) ∧ Ch w.heap.size F w w2) := hend
  have HH : Hid (Held w m (psOf bs fr)) := hheld
  clear hend hheld h ho hw hcy hg hae hce hP gz haz hcz g3 g4 ha4 hc3 c0 c1 c3 a1 a2 a3 a4 a5 a6 hgm ha hc hi
  go_enter Tryz.func56, Tryz.ntmps56
  go_wp2_with (go_at_call 77; refine hun.mono ?_; rintro x w1 ⟨rfl, hm⟩)
  have d2 : w1.cell? ⟨p, 2, none⟩ = some (.map (some m)) := by
    rw [← c2]
    refine World.cell?_of_block (a := ⟨p, 2, none⟩) ?_
    show w1.heap[p]? = w.heap[p]?
    rw [hm.heap, Below.heap_setCell _ ⟨c, 259, none⟩ _ p hpc, Below.heap_setCell _ ⟨a, 260, none⟩ _ p hpa]
  have d0 : w1.cell? ⟨g, 0, none⟩ = some (.int .i64 P) := by
    have e1 : ∀ (W : World), W.heap[g]? = w1.heap[g]? → W.cell? ⟨g, 0, none⟩ = w1.cell? ⟨g, 0, none⟩ := fun W hW => World.cell?_of_block (a := ⟨g, 0, none⟩) hW
    rw [← e1 _ (hm.heap g).symm]
    go_simp
  have HH1 : Hid (Held w1 m (psOf bs fr)) := HH.out.keep (by rw [hm.heap, Below.heap_setCell _ ⟨c, 259, none⟩ _ m hmc, Below.heap_setCell _ ⟨a, 260, none⟩ _ m hma])
  have HM : Hid (Mem ((w.setCell ⟨a, 260, none⟩ (.pointer (some ⟨c, 0, none⟩))).setCell ⟨c, 259, none⟩ (.pointer (some ⟨a, 0, none⟩))) w1) := hm
  clear hm hun c2 g0 HH
  go_still_tail 8, (by kernel_rfl)
  refine wpList_held_del _ rfl _ _ rfl m P _ rfl rfl HH1.out hpg ?_
  intro w2 hh2 ht2
  have HF : Hid (PD w2 p d m e N Fd F D (bs.eraseIdx i) fr (upF ol c a) (upF nw a c) ∧ Ch w.heap.size F w w2) := HE.out _ w2 (HM.out.trans (Mem.drew w1)) hh2 ht2
  clear hh2 ht2
  go_wp2
  go_end0
  exact ⟨rfl, ⟨_, _, HF.out.1⟩, HF.out.2⟩
end
end Go.Proofs.YtojckbhbnalkeaaGreat.Oct

/-
  pool: clean, evict.
-/
namespace Go.Proofs.YtojckbhbnalkeaaGreat.Oct
open Go.RowKit

def evE (D : Dv) (f : Fr) : Int := if f.dirty = true then saysD D else 0
def evD (D : Dv) (f : Fr) : Dv := if f.dirty = true then writeD D f.page f.b else D

theorem writeD_n (D : Dv) (pg : Nat) (b : List Int) : (writeD D pg b).n = D.n := by
  unfold writeD
  split
  · rfl
  · split
    · rfl
    · split <;> rfl
theorem evD_n (D : Dv) (f : Fr) : (evD D f).n = D.n := by
  unfold evD
  split
  · exact writeD_n ..
  · rfl

theorem saysD_cases (D : Dv) : saysD D = 0 ∨ saysD D = 7 := by
  unfold saysD
  split
  · exact .inr rfl
  · split
    · exact .inr rfl
    · split
      · exact .inl rfl
      · exact .inr rfl

theorem Step.undrew {F F' : Nat → Prop} {w w1 : World} (h : Step F F' w.drew w1) : Step F F' w w1 := ⟨⟨h.1.os, h.1.tape, h.1.output, h.1.size, h.1.block⟩, h.2⟩
theorem Ch.undrew {B : Nat} {F : Nat → Prop} {w w1 : World} (h : Ch B F w.drew w1) : Ch B F w w1 := ⟨h.os, h.tape, h.output, h.size, h.block⟩

section
variable {w : World} {p d m e N : Nat} {Fd F : Nat → Prop} {D : Dv} {bs : List Nat} {fr : Nat → Fr} {ol nw : Nat → Nat}

theorem PD.mem {w' : World} (h : PD w p d m e N Fd F D bs fr ol nw) (k : Mem w w') : PD w' p d m e N Fd F D bs fr ol nw := h.keep (by rw [k.1]; exact Nat.le_refl _) (fun g _ => k.heap g)

/-- One frame has turned. -/
theorem PD.setN {w' : World} (h : PD w p d m e N Fd F D bs fr ol nw) {g : Nat} (hg : g ∈ bs) (f : Fr) (hn : Node w' g f (ol g) (nw g)) (hk : ∀ k, k ≠ g → w'.heap[k]? = w.heap[k]?) (hs : w'.heap.size = w.heap.size) (hok : f.ok) (hpg : f.page = (fr g).page) :
    PD w' p d m e N Fd F D bs (upF fr g f) ol nw := by
  obtain ⟨a1, a2, a3, a4, a5, a6⟩ := h.pool.apart
  have hg' : g ∈ e :: bs := List.mem_cons_of_mem _ hg
  refine ⟨h.dev.keep (Nat.le_of_eq hs.symm) (fun k hk' => hk k (fun e1 => (h.fd k hk').2 (.inr (.inr (e1 ▸ hg'))))), ?_, h.fd, h.fp, fun k hk' => by rw [hs]; exact h.flt k hk'⟩
  refine h.pool.re (hk p (fun e1 => a2 (e1 ▸ hg'))) (hk m (fun e1 => a3 (e1 ▸ hg'))) (fun x hx => ?_) (fun x hx => ?_) (fun x => ?_)
  · by_cases e1 : x = g
    · subst e1; rw [upF_same]; exact hn
    · rw [upF_other _ _ e1]; exact (h.pool.node x hx).keep (hk x e1)
  · by_cases e1 : x = g
    · subst e1; rw [upF_same]; exact hok
    · rw [upF_other _ _ e1]; exact h.pool.ok x hx
  · by_cases e1 : x = g
    · subst e1; rw [upF_same]; exact hpg
    · rw [upF_other _ _ e1]

theorem PD.setDirty (h : PD w p d m e N Fd F D bs fr ol nw) {g : Nat} (hg : g ∈ bs) (x : Bool) : PD (w.setCell ⟨g, 257, none⟩ (.bool x)) p d m e N Fd F D bs (upF fr g { fr g with dirty := x }) ol nw := by
  have hg' : g ∈ e :: bs := List.mem_cons_of_mem _ hg
  refine h.setN hg _ ?_ (fun k hk => Below.heap_setCell w ⟨g, 257, none⟩ _ k hk) (size_setCell _ _ _) (h.pool.ok g hg') rfl
  have := (h.pool.node g hg').set 257 (.bool x)
  rw [set_dirty (h.pool.ok g hg')] at this
  exact this

theorem PD.setPins (h : PD w p d m e N Fd F D bs fr ol nw) {g : Nat} (hg : g ∈ bs) (x : Nat) : PD (w.setCell ⟨g, 258, none⟩ (.int .i64 x)) p d m e N Fd F D bs (upF fr g { fr g with pins := x }) ol nw := by
  have hg' : g ∈ e :: bs := List.mem_cons_of_mem _ hg
  refine h.setN hg _ ?_ (fun k hk => Below.heap_setCell w ⟨g, 258, none⟩ _ k hk) (size_setCell _ _ _) (h.pool.ok g hg') rfl
  have := (h.pool.node g hg').set 258 (.int .i64 x)
  rw [set_pins (h.pool.ok g hg')] at this
  exact this

def clF (s : Int) (fr : Nat → Fr) (g : Nat) : Nat → Fr := if s = 0 then upF fr g { fr g with dirty := false } else fr

set_option maxRecDepth 20000 in
set_option maxHeartbeats 2000000 in
theorem clean_any (h : PD w p d m e N Fd F D bs fr ol nw) (hops : D.ops ≤ 4611686018427387904) (hs : D.since.length ≤ 1000000) (g : Nat) (hg : g ∈ bs) :
    Calls Tryz.prog 59 #[.pointer (some ⟨p, 0, none⟩), .pointer (some ⟨g, 0, none⟩)] w fun x w' => CEnd (saysD D) x ∧ ∃ Fd' F', PD w' p d m e N Fd' F' (writeD D (fr g).page (fr g).b) bs (clF (saysD D) fr g) ol nw ∧ Step F F' w w' := by
  have hg' : g ∈ e :: bs := List.mem_cons_of_mem _ hg
  obtain ⟨c0, c1, c2, c3⟩ := h.pool.at
  obtain ⟨g0, _, _, _, _, gz⟩ := (h.pool.node _ hg').at (h.pool.ok _ hg')
  have hok := h.pool.ok _ hg'
  have hd := h.mem (Mem.drew w)
  have hwr := write_any hd.dev hops hs (fr g).page (h.pool.pg g hg) (some ⟨g, 1, none⟩) 256 (fr g).b ((hd.pool.node _ hg').row hok) hok.1
  have hend : ∀ (w1 : World) Fd', Dev w1 d Fd' (writeD D (fr g).page (fr g).b) → Step Fd Fd' w.drew w1 → ∃ F', PD w1 p d m e N Fd' F' (writeD D (fr g).page (fr g).b) bs fr ol nw ∧ Step F F' w w1 := fun w1 Fd' h1 h2 => by
    obtain ⟨t1, t2⟩ := hd.turn h1 (writeD_n ..) h2
    exact ⟨_, t1, t2.undrew⟩
  have HE : Hid (∀ (w1 : World) Fd', Dev w1 d Fd' (writeD D (fr g).page (fr g).b) → Step Fd Fd' w.drew w1 → ∃ F', PD w1 p d m e N Fd' F' (writeD D (fr g).page (fr g).b) bs fr ol nw ∧ Step F F' w w1) := hend
  obtain ⟨P, hP⟩ : ∃ P, (fr g).page = P := ⟨_, rfl⟩
  rw [hP] at hwr g0
  have HP : Hid ((fr g).page = P) := hP
  have HG : Hid (g ∈ bs) := hg
  have hck := check_ok
  have hcn := check_no 7 (by decide)
  clear h hd hend hP gz hok c1 c2 c3 hg hg'
  rcases saysD_cases D with s0 | s0
  · rw [s0] at hwr ⊢
    go_enter Tryz.func59, Tryz.ntmps59
    go_wp2_with fail
    go_still_tail 12, (by kernel_rfl)
    go_wp2_with fail
    refine hwr.mono ?_
    clear hwr
    rintro x w1 ⟨rfl, Fd', h1, h2⟩
    rw [← HP.out] at h1
    obtain ⟨F', h3, h4⟩ := HE.out w1 Fd' h1 h2
    obtain ⟨_, e1, _, _, _, ez⟩ := (h3.pool.node _ (List.mem_cons_of_mem _ HG.out)).at (h3.pool.ok _ (List.mem_cons_of_mem _ HG.out))
    have e2 := ez 257
    have H5 : Hid (PD (w1.setCell ⟨g, 257, none⟩ (.bool false)) p d m e N Fd' F' (writeD D (fr g).page (fr g).b) bs (clF 0 fr g) ol nw) := h3.setDirty HG.out false
    have H6 : Hid (Step F F' w (w1.setCell ⟨g, 257, none⟩ (.bool false))) := ⟨h4.1.trans ((Ch.refl _ F w1).setCell (p := ⟨g, 257, none⟩) (by
      by_cases hl : g < w.heap.size
      · rcases h4.2 g (h3.fp g (.inr (.inr (List.mem_cons_of_mem _ HG.out)))) with e3 | e3
        · exact .inr e3
        · omega
      · exact .inl (by show w.heap.size ≤ g; omega)) _), h4.2⟩
    obtain ⟨bd, hbd⟩ : ∃ bd, (fr g).dirty = bd := ⟨_, rfl⟩
    rw [hbd] at e1
    clear h1 h2 h3 h4 ez hbd
    go_wp2_with (go_at_call 79; refine (hck _).mono ?_; rintro x w2 ⟨rfl, rfl⟩)
    go_end0
    exact ⟨.inl ⟨rfl, rfl⟩, Fd', F', H5.out, H6.out⟩
  · rw [s0] at hwr ⊢
    go_enter Tryz.func59, Tryz.ntmps59
    go_wp2_with fail
    go_still_tail 12, (by kernel_rfl)
    go_wp2_with fail
    refine hwr.mono ?_
    clear hwr
    rintro x w1 ⟨rfl, Fd', h1, h2⟩
    rw [← HP.out] at h1
    obtain ⟨F', h3, h4⟩ := HE.out w1 Fd' h1 h2
    have H5 : Hid (PD w1 p d m e N Fd' F' (writeD D (fr g).page (fr g).b) bs (clF 7 fr g) ol nw) := h3
    have H6 : Hid (Step F F' w w1) := h4
    clear h1 h2 h3 h4
    go_wp2_with (go_at_call 79; refine (hcn _).mono ?_; rintro x w2 ⟨rfl, rfl⟩; unfold thrown)
    exact ⟨rfl, .inr ⟨by decide, rfl⟩, Fd', F', H5.out, H6.out⟩

theorem not_erase (hn : bs.Nodup) {i : Nat} (hi : i < bs.length) : bs.getD i e ∉ bs.eraseIdx i := by
  intro hm
  rw [List.getD_eq_getElem?_getD, List.getElem?_eq_getElem hi, Option.getD_some] at hm
  obtain ⟨j, hj, he⟩ := List.getElem_of_mem hm
  rw [List.getElem_eraseIdx] at he
  have hp := List.pairwise_iff_getElem.1 hn
  have hl : (bs.eraseIdx i).length = bs.length - 1 := List.length_eraseIdx_of_lt hi
  split at he
  · rename_i h1; exact hp j i _ _ h1 he
  · rename_i h1; exact hp i (j + 1) _ _ (by omega) he.symm

/-- What stands when a frame was to leave. -/
def evB (s : Int) (bs : List Nat) (i : Nat) : List Nat := if s = 0 then bs.eraseIdx i else bs

set_option maxHeartbeats 2000000 in
theorem evict_any (h : PD w p d m e N Fd F D bs fr ol nw) (hops : D.ops ≤ 4611686018427387904) (hs : D.since.length ≤ 1000000) (i : Nat) (hi : i < bs.length) :
    Calls Tryz.prog 63 #[.pointer (some ⟨p, 0, none⟩), .pointer (some ⟨bs.getD i e, 0, none⟩)] w fun x w' => CEnd (evE D (fr (bs.getD i e))) x ∧ ∃ Fd' F' fr' ol' nw', PD w' p d m e N Fd' F' (evD D (fr (bs.getD i e))) (evB (evE D (fr (bs.getD i e))) bs i) fr' ol' nw' ∧ Step F F' w w' ∧ ∀ x ∈ evB (evE D (fr (bs.getD i e))) bs i, fr' x = fr x := by
  have hg : bs.getD i e ∈ bs := getD_mem hi
  have hg' : bs.getD i e ∈ e :: bs := List.mem_cons_of_mem _ hg
  obtain ⟨_, g1, _, _, _, _⟩ := (h.pool.node _ hg').at (h.pool.ok _ hg')
  have hnd := h.pool.apart.2.2.2.2.2
  have hcl := clean_any h hops hs _ hg
  have hlv : ∀ (w1 : World) (Fd1 F1 : Nat → Prop) (D1 : Dv) (fr1 : Nat → Fr), PD w1 p d m e N Fd1 F1 D1 bs fr1 ol nw → Calls Tryz.prog 56 #[.pointer (some ⟨p, 0, none⟩), .pointer (some ⟨bs.getD i e, 0, none⟩)] w1 fun x w' => x = .returned (.tuple #[]) ∧ (∃ ol' nw', PD w' p d m e N Fd1 F1 D1 (bs.eraseIdx i) fr1 ol' nw') ∧ Ch w1.heap.size F1 w1 w' := fun w1 Fd1 F1 D1 fr1 h1 => leave_any h1 i hi
  have hne := not_erase (e := e) hnd hi
  obtain ⟨g, hge⟩ : ∃ g, bs.getD i e = g := ⟨_, rfl⟩
  rw [hge] at hcl hlv g1 hne ⊢
  obtain ⟨f, hf⟩ : ∃ f, fr g = f := ⟨_, rfl⟩
  have Hcl : Hid (Calls Tryz.prog 59 #[.pointer (some ⟨p, 0, none⟩), .pointer (some ⟨g, 0, none⟩)] w fun x w' => CEnd (saysD D) x ∧ ∃ Fd' F', PD w' p d m e N Fd' F' (writeD D f.page f.b) bs (clF (saysD D) fr g) ol nw ∧ Step F F' w w') := by rw [← hf]; exact hcl
  have Hlv : Hid (∀ (w1 : World) (Fd1 F1 : Nat → Prop) (D1 : Dv) (fr1 : Nat → Fr), PD w1 p d m e N Fd1 F1 D1 bs fr1 ol nw → Calls Tryz.prog 56 #[.pointer (some ⟨p, 0, none⟩), .pointer (some ⟨g, 0, none⟩)] w1 fun x w' => x = .returned (.tuple #[]) ∧ (∃ ol' nw', PD w' p d m e N Fd1 F1 D1 (bs.eraseIdx i) fr1 ol' nw') ∧ Ch w1.heap.size F1 w1 w') := hlv
  have HP : Hid (PD w p d m e N Fd F D bs fr ol nw) := h
  have HF : Hid (fr g = f) := hf
  rw [hf] at g1 ⊢
  clear hcl hlv hf hge hg hg' h hnd hi
  cases hd : f.dirty with
  | true =>
    rw [hd] at g1
    have e1 : evE D f = saysD D := by simp [evE, hd]
    have e2 : evD D f = writeD D f.page f.b := by simp [evD, hd]
    rw [e1, e2]
    clear e1 e2 hd
    rcases saysD_cases D with s0 | s0
    · rw [s0]
      rw [s0] at Hcl
      go_enter Tryz.func63, Tryz.ntmps63
      go_wp2_with fail
      refine Hcl.out.mono ?_
      clear Hcl
      rintro x w1 ⟨hx, Fd', F', h1, h2⟩
      obtain rfl : x = .returned (.tuple #[]) := by
        rcases hx with hx | hx
        · exact hx.2
        · exact absurd rfl hx.1
      have hl1 := Hlv.out w1 Fd' F' _ _ h1
      have H1 : Hid (PD w1 p d m e N Fd' F' (writeD D f.page f.b) bs (clF 0 fr g) ol nw) := h1
      have H2 : Hid (Step F F' w w1) := h2
      clear h1 h2 hx Hlv
      go_wp2_with (go_at_call 56; refine hl1.mono ?_; rintro x w2 ⟨rfl, hp2, hc2⟩)
      go_end0
      obtain ⟨ol', nw', hp2⟩ := hp2
      refine ⟨.inl ⟨rfl, rfl⟩, Fd', F', clF 0 fr g, ol', nw', hp2, ⟨?_, H2.out.2⟩, fun x hx => ?_⟩
      · exact H2.out.1.trans (hc2.mono H2.out.1.size (fun k hk h3 => by
          rcases H2.out.2 k h3 with e3 | e3
          · exact e3
          · omega))
      · show upF fr g _ x = _
        have hxg : x ≠ g := fun e3 => hne (by rw [← e3]; exact hx)
        rw [upF_other _ _ hxg]
    · rw [s0]
      rw [s0] at Hcl
      go_enter Tryz.func63, Tryz.ntmps63
      go_wp2_with fail
      refine Hcl.out.mono ?_
      clear Hcl
      rintro x w1 ⟨hx, Fd', F', h1, h2⟩
      obtain rfl : x = thrown 7 := by
        rcases hx with hx | hx
        · exact absurd hx.1 (by decide)
        · exact hx.2
      have H1 : Hid (PD w1 p d m e N Fd' F' (writeD D f.page f.b) bs (clF 7 fr g) ol nw) := h1
      have H2 : Hid (Step F F' w w1) := h2
      clear h1 h2 hx Hlv
      unfold thrown
      go_wp2
      exact ⟨rfl, .inr ⟨by decide, rfl⟩, Fd', F', fr, ol, nw, H1.out, H2.out, fun _ _ => rfl⟩
  | false =>
    rw [hd] at g1
    have e1 : evE D f = 0 := by simp [evE, hd]
    have e2 : evD D f = D := by simp [evD, hd]
    rw [e1, e2]
    clear e1 e2 hd Hcl
    have hl1 := Hlv.out w Fd F _ _ HP.out
    clear Hlv
    go_enter Tryz.func63, Tryz.ntmps63
    go_wp2_with (go_at_call 56; refine hl1.mono ?_; rintro x w2 ⟨rfl, hp2, hc2⟩)
    go_end0
    obtain ⟨ol', nw', hp2⟩ := hp2
    exact ⟨.inl ⟨rfl, rfl⟩, Fd, F, fr, ol', nw', hp2, ⟨hc2, fun _ h => .inl h⟩, fun _ _ => rfl⟩
end
end Go.Proofs.YtojckbhbnalkeaaGreat.Oct
