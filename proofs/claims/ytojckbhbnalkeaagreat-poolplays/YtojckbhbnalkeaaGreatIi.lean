/-
  pool: a frame goes into the ring.
-/
import Derived.Test.YtojckbhbnalkeaaGreatIh
namespace Go.Proofs.YtojckbhbnalkeaaGreat.Oct
open Go.RowKit

theorem findP_perm {ps ps' : List (Nat × Nat)} (hn' : (ps'.map (·.1)).Nodup) (hp : ∀ x, x ∈ ps ↔ x ∈ ps') (k : Int) : findP ps' k = findP ps k := by
  cases h : findP ps k with
  | none =>
    have h1 := findP_none h
    cases h' : findP ps' k with
    | none => rfl
    | some g =>
      obtain ⟨pg, e1, h2⟩ := findP_some h'
      exact absurd e1.symm (h1 _ ((hp _).2 h2))
  | some g =>
    obtain ⟨pg, e1, h2⟩ := findP_some h
    rw [e1]
    exact findP_mem hn' ((hp _).1 h2)

theorem Held.perm {w : World} {m : Nat} {ps ps' : List (Nat × Nat)} (h : Held w m ps) (hp : ps.Perm ps') : Held w m ps' := by
  obtain ⟨h1, h1', D, h2, h3, h4, h5⟩ := h
  have hn' : (ps'.map (·.1)).Nodup := (hp.map _).nodup_iff.1 h1
  have hf := findP_perm hn' (fun x => hp.mem_iff)
  exact ⟨hn', fun x hx => h1' x (hp.mem_iff.2 hx), D, by rw [← hp.length_eq]; exact h2, fun k => by rw [hf]; exact h3 k, fun k => by rw [hf]; exact h4 k, by rw [← hp.length_eq]; exact h5⟩

theorem erase_perm {α : Type} (l : List α) (e : α) (i : Nat) (hi : i < l.length) : (l.eraseIdx i ++ [l.getD i e]).Perm l := by
  induction l generalizing i with
  | nil => simp at hi
  | cons a r ih =>
    cases i with
    | zero => exact List.perm_append_singleton a r
    | succ i => exact (ih i (by simpa using hi)).cons a

/-- Two links turn. -/
theorem node_two {w : World} {x : Nat} {f : Fr} {ol nw : Nat → Nat} (h : Node w x f (ol x) (nw x)) (k0 : f.ok) (a c y z : Nat) :
    Node ((w.setCell ⟨a, 260, none⟩ (.pointer (some ⟨y, 0, none⟩))).setCell ⟨c, 259, none⟩ (.pointer (some ⟨z, 0, none⟩))) x f (upF ol c z x) (upF nw a y x) := by
  have o1 : ∀ (W : World) (q i : Nat) (v : Value), x ≠ q → (W.setCell ⟨q, i, none⟩ v).heap[x]? = W.heap[x]? := fun W q i v hq => Below.heap_setCell W ⟨q, i, none⟩ v x hq
  have s1 : Node (w.setCell ⟨a, 260, none⟩ (.pointer (some ⟨y, 0, none⟩))) x f (ol x) (upF nw a y x) := by
    by_cases h1 : x = a
    · subst h1
      rw [upF_same]
      have := h.set 260 (.pointer (some ⟨y, 0, none⟩))
      rw [set_newer k0] at this
      exact this
    · rw [upF_other _ _ h1]
      exact h.keep (o1 _ _ _ _ h1)
  by_cases h2 : x = c
  · subst h2
    rw [upF_same]
    have := s1.set 259 (.pointer (some ⟨z, 0, none⟩))
    rw [set_older k0] at this
    exact this
  · rw [upF_other _ _ h2]
    exact s1.keep (o1 _ _ _ _ h2)

/-- A frame at the end of the ring. -/
theorem link_in {w w1 : World} {p d m e N np g : Nat} {bs : List Nat} {fr : Nat → Fr} {ol nw : Nat → Nat} {vo vn : Value}
    (hc : w.heap[p]? = some (.cells #[.pointer (some ⟨d, 0, none⟩), .int .i64 N, .map (some m), .pointer (some ⟨e, 0, none⟩)] 72 (0, 0)))
    (hh : Held w m (psOf (bs ++ [g]) fr)) (hn : ∀ x ∈ e :: bs, Node w x (fr x) (ol x) (nw x)) (hg : w.heap[g]? = some (.cells (frV (fr g) vo vn).toArray 69 (0, 0)))
    (hr : Ring e bs ol nw) (hok : ∀ x ∈ e :: (bs ++ [g]), (fr x).ok) (hpg : ∀ x ∈ bs ++ [g], (fr x).page < np) (hap : (p :: m :: e :: (bs ++ [g])).Nodup) (n8 : 8 ≤ N) (n4 : N ≤ 4096) (hlen : bs.length + 1 ≤ N) (np4 : np ≤ 4096)
    (hm : Mem ((((w.setCell ⟨g, 259, none⟩ (.pointer (some ⟨cyc e bs bs.length, 0, none⟩))).setCell ⟨g, 260, none⟩ (.pointer (some ⟨e, 0, none⟩))).setCell ⟨cyc e bs bs.length, 260, none⟩ (.pointer (some ⟨g, 0, none⟩))).setCell ⟨e, 259, none⟩ (.pointer (some ⟨g, 0, none⟩))) w1) :
    PoolC w1 p d m e N np (bs ++ [g]) fr (upF (upF ol g (cyc e bs bs.length)) e g) (upF (upF nw g e) (cyc e bs bs.length) g) := by
  have hap' := hap
  simp only [List.nodup_cons, List.mem_cons, List.mem_append, List.not_mem_nil, or_false, not_or, List.nodup_append] at hap'
  obtain ⟨⟨a1, a2, a3, a4⟩, ⟨b1, b2, b3⟩, ⟨c1, c2⟩, d1, d2, d3⟩ := hap'
  have hge : g ∉ e :: bs := by
    intro e1
    rcases List.mem_cons.1 e1 with e1 | e1
    · exact c2 e1.symm
    · exact d3 g e1 g rfl rfl
  have hne : (e :: bs).Nodup := by simp [c1, d1]
  have ha := cyc_mem e bs bs.length
  have hpa : ∀ k, k ∉ e :: bs → k ≠ g → w1.heap[k]? = w.heap[k]? := fun k hk hkg => by
    rw [hm.heap, Below.heap_setCell _ ⟨e, 259, none⟩ _ k (fun e1 => hk (by rw [e1]; simp)), Below.heap_setCell _ ⟨cyc e bs bs.length, 260, none⟩ _ k (fun e1 => hk (e1 ▸ ha)), Below.heap_setCell _ ⟨g, 260, none⟩ _ k hkg, Below.heap_setCell _ ⟨g, 259, none⟩ _ k hkg]
  have hg0 : Node ((w.setCell ⟨g, 259, none⟩ (.pointer (some ⟨cyc e bs bs.length, 0, none⟩))).setCell ⟨g, 260, none⟩ (.pointer (some ⟨e, 0, none⟩))) g (fr g) (cyc e bs bs.length) e := by
    unfold Node
    have s1 := setCell_heap w g 259 (.pointer (some ⟨cyc e bs bs.length, 0, none⟩)) _ _ _ hg
    rw [setCell_heap _ g 260 (.pointer (some ⟨e, 0, none⟩)) _ _ _ s1]
    have := frV_set (hok g (by simp)) vo vn (.pointer (some ⟨cyc e bs bs.length, 0, none⟩)) (.pointer (some ⟨e, 0, none⟩))
    rw [frV_frC] at this
    rw [← this]
    simp
  refine ⟨?_, ?_, fun x hx => ?_, hr.snoc hne g hge, hok, hpg, hap, n8, n4, by simpa using hlen, np4⟩
  · rw [hpa p (by simp; exact ⟨a2, a3⟩) a4]; exact hc
  · exact hh.keep (hpa m (by simp; exact ⟨b1, b2⟩) b3)
  · refine Node.keep ?_ (hm.heap x)
    refine node_two (ol := upF ol g (cyc e bs bs.length)) (nw := upF nw g e) ?_ (hok x hx) _ _ _ _
    by_cases hxg : x = g
    · subst hxg
      rw [upF_same, upF_same]
      exact hg0
    · have hx' : x ∈ e :: bs := by
        simp only [List.mem_cons, List.mem_append, List.not_mem_nil, or_false] at hx ⊢
        rcases hx with hx | hx | hx
        · exact .inl hx
        · exact .inr hx
        · exact absurd hx hxg
      rw [upF_other _ _ hxg, upF_other _ _ hxg]
      exact (hn x hx').keep (by rw [Below.heap_setCell _ ⟨g, 260, none⟩ _ x hxg, Below.heap_setCell _ ⟨g, 259, none⟩ _ x hxg])

section
variable {w : World} {p d m e N : Nat} {Fd F : Nat → Prop} {D : Dv} {bs : List Nat} {fr : Nat → Fr} {ol nw : Nat → Nat}

/-- What link asks of its world. -/
def LinkAsk (w : World) (g e a : Nat) : Prop :=
  w.cell? ⟨e, 259, none⟩ = some (.pointer (some ⟨a, 0, none⟩)) ∧ (∃ v, w.cell? ⟨g, 259, none⟩ = some v) ∧ (∃ v, w.cell? ⟨g, 260, none⟩ = some v) ∧ (∃ v, w.cell? ⟨a, 260, none⟩ = some v) ∧ w.frozen? ⟨a, 260, none⟩ = false ∧ w.frozen? ⟨e, 259, none⟩ = false ∧ w.frozen? ⟨g, 259, none⟩ = false ∧ w.frozen? ⟨g, 260, none⟩ = false ∧ ¬ a = g ∧ ¬ e = g

/-- What link leaves. -/
def LinkW (w : World) (g e a : Nat) : World := (((w.setCell ⟨g, 259, none⟩ (.pointer (some ⟨a, 0, none⟩))).setCell ⟨g, 260, none⟩ (.pointer (some ⟨e, 0, none⟩))).setCell ⟨a, 260, none⟩ (.pointer (some ⟨g, 0, none⟩))).setCell ⟨e, 259, none⟩ (.pointer (some ⟨g, 0, none⟩))

theorem link_ask {g e a : Nat} (h : LinkAsk w g e a) : Calls Tryz.prog 78 #[.pointer (some ⟨g, 0, none⟩), .pointer (some ⟨e, 0, none⟩)] w fun x w' => x = .returned (.tuple #[]) ∧ Mem (LinkW w g e a) w' := by
  obtain ⟨h0, ⟨v1, h1⟩, ⟨v2, h2⟩, ⟨va, h3⟩, z1, z2, z3, z4, n1, n2⟩ := h
  exact link_any w g e a v1 v2 va h0 h1 h2 h3 z1 z2 z3 z4 n1 n2

theorem ask_of {g : Nat} {f : Fr} {vo vn : Value} (hn : ∀ x ∈ e :: bs, Node w x (fr x) (ol x) (nw x)) (hok : ∀ x ∈ e :: bs, (fr x).ok) (hr : Ring e bs ol nw) (hg : w.heap[g]? = some (.cells (frV f vo vn).toArray 69 (0, 0))) (hf : f.ok) (hge : g ∉ e :: bs) : LinkAsk w g e (cyc e bs bs.length) := by
  have ha := cyc_mem e bs bs.length
  have hoe : ol e = cyc e bs bs.length := by
    have := (hr bs.length (Nat.le_refl _)).2
    rwa [cyc_end] at this
  obtain ⟨_, _, _, e3, _, ez⟩ := (hn e (by simp)).at (hok e (by simp))
  obtain ⟨_, _, _, _, a4, az⟩ := (hn _ ha).at (hok _ ha)
  obtain ⟨v1, v2⟩ := frV_at hf vo vn
  rw [hoe] at e3
  have gz : ∀ i, w.frozen? ⟨g, i, none⟩ = false := fun i => by
    unfold World.frozen?
    rw [hg]
    simp
  refine ⟨e3, ⟨vo, ?_⟩, ⟨vn, ?_⟩, ⟨_, a4⟩, az _, ez _, gz _, gz _, fun e1 => hge (e1 ▸ ha), fun e1 => hge (by rw [← e1]; simp)⟩
  · rw [cell_of_row w g _ _ _ (0, 0) hg]; simpa using v1
  · rw [cell_of_row w g _ _ _ (0, 0) hg]; simpa using v2

theorem linkW_ch {g a : Nat} {G : Nat → Prop} {w0 : World} {B : Nat} (h : Ch B G w0 w) (hg : B ≤ g ∨ G g) (ha : B ≤ a ∨ G a) (he : B ≤ e ∨ G e) : Ch B G w0 (LinkW w g e a) :=
  (((h.setCell (p := ⟨g, 259, none⟩) hg _).setCell (p := ⟨g, 260, none⟩) hg _).setCell (p := ⟨a, 260, none⟩) ha _).setCell (p := ⟨e, 259, none⟩) he _

theorem linkW_heap {g a k : Nat} (h1 : k ≠ g) (h2 : k ≠ a) (h3 : k ≠ e) : (LinkW w g e a).heap[k]? = w.heap[k]? := by
  unfold LinkW
  rw [Below.heap_setCell _ ⟨e, 259, none⟩ _ k h3, Below.heap_setCell _ ⟨a, 260, none⟩ _ k h2, Below.heap_setCell _ ⟨g, 260, none⟩ _ k h1, Below.heap_setCell _ ⟨g, 259, none⟩ _ k h1]

/-- A frame of the ring is used: behind unlink, and behind link. -/
theorem PD.relink (h : PD w p d m e N Fd F D bs fr ol nw) {i : Nat} (hi : i < bs.length) {w1 : World}
    (hm : Mem ((w.setCell ⟨cyc e bs i, 260, none⟩ (.pointer (some ⟨cyc e bs (i + 2), 0, none⟩))).setCell ⟨cyc e bs (i + 2), 259, none⟩ (.pointer (some ⟨cyc e bs i, 0, none⟩))) w1) :
    LinkAsk w1 (bs.getD i e) e (cyc e (bs.eraseIdx i) (bs.eraseIdx i).length) ∧ w1.cell? ⟨p, 3, none⟩ = some (.pointer (some ⟨e, 0, none⟩)) ∧
    ∀ w2, Mem (LinkW w1 (bs.getD i e) e (cyc e (bs.eraseIdx i) (bs.eraseIdx i).length)) w2 → (∃ ol' nw', PD w2 p d m e N Fd F D (bs.eraseIdx i ++ [bs.getD i e]) fr ol' nw') ∧ Ch w.heap.size F w w2 := by
  obtain ⟨a1, a2, a3, a4, a5, a6⟩ := h.pool.apart
  have hF := h.flt
  have ha := cyc_mem e bs i
  have hc := cyc_mem e bs (i + 2)
  have hg : bs.getD i e ∈ bs := getD_mem hi
  have hg' : bs.getD i e ∈ e :: bs := List.mem_cons_of_mem _ hg
  have hge : bs.getD i e ∉ e :: bs.eraseIdx i := by
    intro e1
    rcases List.mem_cons.1 e1 with e1 | e1
    · exact a5 (e1 ▸ hg)
    · exact not_erase a6 hi e1
  have hl : (bs.eraseIdx i).length = bs.length - 1 := List.length_eraseIdx_of_lt hi
  have hperm : (bs.eraseIdx i ++ [bs.getD i e]).Perm bs := by
    exact erase_perm bs e i hi
  have hsub : ∀ x, x ∈ e :: bs.eraseIdx i → x ∈ e :: bs := fun x hx => by
    rcases List.mem_cons.1 hx with hx | hx
    · simp [hx]
    · exact List.mem_cons_of_mem _ (erase_mem hx)
  have hring := h.pool.ring.out a4 i hi
  have hnode : ∀ x ∈ e :: bs, Node w1 x (fr x) (upF ol (cyc e bs (i + 2)) (cyc e bs i) x) (upF nw (cyc e bs i) (cyc e bs (i + 2)) x) := fun x hx => (nodes_out h.pool.node h.pool.ok _ _ x hx).keep (hm.heap x)
  have k1 : ∀ k, k ∉ e :: bs → w1.heap[k]? = w.heap[k]? := fun k hk => by
    rw [hm.heap, Below.heap_setCell _ ⟨cyc e bs (i + 2), 259, none⟩ _ k (fun e1 => hk (e1 ▸ hc)), Below.heap_setCell _ ⟨cyc e bs i, 260, none⟩ _ k (fun e1 => hk (e1 ▸ ha))]
  have hask : LinkAsk w1 (bs.getD i e) e (cyc e (bs.eraseIdx i) (bs.eraseIdx i).length) :=
    ask_of (f := fr (bs.getD i e)) (fun x hx => hnode x (hsub x hx)) (fun x hx => h.pool.ok x (hsub x hx)) hring (hnode _ hg') (h.pool.ok _ hg') hge
  have c1 : Ch w.heap.size F w w1 := by
    refine Ch.trans ?_ (hm.ch _ _)
    exact ((Ch.refl w.heap.size F w).setCell (p := ⟨cyc e bs i, 260, none⟩) (.inr (h.fp _ (.inr (.inr ha)))) _).setCell (p := ⟨cyc e bs (i + 2), 259, none⟩) (.inr (h.fp _ (.inr (.inr hc)))) _
  have hca := hsub _ (cyc_mem e (bs.eraseIdx i) (bs.eraseIdx i).length)
  refine ⟨hask, ?_, fun w2 hm2 => ?_⟩
  · obtain ⟨_, _, _, c3⟩ := h.pool.at
    rw [← c3]
    exact World.cell?_of_block (a := ⟨p, 3, none⟩) (k1 p a2)
  have hpool := link_in (np := D.n) (vo := _) (vn := _) ((k1 p a2).trans h.pool.cells) (((h.pool.held.keep (k1 m a3)).perm (hperm.symm.map _))) (fun x hx => hnode x (hsub x hx)) (hnode _ hg') hring (fun x hx => by
      refine h.pool.ok x ?_
      rcases List.mem_cons.1 hx with hx | hx
      · simp [hx]
      · exact List.mem_cons_of_mem _ (hperm.mem_iff.1 hx)) (fun x hx => h.pool.pg x (hperm.mem_iff.1 hx)) (List.Perm.nodup_iff (((hperm.cons e).cons m).cons p) |>.2 h.pool.ap) h.pool.n8 h.pool.n4 (by have := h.pool.len; omega) h.pool.np4 hm2
  have hsz : w2.heap.size = w1.heap.size := by
    rw [hm2.1]; simp [LinkW]
  refine ⟨⟨_, _, ⟨?_, hpool, fun k hk => ?_, fun k hk => ?_, fun k hk => ?_⟩⟩, ?_⟩
  · have k2 : ∀ k, k ∉ e :: bs → w2.heap[k]? = w1.heap[k]? := fun k hk => by
      rw [hm2.heap]
      exact linkW_heap (fun e1 => hk (by rw [e1]; exact hg')) (fun e1 => hk (by rw [e1]; exact hca)) (fun e1 => hk (by rw [e1]; simp))
    refine h.dev.keep (by rw [hsz]; exact c1.size) (fun k hk => ?_)
    have hk2 : k ∉ e :: bs := fun e1 => (h.fd k hk).2 (.inr (.inr e1))
    exact (k2 k hk2).trans (k1 k hk2)
  · refine ⟨(h.fd k hk).1, fun e1 => (h.fd k hk).2 ?_⟩
    rcases e1 with e1 | e1 | e1
    · exact .inl e1
    · exact .inr (.inl e1)
    · exact .inr (.inr ((hperm.cons e).mem_iff.1 e1))
  · refine h.fp k ?_
    rcases hk with e1 | e1 | e1
    · exact .inl e1
    · exact .inr (.inl e1)
    · exact .inr (.inr ((hperm.cons e).mem_iff.1 e1))
  · rw [hsz]
    exact Nat.lt_of_lt_of_le (hF k hk) c1.size
  · exact (linkW_ch c1 (.inr (h.fp _ (.inr (.inr hg')))) (.inr (h.fp _ (.inr (.inr hca)))) (.inr (h.fp _ (.inr (.inr (by simp)))))).trans (hm2.ch _ _)

/-- A new frame goes into the ring: w1 has it, and the map too. -/
theorem PD.newlink (h : PD w p d m e N Fd F D bs fr ol nw) {w1 : World} (g : Nat) (f : Fr) (hf : f.ok) (hpg : f.page < D.n) (hl : bs.length < N) (hgn : w.heap.size ≤ g) (hg : w1.heap[g]? = some (.cells (frV f (.pointer none) (.pointer none)).toArray 69 (0, 0)))
    (hh : Held w1 m (psOf bs fr ++ [(f.page, g)])) (hk : ∀ k, k ≠ m → k < w.heap.size → w1.heap[k]? = w.heap[k]?) (hc : Ch w.heap.size F w w1) :
    LinkAsk w1 g e (cyc e bs bs.length) ∧ w1.cell? ⟨p, 3, none⟩ = some (.pointer (some ⟨e, 0, none⟩)) ∧
    ∀ w2, Mem (LinkW w1 g e (cyc e bs bs.length)) w2 → (∃ ol' nw', PD w2 p d m e N Fd (fun k => F k ∨ k = g) D (bs ++ [g]) (upF fr g f) ol' nw') ∧ Ch w.heap.size F w w2 := by
  obtain ⟨a1, a2, a3, a4, a5, a6⟩ := h.pool.apart
  have hF := h.flt
  have hlt := h.pool.lt
  have hgl : g < w1.heap.size := heap_lt hg
  have hge : g ∉ e :: bs := fun e1 => by have := hlt g (.inr (.inr e1)); omega
  have hgp : p ≠ g := fun e1 => by have := hlt p (.inl rfl); omega
  have hgm : m ≠ g := fun e1 => by have := hlt m (.inr (.inl rfl)); omega
  have hxg : ∀ x, x ∈ e :: bs → x ≠ g := fun x hx e1 => hge (e1 ▸ hx)
  have hnode : ∀ x ∈ e :: bs, Node w1 x (upF fr g f x) (ol x) (nw x) := fun x hx => by
    rw [upF_other _ _ (hxg x hx)]
    exact (h.pool.node x hx).keep (hk x (fun e1 => a3 (e1 ▸ hx)) (hlt x (.inr (.inr hx))))
  have hok : ∀ x ∈ e :: bs, (upF fr g f x).ok := fun x hx => by rw [upF_other _ _ (hxg x hx)]; exact h.pool.ok x hx
  have hask : LinkAsk w1 g e (cyc e bs bs.length) := ask_of hnode hok h.pool.ring hg hf hge
  have hca := cyc_mem e bs bs.length
  refine ⟨hask, ?_, fun w2 hm2 => ?_⟩
  · obtain ⟨_, _, _, c3⟩ := h.pool.at
    rw [← c3]
    exact World.cell?_of_block (a := ⟨p, 3, none⟩) (hk p a1 (hlt p (.inl rfl)))
  have hps : psOf (bs ++ [g]) (upF fr g f) = psOf bs fr ++ [(f.page, g)] := by
    unfold psOf
    rw [List.map_append]
    congr 1
    · exact List.map_congr_left (fun x hx => by rw [upF_other _ _ (hxg x (List.mem_cons_of_mem _ hx))])
    · simp [upF_same]
  have hpool := link_in (w := w1) (d := d) (N := N) (np := D.n) (fr := upF fr g f) (vo := .pointer none) (vn := .pointer none) ((hk p a1 (hlt p (.inl rfl))).trans h.pool.cells) (by rw [hps]; exact hh) hnode (by rw [upF_same]; exact hg) h.pool.ring (fun x hx => by
      by_cases e1 : x = g
      · subst e1; rw [upF_same]; exact hf
      · refine hok x ?_
        simp only [List.mem_cons, List.mem_append, List.not_mem_nil, or_false] at hx ⊢
        rcases hx with hx | hx | hx
        · exact .inl hx
        · exact .inr hx
        · exact absurd hx e1) (fun x hx => by
      by_cases e1 : x = g
      · subst e1; rw [upF_same]; exact hpg
      · rw [upF_other _ _ e1]
        refine h.pool.pg x ?_
        simp only [List.mem_append, List.mem_cons, List.not_mem_nil, or_false] at hx
        rcases hx with hx | hx
        · exact hx
        · exact absurd hx e1) (by
      have := h.pool.ap
      have e1 : (p :: m :: e :: (bs ++ [g])).Perm (g :: p :: m :: e :: bs) := (List.perm_append_singleton g (p :: m :: e :: bs))
      rw [e1.nodup_iff, List.nodup_cons]
      refine ⟨?_, this⟩
      simp only [List.mem_cons, not_or]
      simp only [List.mem_cons, not_or] at hge
      exact ⟨fun e2 => hgp e2.symm, fun e2 => hgm e2.symm, hge.1, hge.2⟩) h.pool.n8 h.pool.n4 (by omega) h.pool.np4 hm2
  have hsz : w2.heap.size = w1.heap.size := by
    rw [hm2.1]; simp [LinkW]
  refine ⟨⟨_, _, ⟨?_, hpool, fun k hk' => ?_, fun k hk' => ?_, fun k hk' => ?_⟩⟩, ?_⟩
  · refine h.dev.keep (by rw [hsz]; exact hc.size) (fun k hk' => ?_)
    have hk2 : k ∉ e :: bs := fun e1 => (h.fd k hk').2 (.inr (.inr e1))
    have hkl := hF k (h.fd k hk').1
    rw [hm2.heap, linkW_heap (fun e1 => by omega) (fun e1 => hk2 (by rw [e1]; exact hca)) (fun e1 => hk2 (by rw [e1]; simp))]
    exact hk k (fun e1 => (h.fd k hk').2 (.inr (.inl e1))) hkl
  · have hkl := hF k (h.fd k hk').1
    refine ⟨.inl (h.fd k hk').1, fun e1 => (h.fd k hk').2 ?_⟩
    rcases e1 with e1 | e1 | e1
    · exact .inl e1
    · exact .inr (.inl e1)
    · simp only [List.mem_cons, List.mem_append, List.not_mem_nil, or_false] at e1
      rcases e1 with e1 | e1 | e1
      · exact .inr (.inr (by simp [e1]))
      · exact .inr (.inr (List.mem_cons_of_mem _ e1))
      · omega
  · rcases hk' with e1 | e1 | e1
    · exact .inl (h.fp k (.inl e1))
    · exact .inl (h.fp k (.inr (.inl e1)))
    · simp only [List.mem_cons, List.mem_append, List.not_mem_nil, or_false] at e1
      rcases e1 with e1 | e1 | e1
      · exact .inl (h.fp k (.inr (.inr (by simp [e1]))))
      · exact .inl (h.fp k (.inr (.inr (List.mem_cons_of_mem _ e1))))
      · exact .inr e1
  · rw [hsz]
    rcases hk' with e1 | e1
    · exact Nat.lt_of_lt_of_le (hF k e1) hc.size
    · rw [e1]; exact hgl
  · exact (linkW_ch hc (.inl hgn) (.inr (h.fp _ (.inr (.inr hca)))) (.inr (h.fp _ (.inr (.inr (by simp)))))).trans (hm2.ch _ _)
end
end Go.Proofs.YtojckbhbnalkeaaGreat.Oct

/-
  pool: a page's first bytes: unread, read.
-/
namespace Go.Proofs.YtojckbhbnalkeaaGreat.Oct
open Go.RowKit
attribute [local go_sem ↓] loadA_eq allocA_eq storeA_eq buildA_eq

theorem heap_setCells (b : Nat) (t : TypeId) (fr : Nat × Nat) : ∀ (vs : List Value) (o : Nat) (w : World) (cur : Array Value), w.heap[b]? = some (.cells cur t fr) → o + vs.length ≤ cur.size →
    (w.setCells b o vs).heap[b]? = some (.cells (cur.toList.take o ++ vs ++ cur.toList.drop (o + vs.length)).toArray t fr)
  | [], o, w, cur, h, _ => by simp [World.setCells, h]
  | v :: r, o, w, cur, h, hl => by
    simp only [List.length_cons] at hl
    have h1 := setCell_heap w b o v cur t fr h
    have := heap_setCells b t fr r (o + 1) _ _ h1 (by simp; omega)
    rw [World.setCells, this]
    have hl2 : cur.toList.length = cur.size := by simp
    simp only [Array.toList_setIfInBounds, List.length_cons]
    rw [List.take_add_one, List.take_set_of_le (by omega), List.getElem?_set_self (by omega), List.drop_set_of_lt (by omega)]
    simp [Nat.add_assoc, Nat.add_comm 1]

theorem setCells_other (b : Nat) : ∀ (vs : List Value) (o : Nat) (w : World) (k : Nat), k ≠ b → (w.setCells b o vs).heap[k]? = w.heap[k]?
  | [], _, _, _, _ => rfl
  | v :: r, o, w, k, hk => by
    rw [World.setCells, setCells_other b r (o + 1) _ k hk]
    exact Below.heap_setCell w ⟨b, o, none⟩ v k hk

theorem setCells_ch {B : Nat} {G : Nat → Prop} (b : Nat) : ∀ (vs : List Value) (o : Nat) (w0 w : World), Ch B G w0 w → (B ≤ b ∨ G b) → Ch B G w0 (w.setCells b o vs)
  | [], _, _, _, h, _ => h
  | v :: r, o, w0, _, h, hb => setCells_ch b r (o + 1) w0 _ (h.setCell (p := ⟨b, o, none⟩) hb v) hb

theorem setCells_size (b : Nat) : ∀ (vs : List Value) (o : Nat) (w : World), (w.setCells b o vs).heap.size = w.heap.size
  | [], _, _ => rfl
  | v :: r, o, w => by rw [World.setCells, setCells_size b r (o + 1)]; exact size_setCell _ _ _

/-- A page's bytes are stored into the midst of a row. -/
theorem store_mid (w : World) (b o : Nat) (cur : Array Value) (t : TypeId) (cs : List Value) (h : w.heap[b]? = some (.cells cur t (0, 0))) (hl : cs.length = 256) (ho : o + 256 ≤ cur.size) (h1 : ∀ v ∈ cs, v.oneCell' = true) :
    (StoreA (.pointer (some ⟨b, o, none⟩)) (.agg cs.toArray)).run Tryz.prog w = .ok () (w.setCells b o cs) := by
  have := run_storeAt_mid (P := Tryz.prog) w b o 67 cs.toArray (fun j hj => by
    simp [hl] at hj
    refine ⟨?_, ?_⟩
    · rw [cell_of_row w b _ _ _ (0, 0) h]
      simp
      omega
    · unfold World.frozen?
      rw [h]
      simp) (by rw [size62]; simp [hl]) (all_oneCell_toArray h1)
  simpa [StoreA] using this

theorem zeA_list : zeA.toList = List.replicate 256 (Value.int .u8 0) := rfl
theorem zeA_cells : zeA = ((List.replicate 256 (0 : Int)).map (Value.int .u8)).toArray := by unfold zeA; rw [List.map_replicate]

set_option maxHeartbeats 1000000 in
theorem unread_any (w : World) (pg : Int) : Calls Tryz.prog 55 #[.int .i64 pg] w fun x w' => x = .returned (.agg zeA) ∧ Below w.heap.size w w' := by
  have rA := alloc_a w
  have rB := build_a (w.alloc (.cells zeA 67))
  have rS : (StoreA (.pointer (some ⟨w.heap.size, 0, none⟩)) (.agg zeA)).run Tryz.prog (w.alloc (.cells zeA 67)) = .ok () (w.alloc (.cells zeA 67)) :=
    store_a w zeA (List.replicate 256 (Value.int .u8 0)) zeA_size List.length_replicate (fun v hv => by rw [(List.mem_replicate.1 hv).2]; rfl)
  have hz := zeA_size
  obtain ⟨Z, hZ⟩ : ∃ Z, zeA = Z := ⟨_, rfl⟩
  rw [hZ] at rA rB rS hz ⊢
  clear hZ
  go_enter Tryz.func55, Tryz.ntmps55
  go_wp2
  refine bodyPost_ret (results_cell_row rfl _ _ w.heap.size _ Z (0, 0) _ rfl (heap_alloc_new w _) Tryz.underlying67 rfl (by rw [size62, hz])) rfl ?_
  exact ⟨rfl, (Below.refl _ _).alloc (Nat.le_refl _) _⟩

theorem readD_n (D : Dv) : (readD D).n = D.n := by
  unfold readD
  split
  · rfl
  · split <;> rfl

/-- What the pool's read ends in. -/
def PrEnd (D : Dv) (pg : Nat) (x : Ending) : Prop := (tellsD D = true ∧ x = .returned (.agg ((pageOf D.now pg).map (Value.int .u8)).toArray)) ∨ (tellsD D = false ∧ x = thrown 7)

theorem pgLen {D : Dv} (h : D.ok) {pg : Nat} (hp : pg < D.n) : (pageOf D.now pg).length = 256 := by
  have := h.now
  simp [pageOf]
  omega
theorem pgBys {D : Dv} (h : D.ok) (pg : Nat) : Bys (pageOf D.now pg) := fun z hz => h.bnow z (List.mem_of_mem_drop (List.mem_of_mem_take hz))

section
variable {w : World} {p d m e N : Nat} {Fd F : Nat → Prop} {D : Dv} {bs : List Nat} {fr : Nat → Fr} {ol nw : Nat → Nat}

set_option maxHeartbeats 2000000 in
theorem pread_any (h : PD w p d m e N Fd F D bs fr ol nw) (hops : D.ops ≤ 4611686018427387904) (pg : Nat) (hpg : pg < D.n) :
    Calls Tryz.prog 45 #[.pointer (some ⟨p, 0, none⟩), .int .i64 pg] w fun x w' => PrEnd D pg x ∧ PD w' p d m e N Fd F (readD D) bs fr ol nw ∧ Ch w.heap.size F w w' := by
  have rA := alloc_a w
  have hb0 : Below w.heap.size w (w.alloc (.cells zeA 67)) := (Below.refl _ w).alloc (Nat.le_refl _) _
  have h0 := h.below hb0
  obtain ⟨c0, c1, c2, c3⟩ := h0.pool.at
  have hrd := read_any h0.dev hops pg hpg
  have hpl := pgLen h.dev.1 hpg
  have hpb := pgBys h.dev.1 pg
  have hck := check_ok
  have hcn := check_no 7 (by decide)
  have hend : ∀ w1, Dev w1 d Fd (readD D) → Ch (w.alloc (.cells zeA 67)).heap.size Fd (w.alloc (.cells zeA 67)) w1 → PD w1 p d m e N Fd F (readD D) bs fr ol nw ∧ Ch w.heap.size F w w1 ∧ w1.heap[w.heap.size]? = some (.cells zeA 67 (0, 0)) := fun w1 h1 h2 => by
    refine ⟨⟨h1, ?_, h0.fd, h0.fp, fun k hk => Nat.lt_of_lt_of_le (h0.flt k hk) h2.size⟩, (Ch.of F hb0).trans (h2.mono (by simp) (fun k _ hk => (h0.fd k hk).1)), ?_⟩
    · rw [readD_n]
      exact h0.pool.keep (fun g hg => h2.block g (h0.flt g (h0.fp g hg)) (fun e1 => (h0.fd g e1).2 hg))
    · rw [h2.block w.heap.size (by simp) (fun e1 => by have := h.flt _ (h.fd _ e1).1; omega)]
      exact heap_alloc_new w _
  have HE : Hid (∀ w1, Dev w1 d Fd (readD D) → Ch (w.alloc (.cells zeA 67)).heap.size Fd (w.alloc (.cells zeA 67)) w1 → PD w1 p d m e N Fd F (readD D) bs fr ol nw ∧ Ch w.heap.size F w w1 ∧ w1.heap[w.heap.size]? = some (.cells zeA 67 (0, 0))) := hend
  have hz := zeA_size
  have HF : Hid (∀ k, F k → k < w.heap.size) := h.flt
  clear h h0 hend hb0 c1 c2 c3
  obtain ⟨Z, hZ⟩ : ∃ Z, zeA = Z := ⟨_, rfl⟩
  rw [hZ] at rA hz HE hrd c0
  clear hZ
  cases ht : tellsD D with
  | true =>
    go_enter Tryz.func45, Tryz.ntmps45
    go_wp2_with fail
    refine hrd.mono ?_
    clear hrd
    rintro x w1 ⟨hx, h1, h2⟩
    unfold ReadEnd at hx
    rw [if_pos ht] at hx
    obtain ⟨g, c, rfl, hown⟩ := hx
    obtain ⟨e1, e2, e3⟩ := HE.out w1 h1 h2
    have hrow := (hown.row' hpb).2
    obtain ⟨zs, hzs⟩ : ∃ zs, pageOf D.now pg = zs := ⟨_, rfl⟩
    rw [hzs] at hrow hpl
    have rL := load_a w1 g 0 (zs.map (Value.int .u8)) (by simp [hpl]) (row_range hrow)
    have rT : (Instr.arrayAt 67 (.slice (some ⟨g, 0, none⟩) 256 c)).run Tryz.prog w1 = .ok (.pointer (some ⟨g, 0, none⟩)) w1 := by simp [Instr.arrayAt, run_underlying Tryz.underlying67]
    have rS := store_mid w1 w.heap.size 0 Z 67 (zs.map (Value.int .u8)) e3 (by simp [hpl]) (by omega) (one_cells zs)
    have hres := heap_setCells w.heap.size 67 (0, 0) (zs.map (Value.int .u8)) 0 w1 Z e3 (by simp [hpl, hz])
    rw [show Z.toList.take 0 ++ zs.map (Value.int .u8) ++ Z.toList.drop (0 + (zs.map (Value.int .u8)).length) = zs.map (Value.int .u8) by
      rw [List.drop_eq_nil_of_le (by simp [hz, hpl])]; simp] at hres
    have H1 : Hid (PD (w1.setCells w.heap.size 0 (zs.map (Value.int .u8))) p d m e N Fd F (readD D) bs fr ol nw) := e1.keep (Nat.le_of_eq (setCells_size ..).symm) (fun k hk => setCells_other _ _ _ _ _ (fun e4 => by have := HF.out k hk; omega))
    have H2 : Hid (Ch w.heap.size F w (w1.setCells w.heap.size 0 (zs.map (Value.int .u8)))) := setCells_ch _ _ _ _ _ e2 (.inl (Nat.le_refl _))
    have HP : Hid (PrEnd D pg (.returned (.agg (zs.map (Value.int .u8)).toArray))) := .inl ⟨ht, by rw [hzs]⟩
    obtain ⟨w2, hw2⟩ : ∃ w2, w1.setCells w.heap.size 0 (zs.map (Value.int .u8)) = w2 := ⟨_, rfl⟩
    rw [hw2] at rS hres H1 H2
    have hcz : (zs.map (Value.int .u8)).toArray.size = 256 := by simp [hpl]
    obtain ⟨cs, hcs⟩ : ∃ cs, (zs.map (Value.int .u8)).toArray = cs := ⟨_, rfl⟩
    rw [hcs] at rL rS hres HP hcz
    clear hw2 hcs hzs hrow hown h1 h2 e1 e2 e3 HE hpl hpb
    go_wp2_with (go_at_call 79; refine (hck _).mono ?_; rintro x w3 ⟨rfl, rfl⟩)
    refine bodyPost_ret (results_cell_row rfl _ _ w.heap.size _ cs (0, 0) _ rfl hres Tryz.underlying67 rfl (by rw [size62, hcz])) rfl ?_
    exact ⟨HP.out, H1.out, H2.out⟩
  | false =>
    go_enter Tryz.func45, Tryz.ntmps45
    go_wp2_with fail
    refine hrd.mono ?_
    clear hrd
    rintro x w1 ⟨hx, h1, h2⟩
    unfold ReadEnd at hx
    rw [if_neg (by rw [ht]; simp)] at hx
    obtain rfl := hx
    obtain ⟨e1, e2, _⟩ := HE.out w1 h1 h2
    have H1 : Hid (PD w1 p d m e N Fd F (readD D) bs fr ol nw) := e1
    have H2 : Hid (Ch w.heap.size F w w1) := e2
    clear h1 h2 e1 e2 HE
    go_wp2_with (go_at_call 79; refine (hcn _).mono ?_; rintro x w3 ⟨rfl, rfl⟩; unfold thrown)
    exact ⟨rfl, .inr ⟨ht, rfl⟩, H1.out, H2.out⟩
end
end Go.Proofs.YtojckbhbnalkeaaGreat.Oct
