/-
  pool: use.
-/
import Derived.Test.YtojckbhbnalkeaaGreatIi
namespace Go.Proofs.YtojckbhbnalkeaaGreat.Oct
open Go.RowKit
attribute [local go_sem ↓] buildF_eq boxF_eq

def fiP (L : List Fr) (pg : Int) : Nat := L.findIdx (fun f => decide ((f.page : Int) = pg))
def tkL (D : Dv) (N : Nat) (L : List Fr) : List Fr := if L.length < N then L else if nuP L 0 < L.length then (if evE D (L.getD (nuP L 0) fr0) = 0 then L.eraseIdx (nuP L 0) else L) else L
def usE (D : Dv) (N : Nat) (L : List Fr) (pg : Nat) (rd : Bool) : Int := if fiP L pg < L.length then 0 else if tkE D N L = 0 then (if rd = true ∧ tellsD (tkD D N L) = false then 7 else 0) else tkE D N L
def usD (D : Dv) (N : Nat) (L : List Fr) (pg : Nat) (rd : Bool) : Dv := if fiP L pg < L.length then D else if tkE D N L = 0 then (if rd = true then readD (tkD D N L) else tkD D N L) else tkD D N L
/-- A page's first bytes. -/
def fst0 (D : Dv) (pg : Nat) (rd : Bool) : List Int := if rd = true then pageOf D.now pg else List.replicate 256 0
def usL (D : Dv) (N : Nat) (L : List Fr) (pg : Nat) (rd : Bool) : List Fr :=
  if fiP L pg < L.length then L.eraseIdx (fiP L pg) ++ [L.getD (fiP L pg) fr0] else if usE D N L pg rd = 0 then tkL D N L ++ [⟨pg, fst0 (tkD D N L) pg rd, false, 0⟩] else tkL D N L

theorem map_erase {α β : Type} (f : α → β) (l : List α) (i : Nat) : (l.eraseIdx i).map f = (l.map f).eraseIdx i := by
  induction l generalizing i with
  | nil => simp
  | cons a r ih => cases i <;> simp [ih]

theorem getD_map {bs : List Nat} {fr : Nat → Fr} {i e : Nat} (hi : i < bs.length) : (bs.map fr).getD i fr0 = fr (bs.getD i e) := by
  simp [List.getD_eq_getElem?_getD, List.getElem?_eq_getElem hi]

theorem tkB_map (D : Dv) (N : Nat) (bs : List Nat) (fr : Nat → Fr) : (tkB D N bs fr).map fr = tkL D N (bs.map fr) := by
  unfold tkB tkL evB
  have hl : (bs.map fr).length = bs.length := by simp
  rw [hl]
  split
  · rfl
  · split
    · split
      · exact map_erase ..
      · rfl
    · rfl

theorem tkB_sub {D : Dv} {N : Nat} {bs : List Nat} {fr : Nat → Fr} {x : Nat} (h : x ∈ tkB D N bs fr) : x ∈ bs := by
  unfold tkB evB at h
  split at h
  · exact h
  · split at h
    · split at h
      · exact erase_mem h
      · exact h
    · exact h

theorem tkB_lt {D : Dv} {N : Nat} {bs : List Nat} {fr : Nat → Fr} (hl : bs.length ≤ N) (h8 : 8 ≤ N) (h : tkE D N (bs.map fr) = 0) : (tkB D N bs fr).length < N := by
  have hll : (bs.map fr).length = bs.length := by simp
  unfold tkE at h
  unfold tkB evB
  rw [hll] at h
  by_cases h1 : bs.length < N
  · rw [if_pos h1]; exact h1
  · rw [if_neg h1] at h
    rw [if_neg h1]
    by_cases h2 : nuP (bs.map fr) 0 < bs.length
    · rw [if_pos h2] at h
      rw [if_pos h2, if_pos h, List.length_eraseIdx_of_lt h2]
      omega
    · rw [if_neg h2] at h
      exact absurd h (by decide)

theorem writeD_ops (D : Dv) (pg : Nat) (b : List Int) : (writeD D pg b).ops ≤ D.ops + 1 ∧ (writeD D pg b).since.length ≤ D.since.length + 1 := by
  unfold writeD
  split
  · omega
  · split
    · simp [wrD, dieD]
    · split
      · simp [opD]
      · simp [wrD, opD]
theorem readD_ops (D : Dv) : (readD D).ops ≤ D.ops + 1 ∧ (readD D).since = D.since := by
  unfold readD
  split
  · exact ⟨by omega, rfl⟩
  · split
    · exact ⟨by simp [dieD], rfl⟩
    · exact ⟨by simp [opD], rfl⟩
theorem evD_ops (D : Dv) (f : Fr) : (evD D f).ops ≤ D.ops + 1 ∧ (evD D f).since.length ≤ D.since.length + 1 := by
  unfold evD
  split
  · exact writeD_ops ..
  · omega
theorem tkD_ops (D : Dv) (N : Nat) (L : List Fr) : (tkD D N L).ops ≤ D.ops + 1 ∧ (tkD D N L).since.length ≤ D.since.length + 1 := by
  unfold tkD
  split
  · omega
  · split
    · exact evD_ops ..
    · omega

theorem find_idx {bs : List Nat} {fr : Nat → Fr} (k : Int) (e : Nat) : findP (psOf bs fr) k = if fiP (bs.map fr) k < bs.length then some (bs.getD (fiP (bs.map fr) k) e) else none := by
  unfold fiP findP psOf
  induction bs with
  | nil => simp
  | cons b r ih =>
    simp only [List.map_cons, List.find?_cons, List.findIdx_cons, List.length_cons]
    by_cases h : ((fr b).page : Int) = k
    · simp [h]
    · simp only [h, decide_false, cond_false]
      rw [ih]
      by_cases h2 : List.findIdx (fun f => decide ((f.page : Int) = k)) (List.map fr r) < r.length
      · rw [if_pos h2, if_pos (by omega)]
        simp
      · rw [if_neg h2, if_neg (by omega)]

section
variable {w : World} {p d m e N : Nat} {Fd F : Nat → Prop} {D : Dv} {bs : List Nat} {fr : Nat → Fr} {ol nw : Nat → Nat}

/-- What use leaves. -/
def UseEnd (p d N : Nat) (F : Nat → Prop) (D : Dv) (L : List Fr) (pg : Nat) (rd : Bool) (w : World) (x : Ending) (w' : World) : Prop :=
  ∃ m e Fd' F' bs' fr' ol' nw', PD w' p d m e N Fd' F' (usD D N L pg rd) bs' fr' ol' nw' ∧ bs'.map fr' = usL D N L pg rd ∧ Step F F' w w' ∧ ((usE D N L pg rd = 0 ∧ ∃ g cs, bs' = cs ++ [g] ∧ x = .returned (.pointer (some ⟨g, 0, none⟩))) ∨ (¬ usE D N L pg rd = 0 ∧ x = thrown (usE D N L pg rd)))

theorem tkE_cases (D : Dv) (N : Nat) (L : List Fr) : tkE D N L = 0 ∨ tkE D N L = 7 ∨ tkE D N L = 6 := by
  unfold tkE
  split
  · exact .inl rfl
  · split
    · rcases evE_cases D (L.getD (nuP L 0) fr0) with h | h
      · exact .inl h
      · exact .inr (.inl h)
    · exact .inr (.inr rfl)

/-- Behind take, when there is no room. -/
theorem use_full {x : Ending} {w' : World} {pg : Nat} {rd : Bool} (hf : ¬ fiP (bs.map fr) pg < (bs.map fr).length) (hk : ¬ tkE D N (bs.map fr) = 0) (hx : x = thrown (tkE D N (bs.map fr))) (ht : TakeEnd p d m e N F D bs fr w w') : UseEnd p d N F D (bs.map fr) pg rd w x w' := by
  obtain ⟨Fd', F', fr', ol', nw', h1, h2, h3⟩ := ht
  have e1 : usE D N (bs.map fr) pg rd = tkE D N (bs.map fr) := by unfold usE; rw [if_neg hf, if_neg hk]
  have e2 : usD D N (bs.map fr) pg rd = tkD D N (bs.map fr) := by unfold usD; rw [if_neg hf, if_neg hk]
  refine ⟨m, e, Fd', F', _, fr', ol', nw', by rw [e2]; exact h1, ?_, h2, .inr ⟨by rw [e1]; exact hk, by rw [e1]; exact hx⟩⟩
  unfold usL
  rw [if_neg hf, e1, if_neg hk, ← tkB_map]
  exact List.map_congr_left h3

set_option maxRecDepth 20000 in
set_option maxHeartbeats 2000000 in
theorem use_found (h : PD w p d m e N Fd F D bs fr ol nw) (pg : Nat) (rd : Bool) (v : Value) (hf : fiP (bs.map fr) pg < bs.length) :
    Calls Tryz.prog 44 #[.pointer (some ⟨p, 0, none⟩), .int .i64 pg, v] w fun x w' => UseEnd p d N F D (bs.map fr) pg rd w x w' := by
  obtain ⟨i, hi⟩ : ∃ i, fiP (bs.map fr) pg = i := ⟨_, rfl⟩
  have hfind := find_idx (bs := bs) (fr := fr) pg e
  rw [if_pos hf] at hfind
  have hLL : (bs.map fr).length = bs.length := by simp
  have e1 : usE D N (bs.map fr) pg rd = 0 := by unfold usE; rw [hLL, if_pos hf]
  have e2 : usD D N (bs.map fr) pg rd = D := by unfold usD; rw [hLL, if_pos hf]
  have e3 : usL D N (bs.map fr) pg rd = (bs.eraseIdx i ++ [bs.getD i e]).map fr := by
    unfold usL; rw [hLL, if_pos hf, hi, List.map_append, map_erase]
    rw [getD_map (e := e) (by omega)]
    rfl
  rw [hi] at hf hfind
  have hgm : bs.getD i e ∈ bs := getD_mem hf
  have hpgE : (fr (bs.getD i e)).page = pg := by
    have := (psOf_find hfind).2
    omega
  have hwf : (Lit.int .i64 (pg : Int)).wf = true := wfN (by have := h.pool.pg _ hgm; have := h.pool.np4; omega)
  have hlook := h.pool.held.look pg hwf
  rw [hfind] at hlook
  have hgm' : bs.getD i e ∈ e :: bs := List.mem_cons_of_mem _ hgm
  obtain ⟨c0, c1, c2, c3⟩ := h.pool.at
  have hcy : cyc e bs (i + 1) = bs.getD i e := cyc_succ e bs i hf
  have ho : ol (bs.getD i e) = cyc e bs i := by rw [← hcy]; exact (h.pool.ring i (by omega)).2
  have hw : nw (bs.getD i e) = cyc e bs (i + 2) := by rw [← hcy]; exact (h.pool.ring (i + 1) (by omega)).1
  obtain ⟨g0, _, _, g3, g4, gz⟩ := (h.pool.node _ hgm').at (h.pool.ok _ hgm')
  rw [ho] at g3
  rw [hw] at g4
  obtain ⟨_, _, _, _, ha4, haz⟩ := (h.pool.node _ (cyc_mem e bs i)).at (h.pool.ok _ (cyc_mem e bs i))
  obtain ⟨_, _, _, hc3, _, hcz⟩ := (h.pool.node _ (cyc_mem e bs (i + 2))).at (h.pool.ok _ (cyc_mem e bs (i + 2)))
  have hun := unlink_any w (bs.getD i e) (cyc e bs i) (cyc e bs (i + 2)) _ _ g3 g4 ha4 hc3 (haz _) (hcz _)
  have hend : ∀ w1, Mem ((w.setCell ⟨cyc e bs i, 260, none⟩ (.pointer (some ⟨cyc e bs (i + 2), 0, none⟩))).setCell ⟨cyc e bs (i + 2), 259, none⟩ (.pointer (some ⟨cyc e bs i, 0, none⟩))) w1 →
      w1.cell? ⟨p, 3, none⟩ = some (.pointer (some ⟨e, 0, none⟩)) ∧ Calls Tryz.prog 78 #[.pointer (some ⟨bs.getD i e, 0, none⟩), .pointer (some ⟨e, 0, none⟩)] w1 fun x w2 => x = .returned (.tuple #[]) ∧ UseEnd p d N F D (bs.map fr) pg rd w (.returned (.pointer (some ⟨bs.getD i e, 0, none⟩))) w2 := fun w1 hm => by
    obtain ⟨r1, r2, r3⟩ := h.relink hf hm
    refine ⟨r2, (link_ask r1).mono ?_⟩
    rintro x w2 ⟨rfl, hm2⟩
    obtain ⟨⟨ol', nw', t1⟩, t2⟩ := r3 w2 hm2
    refine ⟨rfl, m, e, Fd, F, _, fr, ol', nw', by rw [e2]; exact t1, e3.symm, ⟨t2, fun _ h => .inl h⟩, .inl ⟨e1, _, _, rfl, rfl⟩⟩
  obtain ⟨g, hg⟩ : ∃ g, bs.getD i e = g := ⟨_, rfl⟩
  rw [hg] at hun hend hlook
  have HE : Hid _ := hend
  have hlook' : (Instr.lookup 70 (.map (some m)) (.int .i64 pg) false).run Tryz.prog w = .ok (.pointer (some ⟨g, 0, none⟩)) w := hlook
  clear hlook hend h e1 e2 e3 hfind hi hf hgm hgm' hcy ho hw g0 g3 g4 gz ha4 haz hc3 hcz hg hLL hpgE hwf
  go_enter Tryz.func44, Tryz.ntmps44
  go_wp2_with fail
  refine hun.mono ?_
  rintro x w1 ⟨rfl, hm⟩
  obtain ⟨d3, hlk⟩ := HE.out w1 hm
  clear hm hun HE hlook'
  go_wp2_with fail
  refine hlk.mono ?_
  clear hlk
  rintro x w2 ⟨rfl, hu⟩
  have HX : Hid (UseEnd p d N F D (bs.map fr) pg rd w (.returned (.pointer (some ⟨g, 0, none⟩))) w2) := hu
  clear hu
  go_wp2
  go_ret
  exact HX.out

/-- A new frame: from its making to its link. -/
def NewAsk (p d m : Nat) (N : Nat) (F : Nat → Prop) (D : Dv) (L : List Fr) (pg : Nat) (rd : Bool) (w : World) (zs : List Int) (w2 : World) : Prop :=
  zs.length = 256 ∧ (∀ o, (w2.alloc o).cell? ⟨p, 2, none⟩ = some (.map (some m))) ∧ ∃ ps, Held (w2.alloc (.cells (frV ⟨pg, zs, false, 0⟩ (.pointer none) (.pointer none)).toArray 69)) m ps ∧ pg ≤ 1000000 ∧ ps.length ≤ 1000000 ∧ findP ps pg = none ∧
    ∀ w4, Held w4 m (ps ++ [(pg, w2.heap.size)]) → (w2.alloc (.cells (frV ⟨pg, zs, false, 0⟩ (.pointer none) (.pointer none)).toArray 69)).mapTurned w4 m → ∃ e', w4.cell? ⟨p, 3, none⟩ = some (.pointer (some ⟨e', 0, none⟩)) ∧ Calls Tryz.prog 78 #[.pointer (some ⟨w2.heap.size, 0, none⟩), .pointer (some ⟨e', 0, none⟩)] w4 fun x w5 => x = .returned (.tuple #[]) ∧ UseEnd p d N F D L pg rd w (.returned (.pointer (some ⟨w2.heap.size, 0, none⟩))) w5

theorem new_ask {w0 w2 : World} {F0 : Nat → Prop} {D0 : Dv} {L0 : List Fr} {pg : Nat} {rd : Bool} {zs : List Int} (h : PD w2 p d m e N Fd F D bs fr ol nw) (hzl : zs.length = 256) (hzb : Bys zs) (hpg : pg < D.n) (hl : bs.length < N) (hff : findP (psOf bs fr) pg = none) (hst : Step F0 F w0 w2)
    (e1 : usE D0 N L0 pg rd = 0) (e2 : usD D0 N L0 pg rd = D) (e3 : usL D0 N L0 pg rd = bs.map fr ++ [⟨pg, zs, false, 0⟩]) : NewAsk p d m N F0 D0 L0 pg rd w0 zs w2 := by
  have hb : Below w2.heap.size w2 (w2.alloc (.cells (frV ⟨pg, zs, false, 0⟩ (.pointer none) (.pointer none)).toArray 69)) := (Below.refl _ _).alloc (Nat.le_refl _) _
  have h3 := h.below hb
  have hlt := h.pool.lt
  have hml := hlt m (.inr (.inl rfl))
  have hpl := hlt p (.inl rfl)
  have hF := h.flt
  obtain ⟨_, _, c2, _⟩ := h.pool.at
  have hnp := h.pool.np4
  refine ⟨hzl, fun o => (World.cell?_alloc_lt _ _ _ hpl).trans c2, psOf bs fr, h3.pool.held, by omega, by simp [psOf]; have := h.pool.len; have := h.pool.n4; omega, hff, fun w4 hh ht => ?_⟩
  have hk : ∀ k, k ≠ m → k < w2.heap.size + 1 → w4.heap[k]? = (w2.alloc (.cells (frV ⟨pg, zs, false, 0⟩ (.pointer none) (.pointer none)).toArray 69)).heap[k]? := fun k hk hl => turned_heap ht hk (by simp; omega)
  have hgn : w4.heap[w2.heap.size]? = some (.cells (frV ⟨pg, zs, false, 0⟩ (.pointer none) (.pointer none)).toArray 69 (0, 0)) := (hk _ (by omega) (by omega)).trans (heap_alloc_new w2 _)
  have hch : Ch w2.heap.size F w2 w4 := (Ch.of F hb).trans ⟨ht.grown.os, ht.grown.tape, ht.grown.output, ht.grown.size, fun k hk' hf => ht.grown.block k (by simp; omega) (fun e4 => hf (by simp at e4; rw [e4]; exact h.fp m (.inr (.inl rfl))))⟩
  obtain ⟨r1, r2, r3⟩ := h.newlink (w1 := w4) w2.heap.size ⟨pg, zs, false, 0⟩ ⟨hzl, hzb⟩ hpg hl (Nat.le_refl _) hgn hh (fun k hk1 hk2 => (hk k hk1 (by omega)).trans (Below.heap_alloc _ _ _ hk2)) hch
  refine ⟨e, r2, (link_ask r1).mono ?_⟩
  rintro x w5 ⟨rfl, hm⟩
  obtain ⟨⟨ol', nw', t1⟩, t2⟩ := r3 w5 hm
  refine ⟨rfl, m, e, Fd, _, _, _, ol', nw', by rw [e2]; exact t1, ?_, hst.trans ⟨t2, fun k hk' => ?_⟩, .inl ⟨e1, _, _, rfl, rfl⟩⟩
  · rw [e3, List.map_append]
    congr 1
    · exact List.map_congr_left (fun x hx => upF_other _ _ (fun e4 => by have := hlt x (.inr (.inr (List.mem_cons_of_mem _ hx))); omega))
    · simp [upF_same]
  · rcases hk' with hk' | hk'
    · exact .inl hk'
    · exact .inr (by omega)

set_option maxRecDepth 20000 in
set_option maxHeartbeats 4000000 in
theorem use_put (h : PD w p d m e N Fd F D bs fr ol nw) (hops : D.ops ≤ 1000000000) (hs : D.since.length ≤ 1000000) (pg : Nat) (hpg : pg < D.n) (hf : ¬ fiP (bs.map fr) pg < bs.length) :
    Calls Tryz.prog 44 #[.pointer (some ⟨p, 0, none⟩), .int .i64 pg, .func (.func 55) #[] #[]] w fun x w' => UseEnd p d N F D (bs.map fr) pg false w x w' := by
  have hfind := find_idx (bs := bs) (fr := fr) pg e
  rw [if_neg hf] at hfind
  have hLL : (bs.map fr).length = bs.length := by simp
  have hpl : pg ≤ 1000000 := by have := h.pool.np4; omega
  have hlook := h.pool.held.look pg (wfN hpl)
  rw [hfind] at hlook
  have hlook' : (Instr.lookup 70 (.map (some m)) (.int .i64 pg) false).run Tryz.prog w = .ok (.pointer none) w := hlook
  have htk := take_any h (by omega) hs
  obtain ⟨c0, c1, c2, c3⟩ := h.pool.at
  have hfull := fun (x : Ending) (w' : World) hk hx ht => use_full (p := p) (d := d) (m := m) (e := e) (F := F) (w := w) (x := x) (w' := w') (pg := pg) (rd := false) (D := D) (N := N) (bs := bs) (fr := fr) (by rw [hLL]; exact hf) hk hx ht
  have hlen := h.pool.len
  have h8 := h.pool.n8
  have HU : Hid _ := hfull
  rcases tkE_cases D N (bs.map fr) with t0 | t0
  · rw [t0] at htk
    have hlt := tkB_lt hlen h8 t0
    -- what comes behind take
    have hgo : ∀ w1, TakeEnd p d m e N F D bs fr w w1 → w1.cell? ⟨p, 2, none⟩ = some (.map (some m)) ∧ Calls Tryz.prog 55 #[.int .i64 pg] w1 fun x w2 => x = .returned (.agg ((List.replicate 256 (0 : Int)).map (Value.int .u8)).toArray) ∧ NewAsk p d m N F D (bs.map fr) pg false w (List.replicate 256 0) w2 := fun w1 ht => by
      obtain ⟨Fd1, F1, fr1, ol1, nw1, p1, p2, p3⟩ := ht
      refine ⟨p1.pool.at.2.2.1, ?_⟩
      have hn1 : (tkD D N (bs.map fr)).n = D.n := tkD_n ..
      have hff : findP (psOf (tkB D N bs fr) fr1) pg = none := by
        cases hq : findP (psOf (tkB D N bs fr) fr1) pg with
        | none => rfl
        | some g =>
          obtain ⟨q1, q2⟩ := psOf_find hq
          rw [p3 g q1] at q2
          have := findP_none hfind ((fr g).page, g) (List.mem_map.2 ⟨g, tkB_sub q1, rfl⟩)
          exact absurd q2.symm this
      have hmp : (tkB D N bs fr).map fr1 = tkL D N (bs.map fr) := by rw [← tkB_map]; exact List.map_congr_left p3
      refine (unread_any w1 pg).mono ?_
      rintro x w2 ⟨rfl, hb2⟩
      refine ⟨by rw [zeA_cells], ?_⟩
      refine new_ask (p1.below hb2) List.length_replicate (bys_rep 256) (by rw [hn1]; exact hpg) hlt hff (p2.trans ⟨Ch.of F1 hb2, fun _ h => .inl h⟩) ?_ ?_ ?_
      · unfold usE; rw [hLL, if_neg hf, if_pos t0, if_neg (by simp)]
      · unfold usD; rw [hLL, if_neg hf, if_pos t0, if_neg (by simp)]
      · have eE : usE D N (bs.map fr) pg false = 0 := by unfold usE; rw [hLL, if_neg hf, if_pos t0, if_neg (by simp)]
        unfold usL; rw [hLL, if_neg hf, eE, if_pos rfl, hmp]; rfl
    have HG : Hid _ := hgo
    clear hgo hlen h8 hlook hfind hfull HU h hf hLL hlt
    go_enter Tryz.func44, Tryz.ntmps44
    go_wp2_with fail
    refine htk.mono ?_
    clear htk
    rintro x w1 ⟨hx, ht⟩
    obtain rfl : x = .returned (.tuple #[]) := by
      rcases hx with hx | hx
      · exact hx.2
      · exact absurd rfl hx.1
    obtain ⟨d2, hfs⟩ := HG.out w1 ht
    clear HG ht hx hlook'
    go_wp2_with fail
    refine hfs.mono ?_
    clear hfs
    rintro x w2 ⟨rfl, hask⟩
    obtain ⟨zs, hzs⟩ : ∃ zs : List Int, List.replicate 256 0 = zs := ⟨_, rfl⟩
    rw [hzs] at hask ⊢
    clear hzs
    obtain ⟨hzl, d3, ps, hh, hp1, hp2, hp3, hnx⟩ := hask
    have rB := build_f w2 pg zs hzl
    have rX := box_f w2 (frV ⟨pg, zs, false, 0⟩ (.pointer none) (.pointer none)).toArray
    have HH : Hid _ := hh
    have HN : Hid _ := hnx
    have d4 := d3 (.cells (frV ⟨pg, zs, false, 0⟩ (.pointer none) (.pointer none)).toArray 69)
    clear hh hnx hzl d3
    obtain ⟨cs, hcs⟩ : ∃ cs, (frV ⟨pg, zs, false, 0⟩ (.pointer none) (.pointer none)).toArray = cs := ⟨_, rfl⟩
    rw [hcs] at rB rX HH HN d4
    clear hcs
    go_wp2_with (at_mapUpdate; refine wpList_held_put _ rfl _ _ _ rfl m pg w2.heap.size ps rfl rfl rfl HH.out hp1 hp2 hp3 ?_; intro w4 hh4 ht4; obtain ⟨e', d5, hlk⟩ := HN.out w4 hh4 ht4; clear hh4 ht4)
    refine hlk.mono ?_
    clear hlk HN HH
    rintro x w5 ⟨rfl, hu⟩
    have HX : Hid (UseEnd p d N F D (bs.map fr) pg false w (.returned (.pointer (some ⟨w2.heap.size, 0, none⟩))) w5) := hu
    clear hu
    go_wp2
    go_ret
    exact HX.out
  · have t1 : ¬ tkE D N (bs.map fr) = 0 := by rcases t0 with t0 | t0 <;> rw [t0] <;> decide
    obtain ⟨T, hT⟩ : ∃ T, tkE D N (bs.map fr) = T := ⟨_, rfl⟩
    rw [hT] at htk t1 HU
    clear t0 hT hlen h8 hlook hfind hfull h hf hLL
    go_enter Tryz.func44, Tryz.ntmps44
    go_wp2_with fail
    refine htk.mono ?_
    clear htk
    rintro x w1 ⟨hx, ht⟩
    obtain rfl : x = thrown T := by
      rcases hx with hx | hx
      · exact absurd hx.1 t1
      · exact hx.2
    have HE : Hid (UseEnd p d N F D (bs.map fr) pg false w (thrown T) w1) := HU.out _ _ t1 rfl ht
    clear hx ht HU t1
    unfold thrown at HE ⊢
    go_wp2
    exact ⟨rfl, HE.out⟩

set_option maxRecDepth 20000 in
set_option maxHeartbeats 4000000 in
theorem use_pin (h : PD w p d m e N Fd F D bs fr ol nw) (hops : D.ops ≤ 1000000000) (hs : D.since.length ≤ 1000000) (pg : Nat) (hpg : pg < D.n) (hf : ¬ fiP (bs.map fr) pg < bs.length) :
    Calls Tryz.prog 44 #[.pointer (some ⟨p, 0, none⟩), .int .i64 pg, .func (.func 45) #[.pointer (some ⟨p, 0, none⟩)] #[]] w fun x w' => UseEnd p d N F D (bs.map fr) pg true w x w' := by
  have hfind := find_idx (bs := bs) (fr := fr) pg e
  rw [if_neg hf] at hfind
  have hLL : (bs.map fr).length = bs.length := by simp
  have hpl : pg ≤ 1000000 := by have := h.pool.np4; omega
  have hlook := h.pool.held.look pg (wfN hpl)
  rw [hfind] at hlook
  have hlook' : (Instr.lookup 70 (.map (some m)) (.int .i64 pg) false).run Tryz.prog w = .ok (.pointer none) w := hlook
  have htk := take_any h (by omega) hs
  obtain ⟨c0, c1, c2, c3⟩ := h.pool.at
  have hfull := fun (x : Ending) (w' : World) hk hx ht => use_full (p := p) (d := d) (m := m) (e := e) (F := F) (w := w) (x := x) (w' := w') (pg := pg) (rd := true) (D := D) (N := N) (bs := bs) (fr := fr) (by rw [hLL]; exact hf) hk hx ht
  have hlen := h.pool.len
  have h8 := h.pool.n8
  have HU : Hid _ := hfull
  rcases tkE_cases D N (bs.map fr) with t0 | t0
  · rw [t0] at htk
    have hlt := tkB_lt hlen h8 t0
    -- what comes behind take
    have hgo : ∀ w1, TakeEnd p d m e N F D bs fr w w1 → w1.cell? ⟨p, 2, none⟩ = some (.map (some m)) ∧ Calls Tryz.prog 45 #[.pointer (some ⟨p, 0, none⟩), .int .i64 pg] w1 fun x w2 => (∃ zs : List Int, x = .returned (.agg (zs.map (Value.int .u8)).toArray) ∧ NewAsk p d m N F D (bs.map fr) pg true w zs w2) ∨ (x = thrown 7 ∧ UseEnd p d N F D (bs.map fr) pg true w (thrown 7) w2) := fun w1 ht => by
      obtain ⟨Fd1, F1, fr1, ol1, nw1, p1, p2, p3⟩ := ht
      refine ⟨p1.pool.at.2.2.1, ?_⟩
      have hn1 : (tkD D N (bs.map fr)).n = D.n := tkD_n ..
      have hff : findP (psOf (tkB D N bs fr) fr1) pg = none := by
        cases hq : findP (psOf (tkB D N bs fr) fr1) pg with
        | none => rfl
        | some g =>
          obtain ⟨q1, q2⟩ := psOf_find hq
          rw [p3 g q1] at q2
          have := findP_none hfind ((fr g).page, g) (List.mem_map.2 ⟨g, tkB_sub q1, rfl⟩)
          exact absurd q2.symm this
      have hmp : (tkB D N bs fr).map fr1 = tkL D N (bs.map fr) := by rw [← tkB_map]; exact List.map_congr_left p3
      have hop1 := tkD_ops D N (bs.map fr)
      refine (pread_any p1 (by omega) pg (by rw [hn1]; exact hpg)).mono ?_
      rintro x w2 ⟨hx, h2, c2⟩
      have hst : Step F F1 w w2 := p2.trans ⟨c2, fun _ h => .inl h⟩
      have eD : usD D N (bs.map fr) pg true = readD (tkD D N (bs.map fr)) := by unfold usD; rw [hLL, if_neg hf, if_pos t0, if_pos rfl]
      rcases hx with ⟨hx1, rfl⟩ | ⟨hx1, rfl⟩
      · have eE : usE D N (bs.map fr) pg true = 0 := by unfold usE; rw [hLL, if_neg hf, if_pos t0, if_neg (by simp [hx1])]
        refine .inl ⟨_, rfl, ?_⟩
        refine new_ask h2 (pgLen p1.dev.1 (by rw [hn1]; exact hpg)) (pgBys p1.dev.1 pg) (by rw [readD_n, hn1]; exact hpg) hlt hff hst eE eD ?_
        unfold usL; rw [hLL, if_neg hf, eE, if_pos rfl, hmp]; rfl
      · have eE : usE D N (bs.map fr) pg true = 7 := by unfold usE; rw [hLL, if_neg hf, if_pos t0, if_pos ⟨rfl, hx1⟩]
        refine .inr ⟨rfl, m, e, Fd1, F1, _, fr1, ol1, nw1, by rw [eD]; exact h2, ?_, hst, .inr ⟨by rw [eE]; decide, by rw [eE]⟩⟩
        unfold usL; rw [hLL, if_neg hf, eE, if_neg (by decide), hmp]
    have HG : Hid _ := hgo
    clear hgo hlen h8 hlook hfind hfull HU h hf hLL hlt
    go_enter Tryz.func44, Tryz.ntmps44
    go_wp2_with fail
    refine htk.mono ?_
    clear htk
    rintro x w1 ⟨hx, ht⟩
    obtain rfl : x = .returned (.tuple #[]) := by
      rcases hx with hx | hx
      · exact hx.2
      · exact absurd rfl hx.1
    obtain ⟨d2, hfs⟩ := HG.out w1 ht
    clear HG ht hx hlook'
    go_wp2_with fail
    refine hfs.mono ?_
    clear hfs
    rintro x w2 (⟨zs, rfl, hask⟩ | ⟨rfl, hu⟩)
    · skip
      obtain ⟨hzl, d3, ps, hh, hp1, hp2, hp3, hnx⟩ := hask
      have rB := build_f w2 pg zs hzl
      have rX := box_f w2 (frV ⟨pg, zs, false, 0⟩ (.pointer none) (.pointer none)).toArray
      have HH : Hid _ := hh
      have HN : Hid _ := hnx
      have d4 := d3 (.cells (frV ⟨pg, zs, false, 0⟩ (.pointer none) (.pointer none)).toArray 69)
      clear hh hnx hzl d3
      obtain ⟨cs, hcs⟩ : ∃ cs, (frV ⟨pg, zs, false, 0⟩ (.pointer none) (.pointer none)).toArray = cs := ⟨_, rfl⟩
      rw [hcs] at rB rX HH HN d4
      clear hcs
      go_wp2_with (at_mapUpdate; refine wpList_held_put _ rfl _ _ _ rfl m pg w2.heap.size ps rfl rfl rfl HH.out hp1 hp2 hp3 ?_; intro w4 hh4 ht4; obtain ⟨e', d5, hlk⟩ := HN.out w4 hh4 ht4; clear hh4 ht4)
      refine hlk.mono ?_
      clear hlk HN HH
      rintro x w5 ⟨rfl, hu⟩
      have HX : Hid (UseEnd p d N F D (bs.map fr) pg true w (.returned (.pointer (some ⟨w2.heap.size, 0, none⟩))) w5) := hu
      clear hu
      go_wp2
      go_ret
      exact HX.out
    · have HE : Hid (UseEnd p d N F D (bs.map fr) pg true w (thrown 7) w2) := hu
      clear hu
      unfold thrown at HE ⊢
      go_wp2
      exact ⟨rfl, HE.out⟩
  · have t1 : ¬ tkE D N (bs.map fr) = 0 := by rcases t0 with t0 | t0 <;> rw [t0] <;> decide
    obtain ⟨T, hT⟩ : ∃ T, tkE D N (bs.map fr) = T := ⟨_, rfl⟩
    rw [hT] at htk t1 HU
    clear t0 hT hlen h8 hlook hfind hfull h hf hLL
    go_enter Tryz.func44, Tryz.ntmps44
    go_wp2_with fail
    refine htk.mono ?_
    clear htk
    rintro x w1 ⟨hx, ht⟩
    obtain rfl : x = thrown T := by
      rcases hx with hx | hx
      · exact absurd hx.1 t1
      · exact hx.2
    have HE : Hid (UseEnd p d N F D (bs.map fr) pg true w (thrown T) w1) := HU.out _ _ t1 rfl ht
    clear hx ht HU t1
    unfold thrown at HE ⊢
    go_wp2
    exact ⟨rfl, HE.out⟩
end
end Go.Proofs.YtojckbhbnalkeaaGreat.Oct
