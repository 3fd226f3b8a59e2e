/-
  pool: Pin and Put, what they do inside.
-/
import Derived.Test.YtojckbhbnalkeaaGreatIk
namespace Go.Proofs.YtojckbhbnalkeaaGreat.Oct
open Go.RowKit
attribute [local go_sem ↓] loadA_eq storeA_eq

/-- The last frame has turned. -/
def lastUp (L : List Fr) (h : Fr → Fr) : List Fr := L.dropLast ++ [h (L.getLastD fr0)]

theorem lastUp_snoc (L : List Fr) (f : Fr) (h : Fr → Fr) : lastUp (L ++ [f]) h = L ++ [h f] := by
  simp [lastUp]

def pnL (D : Dv) (N : Nat) (L : List Fr) (pg : Nat) : List Fr := if usE D N L pg true = 0 then lastUp (usL D N L pg true) (fun f => { f with pins := f.pins + 1 }) else usL D N L pg true
def pnB (D : Dv) (N : Nat) (L : List Fr) (pg : Nat) : List Int := ((usL D N L pg true).getLastD fr0).b
def ptL (D : Dv) (N : Nat) (L : List Fr) (pg : Nat) (b : List Int) : List Fr := if usE D N L pg false = 0 then lastUp (usL D N L pg false) (fun f => { f with b := b, dirty := true }) else usL D N L pg false

/-- A cell that holds one value. -/
def CellAt (w : World) (q : Nat) (v : Value) (t : TypeId) : Prop := w.heap[q]? = some (.cells #[v] t (0, 0))

theorem CellAt.at {w : World} {q : Nat} {v : Value} {t : TypeId} (h : CellAt w q v t) : w.cell? ⟨q, 0, none⟩ = some v ∧ w.frozen? ⟨q, 0, none⟩ = false := by
  unfold CellAt at h
  refine ⟨?_, ?_⟩
  · rw [cell_of_row w q _ _ _ (0, 0) h]; rfl
  · unfold World.frozen?
    rw [h]
    simp
theorem CellAt.set {w : World} {q : Nat} {v : Value} {t : TypeId} (h : CellAt w q v t) (y : Value) : CellAt (w.setCell ⟨q, 0, none⟩ y) q y t := by
  unfold CellAt at h ⊢
  rw [setCell_heap w q 0 _ _ _ _ h]
  rfl
theorem CellAt.keep {w w' : World} {q : Nat} {v : Value} {t : TypeId} (h : CellAt w q v t) (k : w'.heap[q]? = w.heap[q]?) : CellAt w' q v t := k.trans h
theorem CellAt.lt {w : World} {q : Nat} {v : Value} {t : TypeId} (h : CellAt w q v t) : q < w.heap.size := heap_lt h

section
variable {w : World} {p d m e N : Nat} {Fd F : Nat → Prop} {D : Dv} {bs : List Nat} {fr : Nat → Fr} {ol nw : Nat → Nat}

theorem usePin_any (h : PD w p d m e N Fd F D bs fr ol nw) (hops : D.ops ≤ 1000000000) (hs : D.since.length ≤ 1000000) (pg : Nat) (hpg : pg < D.n) :
    Calls Tryz.prog 44 #[.pointer (some ⟨p, 0, none⟩), .int .i64 pg, .func (.func 45) #[.pointer (some ⟨p, 0, none⟩)] #[]] w fun x w' => UseEnd p d N F D (bs.map fr) pg true w x w' := by
  by_cases hf : fiP (bs.map fr) pg < bs.length
  · exact use_found h pg true _ hf
  · exact use_pin h hops hs pg hpg hf

theorem usePut_any (h : PD w p d m e N Fd F D bs fr ol nw) (hops : D.ops ≤ 1000000000) (hs : D.since.length ≤ 1000000) (pg : Nat) (hpg : pg < D.n) :
    Calls Tryz.prog 44 #[.pointer (some ⟨p, 0, none⟩), .int .i64 pg, .func (.func 55) #[] #[]] w fun x w' => UseEnd p d N F D (bs.map fr) pg false w x w' := by
  by_cases hf : fiP (bs.map fr) pg < bs.length
  · exact use_found h pg false _ hf
  · exact use_put h hops hs pg hpg hf

/-- The pins of what use leaves. -/
theorem usL_pins {B : Nat} {D : Dv} {N : Nat} {L : List Fr} {pg : Nat} {rd : Bool} (h : ∀ f ∈ L, f.pins ≤ B) : ∀ f ∈ usL D N L pg rd, f.pins ≤ B := by
  have ht : ∀ f ∈ tkL D N L, f ∈ L := fun f hf => by
    unfold tkL at hf
    split at hf
    · exact hf
    · split at hf
      · split at hf
        · exact List.mem_of_mem_eraseIdx hf
        · exact hf
      · exact hf
  intro f hf
  unfold usL at hf
  split at hf
  · rename_i hi
    rcases List.mem_append.1 hf with hf | hf
    · exact h f (List.mem_of_mem_eraseIdx hf)
    · simp at hf
      rw [hf, List.getElem?_eq_getElem hi, Option.getD_some]
      exact h _ (List.getElem_mem hi)
  · split at hf
    · rcases List.mem_append.1 hf with hf | hf
      · exact h f (ht f hf)
      · simp at hf
        rw [hf]; simp
    · exact h f (ht f hf)

/-- What Pin's inner function leaves. -/
def Pin1R (p d N : Nat) (F : Nat → Prop) (D : Dv) (L : List Fr) (pg rb : Nat) (w : World) (k : Int) (w' : World) : Prop :=
  k = usE D N L pg true ∧ (∃ F', Pool w' p d F' (usD D N L pg true) N (pnL D N L pg) ∧ ∀ j, F' j → F j ∨ w.heap.size ≤ j) ∧ Ch w.heap.size (fun j => F j ∨ j = rb) w w' ∧
  ((k = 0 ∧ ∃ g c, CellAt w' rb (.slice (some ⟨g, 0, none⟩) 256 c) 38 ∧ Own w.heap.size w' (.slice (some ⟨g, 0, none⟩) 256 c) (pnB D N L pg)) ∨ (¬ k = 0 ∧ CellAt w' rb (.slice none 0 0) 38))

set_option maxRecDepth 20000 in
set_option maxHeartbeats 4000000 in
theorem pin1_any (h : PD w p d m e N Fd F D bs fr ol nw) (hops : D.ops ≤ 1000000000) (hs : D.since.length ≤ 1000000) (hpn : ∀ f ∈ bs.map fr, f.pins ≤ 1000000) (pg : Nat) (hpg : pg < D.n) (rp rg rb : Nat)
    (hp : CellAt w rp (.pointer (some ⟨p, 0, none⟩)) 32) (hg : CellAt w rg (.int .i64 pg) 3) (hb : CellAt w rb (.slice none 0 0) 38) (hbF : ¬ F rb) :
    Calls Tryz.prog 43 #[.pointer (some ⟨rp, 0, none⟩), .pointer (some ⟨rg, 0, none⟩), .pointer (some ⟨rb, 0, none⟩)] w fun x w' => ∃ k, CEnd k x ∧ Pin1R p d N F D (bs.map fr) pg rb w k w' := by
  have hmf : ∀ (fn : Fn) (first cap : Array Value) (w : World), (Instr.makeFunc fn first cap).run Tryz.prog w = .ok (.func fn first cap) w := fun _ _ _ _ => rfl
  obtain ⟨p1, _⟩ := hp.at
  obtain ⟨g1, _⟩ := hg.at
  have hu := usePin_any h hops hs pg hpg
  have hrl := hb.lt
  have HB : Hid (CellAt w rb (.slice none 0 0) 38) := hb
  have HPN : Hid (∀ f ∈ bs.map fr, f.pins ≤ 1000000) := hpn
  clear h hp hg hb hpn
  go_enter Tryz.func43, Tryz.ntmps43
  go_wp2_with fail
  refine hu.mono ?_
  clear hu
  rintro x w1 ⟨m1, e1, Fd1, F1, bs1, fr1, ol1, nw1, h1, hL, hst, hx⟩
  have hb1 : CellAt w1 rb (.slice none 0 0) 38 := HB.out.keep (hst.1.block rb hrl hbF)
  rcases hx with ⟨hE, g, cs, rfl, rfl⟩ | ⟨hE, rfl⟩
  · have hgm : g ∈ cs ++ [g] := by simp
    have hgm' : g ∈ e1 :: (cs ++ [g]) := List.mem_cons_of_mem _ hgm
    have hgF : F1 g := h1.fp g (.inr (.inr hgm'))
    have hok := h1.pool.ok g hgm'
    obtain ⟨_, _, x2, _, _, xz⟩ := (h1.pool.node g hgm').at hok
    have hz2 := xz 258
    have hn : (fr1 g).pins ≤ 1000000 := by
      have := usL_pins (D := D) (N := N) (pg := pg) (rd := true) HPN.out (fr1 g)
      rw [← hL] at this
      exact this (List.mem_map_of_mem hgm)
    have h2 := h1.setPins hgm ((fr1 g).pins + 1)
    have hrow : Row (w1.setCell ⟨g, 258, none⟩ (.int .i64 ((fr1 g).pins + 1 : Nat))) (some ⟨g, 1, none⟩) 256 (fr1 g).b := by
      have := (h2.pool.node g hgm').row (h2.pool.ok g hgm')
      rw [upF_same] at this
      exact this
    have hcl := clone_some ⟨g, 1, none⟩ 256 (fr1 g).b _ hrow (by rw [hok.1]; decide)
    rw [hok.1] at hcl
    have hlast : pnL D N (bs.map fr) pg = (cs ++ [g]).map (upF fr1 g { fr1 g with pins := (fr1 g).pins + 1 }) := by
      have hnd := h1.pool.apart.2.2.2.2.2
      unfold pnL
      rw [if_pos hE, ← hL, List.map_append, List.map_append, List.map_cons, List.map_nil, List.map_cons, List.map_nil, lastUp_snoc, upF_same]
      congr 1
      refine List.map_congr_left (fun y hy => ?_)
      rw [upF_other _ _ (fun e2 => by
        rw [List.nodup_append] at hnd
        exact hnd.2.2 y hy g (by simp) e2)]
    have hbyt : pnB D N (bs.map fr) pg = (fr1 g).b := by
      unfold pnB
      rw [← hL, List.map_append, List.map_cons, List.map_nil]
      simp
    have hgrb : rb ≠ g := fun e2 => by
      rcases hst.2 g hgF with e3 | e3
      · exact hbF (e2 ▸ e3)
      · omega
    have hrl1 : rb < w1.heap.size := hb1.lt
    -- the end
    have hend : ∀ w3 gg c, Own (w1.setCell ⟨g, 258, none⟩ (.int .i64 ((fr1 g).pins + 1 : Nat))).heap.size w3 (.slice (some ⟨gg, 0, none⟩) 256 c) (fr1 g).b → Below (w1.setCell ⟨g, 258, none⟩ (.int .i64 ((fr1 g).pins + 1 : Nat))).heap.size (w1.setCell ⟨g, 258, none⟩ (.int .i64 ((fr1 g).pins + 1 : Nat))) w3 →
        (w3.cell? ⟨rb, 0, none⟩ = some (.slice none 0 0) ∧ w3.frozen? ⟨rb, 0, none⟩ = false) ∧ Pin1R p d N F D (bs.map fr) pg rb w 0 (w3.setCell ⟨rb, 0, none⟩ (.slice (some ⟨gg, 0, none⟩) 256 c)) := fun w3 gg c ho hbe => by
      have hsz : (w1.setCell ⟨g, 258, none⟩ (.int .i64 ((fr1 g).pins + 1 : Nat))).heap.size = w1.heap.size := size_setCell _ _ _
      have hb2 : CellAt (w1.setCell ⟨g, 258, none⟩ (.int .i64 ((fr1 g).pins + 1 : Nat))) rb (.slice none 0 0) 38 := hb1.keep (Below.heap_setCell w1 ⟨g, 258, none⟩ _ rb hgrb)
      have hb3 : CellAt w3 rb (.slice none 0 0) 38 := hb2.keep (hbe.block rb (by omega))
      have h3 := h2.below hbe
      have lgg := ho.lt2
      refine ⟨hb3.at, hE.symm, ⟨F1, ⟨Fd1, m1, e1, _, _, ol1, nw1, h3.keep (Nat.le_of_eq (size_setCell _ _ _).symm) (fun k hk => Below.heap_setCell w3 ⟨rb, 0, none⟩ _ k (fun e2 => ?_)), hlast⟩, hst.2⟩, ?_, .inl ⟨rfl, gg, c, hb3.set _, ?_⟩⟩
      · subst e2
        rcases hst.2 _ hk with e3 | e3
        · exact hbF e3
        · omega
      · have c1 : Ch w.heap.size (fun j => F j ∨ j = rb) w (w1.setCell ⟨g, 258, none⟩ (.int .i64 ((fr1 g).pins + 1 : Nat))) := (hst.1.mono (Nat.le_refl _) (fun _ _ e => .inl e)).setCell (p := ⟨g, 258, none⟩) (by
          rcases hst.2 g hgF with e3 | e3
          · exact .inr (.inl e3)
          · exact .inl e3) _
        exact (c1.trans ((Ch.of _ hbe).mono (by have := hst.1.size; omega) (fun _ _ e => e))).setCell (p := ⟨rb, 0, none⟩) (.inr (.inr rfl)) _
      · rw [hbyt]
        have := owns_base (ho.kept (w' := w3.setCell ⟨rb, 0, none⟩ (.slice (some ⟨gg, 0, none⟩) 256 c)) (Below.heap_setCell w3 ⟨rb, 0, none⟩ _ gg (fun e2 => by have e3 : gg = rb := e2; omega))) (base' := w.heap.size) (fun k hk => by simp [Value.ownBlock] at hk; have := hst.1.size; omega)
        exact this
    have HE : Hid _ := hend
    obtain ⟨zs, hzs⟩ : ∃ zs, (fr1 g).b = zs := ⟨_, rfl⟩
    obtain ⟨n, hnn⟩ : ∃ n, (fr1 g).pins = n := ⟨_, rfl⟩
    rw [hzs] at HE hcl
    rw [hnn] at HE hcl x2 hn
    rw [show ((n + 1 : Nat) : Int) = (n : Int) + 1 by omega] at HE hcl
    clear hend hzs hnn hlast hbyt hrow h2 hok h1 hL hst hE xz hgm hgm' hb1 HPN
    go_wp2_with fail
    refine hcl.mono ?_
    clear hcl
    rintro x w3 ⟨gg, c, rfl, ho, hbe⟩
    obtain ⟨⟨y1, y2⟩, hR⟩ := HE.out w3 gg c ho hbe
    have HR : Hid (Pin1R p d N F D (bs.map fr) pg rb w 0 (w3.setCell ⟨rb, 0, none⟩ (.slice (some ⟨gg, 0, none⟩) 256 c))) := hR
    clear HE ho hbe hR
    go_wp2
    go_end0
    exact ⟨0, .inl ⟨rfl, rfl⟩, HR.out⟩
  · obtain ⟨E, hEE⟩ : ∃ E, usE D N (bs.map fr) pg true = E := ⟨_, rfl⟩
    have hR : Pin1R p d N F D (bs.map fr) pg rb w E w1 := ⟨hEE.symm, ⟨F1, ⟨Fd1, m1, e1, bs1, fr1, ol1, nw1, h1, by unfold pnL; rw [if_neg hE, hL]⟩, hst.2⟩, hst.1.mono (Nat.le_refl _) (fun _ _ e => .inl e), .inr ⟨by rw [← hEE]; exact hE, hb1⟩⟩
    rw [hEE] at hE ⊢
    have HR : Hid (Pin1R p d N F D (bs.map fr) pg rb w E w1) := hR
    have HE : Hid (¬ E = 0) := hE
    clear h1 hL hst hb1 hR hE hEE HPN
    unfold thrown
    go_wp2
    exact ⟨rfl, E, .inr ⟨HE.out, rfl⟩, HR.out⟩
end
end Go.Proofs.YtojckbhbnalkeaaGreat.Oct

/-
  pool: Put inside; Pin, Put.
-/
namespace Go.Proofs.YtojckbhbnalkeaaGreat.Oct
open Go.RowKit
attribute [local go_sem ↓] loadA_eq storeA_eq

section
variable {w : World} {p d m e N : Nat} {Fd F : Nat → Prop} {D : Dv} {bs : List Nat} {fr : Nat → Fr} {ol nw : Nat → Nat}

/-- What Put's inner function leaves. -/
def Put1R (p d N : Nat) (F : Nat → Prop) (D : Dv) (L : List Fr) (pg : Nat) (b : List Int) (w : World) (k : Int) (w' : World) : Prop :=
  k = usE D N L pg false ∧ (∃ F', Pool w' p d F' (usD D N L pg false) N (ptL D N L pg b) ∧ ∀ j, F' j → F j ∨ w.heap.size ≤ j) ∧ Ch w.heap.size F w w'

theorem PD.setBytes (h : PD w p d m e N Fd F D bs fr ol nw) {g : Nat} (hg : g ∈ bs) (b : List Int) (hb : b.length = 256) (hy : Bys b) : PD (w.setCells g 1 (b.map (Value.int .u8))) p d m e N Fd F D bs (upF fr g { fr g with b := b }) ol nw := by
  have hg' : g ∈ e :: bs := List.mem_cons_of_mem _ hg
  have hok := h.pool.ok g hg'
  refine h.setN hg _ ?_ (fun k hk => setCells_other _ _ _ _ _ hk) (setCells_size _ _ _ _) ⟨hb, hy⟩ rfl
  have hl := frC_len hok (ol g) (nw g)
  have := heap_setCells g 69 (0, 0) (b.map (Value.int .u8)) 1 w _ (h.pool.node g hg') (by simp [hb, hl])
  unfold Node
  rw [this]
  have e1 := set_bytes hok (ol g) (nw g) b
  rw [← e1]
  simp [hb]

set_option maxRecDepth 20000 in
set_option maxHeartbeats 4000000 in
theorem put1_any (h : PD w p d m e N Fd F D bs fr ol nw) (hops : D.ops ≤ 1000000000) (hs : D.since.length ≤ 1000000) (pg : Nat) (hpg : pg < D.n) (rp rg rb : Nat) (ab ao cap : Nat) (b : List Int)
    (hp : CellAt w rp (.pointer (some ⟨p, 0, none⟩)) 32) (hg : CellAt w rg (.int .i64 pg) 3) (hb : CellAt w rb (.slice (some ⟨ab, ao, none⟩) 256 cap) 38) (hbF : ¬ F rb) (hbl : b.length = 256) (hrow : Row w (some ⟨ab, ao, none⟩) cap b) (haF : ¬ F ab) :
    Calls Tryz.prog 54 #[.pointer (some ⟨rp, 0, none⟩), .pointer (some ⟨rg, 0, none⟩), .pointer (some ⟨rb, 0, none⟩)] w fun x w' => ∃ k, CEnd k x ∧ Put1R p d N F D (bs.map fr) pg b w k w' := by
  obtain ⟨p1, _⟩ := hp.at
  obtain ⟨g1, _⟩ := hg.at
  have hu := usePut_any h hops hs pg hpg
  have hrl := hb.lt
  have HB : Hid (CellAt w rb (.slice (some ⟨ab, ao, none⟩) 256 cap) 38) := hb
  have HRow : Hid (Row w (some ⟨ab, ao, none⟩) cap b) := hrow
  clear h hp hg hb hrow
  go_enter Tryz.func54, Tryz.ntmps54
  go_wp2_with fail
  refine hu.mono ?_
  clear hu
  rintro x w1 ⟨m1, e1, Fd1, F1, bs1, fr1, ol1, nw1, h1, hL, hst, hx⟩
  have hb1 : CellAt w1 rb (.slice (some ⟨ab, ao, none⟩) 256 cap) 38 := HB.out.keep (hst.1.block rb hrl hbF)
  rcases hx with ⟨hE, g, cs, rfl, rfl⟩ | ⟨hE, rfl⟩
  · have hgm : g ∈ cs ++ [g] := by simp
    have hgm' : g ∈ e1 :: (cs ++ [g]) := List.mem_cons_of_mem _ hgm
    have hgF : F1 g := h1.fp g (.inr (.inr hgm'))
    have hok := h1.pool.ok g hgm'
    have hrow1 : Row w1 (some ⟨ab, ao, none⟩) cap b := HRow.out.ch hst.1 (fun x hx => by cases hx; exact haF)
    have h2 := h1.setBytes hgm b hbl HRow.out.1
    obtain ⟨_, x2, _, _, _, xz⟩ := (h2.pool.node g hgm').at (h2.pool.ok g hgm')
    have hz2 := xz 257
    rw [upF_same] at x2
    have h3 := h2.setDirty hgm true
    have rL := load_a w1 ab ao (b.map (Value.int .u8)) (by simp [hbl]) (row_range hrow1)
    have rT : (Instr.arrayAt 67 (.slice (some ⟨ab, ao, none⟩) 256 cap)).run Tryz.prog w1 = .ok (.pointer (some ⟨ab, ao, none⟩)) w1 := by simp [Instr.arrayAt, run_underlying Tryz.underlying67]
    have rS := store_mid w1 g 1 _ 69 (b.map (Value.int .u8)) (h1.pool.node g hgm') (by simp [hbl]) (by simp [frC_len hok]) (one_cells b)
    have hlast : ptL D N (bs.map fr) pg b = (cs ++ [g]).map (upF (upF fr1 g { fr1 g with b := b }) g { upF fr1 g { fr1 g with b := b } g with dirty := true }) := by
      have hnd := h1.pool.apart.2.2.2.2.2
      unfold ptL
      rw [if_pos hE, ← hL, List.map_append, List.map_append, List.map_cons, List.map_nil, List.map_cons, List.map_nil, lastUp_snoc, upF_same, upF_same]
      congr 1
      refine List.map_congr_left (fun y hy => ?_)
      have hyg : y ≠ g := fun e2 => by
        rw [List.nodup_append] at hnd
        exact hnd.2.2 y hy g (by simp) e2
      rw [upF_other _ _ hyg, upF_other _ _ hyg]
    have hR : Put1R p d N F D (bs.map fr) pg b w 0 ((w1.setCells g 1 (b.map (Value.int .u8))).setCell ⟨g, 257, none⟩ (.bool true)) := by
      refine ⟨hE.symm, ⟨F1, ⟨Fd1, m1, e1, _, _, ol1, nw1, h3, hlast⟩, hst.2⟩, ?_⟩
      have hgo : w.heap.size ≤ g ∨ F g := by
        rcases hst.2 g hgF with e3 | e3
        · exact .inr e3
        · exact .inl e3
      exact (setCells_ch g _ _ _ _ hst.1 hgo).setCell (p := ⟨g, 257, none⟩) hgo _
    obtain ⟨q1, _⟩ := hb1.at
    have HR : Hid (Put1R p d N F D (bs.map fr) pg b w 0 ((w1.setCells g 1 (b.map (Value.int .u8))).setCell ⟨g, 257, none⟩ (.bool true))) := hR
    obtain ⟨w2, hw2⟩ : ∃ w2, w1.setCells g 1 (b.map (Value.int .u8)) = w2 := ⟨_, rfl⟩
    obtain ⟨ba, hba⟩ : ∃ ba, (b.map (Value.int .u8)).toArray = ba := ⟨_, rfl⟩
    rw [hw2] at rS HR x2 hz2
    rw [hba] at rL rS
    clear h1 h2 h3 hL hst hE xz hgm hgm' hb1 hlast hR hok hrow1 hw2 hba
    go_wp2
    go_end0
    exact ⟨0, .inl ⟨rfl, rfl⟩, HR.out⟩
  · obtain ⟨E, hEE⟩ : ∃ E, usE D N (bs.map fr) pg false = E := ⟨_, rfl⟩
    have hR : Put1R p d N F D (bs.map fr) pg b w E w1 := ⟨hEE.symm, ⟨F1, ⟨Fd1, m1, e1, bs1, fr1, ol1, nw1, h1, by unfold ptL; rw [if_neg hE, hL]⟩, hst.2⟩, hst.1⟩
    rw [hEE] at hE ⊢
    have HR : Hid (Put1R p d N F D (bs.map fr) pg b w E w1) := hR
    have HE : Hid (¬ E = 0) := hE
    clear h1 hL hst hb1 hR hE hEE
    unfold thrown
    go_wp2
    exact ⟨rfl, E, .inr ⟨HE.out, rfl⟩, HR.out⟩
end

section
variable {w : World} {p d N : Nat} {F : Nat → Prop} {D : Dv} {L : List Fr}

/-- What Pin answers. -/
def PinR (D : Dv) (N : Nat) (L : List Fr) (pg : Nat) (w : World) (x : Ending) (w' : World) : Prop :=
  (usE D N L pg true = 0 ∧ ∃ g c, x = .returned (.tuple #[.slice (some ⟨g, 0, none⟩) 256 c, .int .i64 0]) ∧ Own w.heap.size w' (.slice (some ⟨g, 0, none⟩) 256 c) (pnB D N L pg)) ∨ (¬ usE D N L pg true = 0 ∧ x = .returned (.tuple #[.slice none 0 0, .int .i64 (usE D N L pg true)]))

theorem cell_new (w : World) (v : Value) (t : TypeId) : CellAt (w.alloc (.cells #[v] t)) w.heap.size v t := heap_alloc_new w _
theorem CellAt.alloc {w : World} {q : Nat} {v : Value} {t : TypeId} (h : CellAt w q v t) (o : Obj) : CellAt (w.alloc o) q v t := h.keep (Below.heap_alloc _ _ _ h.lt)

set_option maxHeartbeats 4000000 in
theorem Pin_any (h : Pool w p d F D N L) (hops : D.ops ≤ 1000000000) (hs : D.since.length ≤ 1000000) (hpn : ∀ f ∈ L, f.pins ≤ 1000000) (pg : Nat) (hpg : pg < D.n) :
    Calls Tryz.prog 10 #[.pointer (some ⟨p, 0, none⟩), .int .i64 pg] w fun x w' => PinR D N L pg w x w' ∧ ∃ F', Pool w' p d F' (usD D N L pg true) N (pnL D N L pg) ∧ Step F F' w w' := by
  obtain ⟨Fd, m, e, bs, fr, ol, nw, h, rfl⟩ := h
  have hmf : ∀ (fn : Fn) (first cap : Array Value) (w : World), (Instr.makeFunc fn first cap).run Tryz.prog w = .ok (.func fn first cap) w := fun _ _ _ _ => rfl
  have hF := h.flt
  have hb0 : Below w.heap.size w (((w.alloc (.cells #[.pointer (some ⟨p, 0, none⟩)] 32)).alloc (.cells #[.int .i64 pg] 3)).alloc (.cells #[.slice none 0 0] 38)) := (((Below.refl _ w).alloc (Nat.le_refl _) _).alloc (by simp) _).alloc (by simp; omega) _
  have h0 := h.below hb0
  have k1 : CellAt (((w.alloc (.cells #[.pointer (some ⟨p, 0, none⟩)] 32)).alloc (.cells #[.int .i64 pg] 3)).alloc (.cells #[.slice none 0 0] 38)) w.heap.size (.pointer (some ⟨p, 0, none⟩)) 32 := ((cell_new _ _ _).alloc _).alloc _
  have k2 : CellAt (((w.alloc (.cells #[.pointer (some ⟨p, 0, none⟩)] 32)).alloc (.cells #[.int .i64 pg] 3)).alloc (.cells #[.slice none 0 0] 38)) (w.heap.size + 1) (.int .i64 pg) 3 := by
    have := (cell_new (w.alloc (.cells #[.pointer (some ⟨p, 0, none⟩)] 32)) (.int .i64 pg) 3).alloc (.cells #[.slice none 0 0] 38)
    simpa using this
  have k3 : CellAt (((w.alloc (.cells #[.pointer (some ⟨p, 0, none⟩)] 32)).alloc (.cells #[.int .i64 pg] 3)).alloc (.cells #[.slice none 0 0] 38)) (w.heap.size + 2) (.slice none 0 0) 38 := by
    have := cell_new ((w.alloc (.cells #[.pointer (some ⟨p, 0, none⟩)] 32)).alloc (.cells #[.int .i64 pg] 3)) (.slice none 0 0) 38
    simpa using this
  have hm := poolMade_any h0
  have hh := poolHas_any h0 pg
  rw [show hasB D pg = true by simp [hasB]; omega] at hh
  have hsz : (((w.alloc (.cells #[.pointer (some ⟨p, 0, none⟩)] 32)).alloc (.cells #[.int .i64 pg] 3)).alloc (.cells #[.slice none 0 0] 38)).heap.size = w.heap.size + 3 := by simp
  obtain ⟨W, hW⟩ : ∃ W, ((w.alloc (.cells #[.pointer (some ⟨p, 0, none⟩)] 32)).alloc (.cells #[.int .i64 pg] 3)).alloc (.cells #[.slice none 0 0] 38) = W := ⟨_, rfl⟩
  rw [hW] at hb0 h0 k1 k2 k3 hm hh hsz
  have hbe : Below W.heap.size W (W.alloc (.cells #[.int .i64 0] 26)) := (Below.refl _ W).alloc (Nat.le_refl _) _
  have hpin := pin1_any (h0.below hbe) hops hs hpn pg hpg w.heap.size (w.heap.size + 1) (w.heap.size + 2) (k1.alloc _) (k2.alloc _) (k3.alloc _) (fun e1 => by have := hF _ e1; omega)
  have hca := caught_Pin W #[.pointer (some ⟨w.heap.size, 0, none⟩), .pointer (some ⟨w.heap.size + 1, 0, none⟩), .pointer (some ⟨w.heap.size + 2, 0, none⟩)] (Pin1R p d N F D (bs.map fr) pg (w.heap.size + 2) (W.alloc (.cells #[.int .i64 0] 26))) (hpin.mono (by
    rintro x w1 ⟨k, hx, hr⟩
    refine ⟨k, hx, hr, (hr.2.2.1.block W.heap.size (by simp) (fun e1 => ?_)).trans (err_new W)⟩
    rcases e1 with e1 | e1
    · have := hF _ e1; omega
    · omega))
  have hfin : Calls Tryz.prog 42 #[.func (.func 43) #[] #[.pointer (some ⟨w.heap.size, 0, none⟩), .pointer (some ⟨w.heap.size + 1, 0, none⟩), .pointer (some ⟨w.heap.size + 2, 0, none⟩)]] W fun x w' => ∃ k a n c, x = .returned (.int .i64 k) ∧ CellAt w' (w.heap.size + 2) (.slice a n c) 38 ∧
      PinR D N (bs.map fr) pg w (.returned (.tuple #[.slice a n c, .int .i64 k])) (w'.setCell ⟨w.heap.size + 2, 0, none⟩ (.slice a n c)) ∧ ∃ F', Pool (w'.setCell ⟨w.heap.size + 2, 0, none⟩ (.slice a n c)) p d F' (usD D N (bs.map fr) pg true) N (pnL D N (bs.map fr) pg) ∧ Step F F' w (w'.setCell ⟨w.heap.size + 2, 0, none⟩ (.slice a n c)) := hca.mono (by
    rintro x w' ⟨k, w1, rfl, hr, he, rfl⟩
    obtain ⟨r1, ⟨F', r2, r3⟩, r4, r5⟩ := hr
    have hs1 : W.heap.size + 1 ≤ w1.heap.size := by have := r4.size; simpa using this
    have hother : ∀ j, j ≠ W.heap.size → (w1.setCell ⟨W.heap.size, 0, none⟩ (.int .i64 k)).heap[j]? = w1.heap[j]? := fun j hj => Below.heap_setCell w1 ⟨W.heap.size, 0, none⟩ _ j hj
    have hother2 : ∀ v j, j ≠ W.heap.size → j ≠ w.heap.size + 2 → ((w1.setCell ⟨W.heap.size, 0, none⟩ (.int .i64 k)).setCell ⟨w.heap.size + 2, 0, none⟩ v).heap[j]? = w1.heap[j]? := fun v j hj hj2 => (Below.heap_setCell _ ⟨w.heap.size + 2, 0, none⟩ v j hj2).trans (hother j hj)
    have hF' : ∀ j, F' j → j ≠ W.heap.size ∧ j ≠ w.heap.size + 2 := fun j hj => by
      rcases r3 j hj with e2 | e2
      · have := hF _ e2; omega
      · simp at e2; omega
    have hfin : ∀ v, ∃ F', Pool ((w1.setCell ⟨W.heap.size, 0, none⟩ (.int .i64 k)).setCell ⟨w.heap.size + 2, 0, none⟩ v) p d F' (usD D N (bs.map fr) pg true) N (pnL D N (bs.map fr) pg) ∧ Step F F' w ((w1.setCell ⟨W.heap.size, 0, none⟩ (.int .i64 k)).setCell ⟨w.heap.size + 2, 0, none⟩ v) := fun v => by
      refine ⟨F', r2.keep (by rw [size_setCell, size_setCell]; exact Nat.le_refl _) (fun j hj => hother2 v j (hF' j hj).1 (hF' j hj).2), ?_, fun j hj => ?_⟩
      · have c1 : Ch w.heap.size F w w1 := (Ch.of F hb0).trans (((Ch.of F hbe).mono (by omega) (fun _ _ e => e)).trans (r4.mono (by simp; omega) (fun j hj e1 => by
          rcases e1 with e1 | e1
          · exact e1
          · omega)))
        exact (c1.setCell (p := ⟨W.heap.size, 0, none⟩) (.inl (by show w.heap.size ≤ W.heap.size; omega)) _).setCell (p := ⟨w.heap.size + 2, 0, none⟩) (.inl (by show w.heap.size ≤ w.heap.size + 2; omega)) _
      · rcases r3 j hj with e3 | e3
        · exact .inl e3
        · exact .inr (by simp at e3; omega)
    rcases r5 with ⟨rfl, g, c, q1, q2⟩ | ⟨rk, q1⟩
    · have q3 := q1.keep (hother (w.heap.size + 2) (by omega))
      refine ⟨0, _, _, _, rfl, q3, .inl ⟨r1.symm, g, c, rfl, ?_⟩, hfin _⟩
      have lg := q2.lt2
      simp at lg
      exact owns_base (q2.kept (hother2 _ g (by omega) (by omega))) (fun j hj => by simp [Value.ownBlock] at hj; omega)
    · have q3 := q1.keep (hother (w.heap.size + 2) (by omega))
      exact ⟨k, _, _, _, rfl, q3, .inr ⟨by rw [← r1]; exact rk, by rw [r1]⟩, hfin _⟩)
  clear hca hpin h0 h k1 k2 k3 hF hbe hb0 hpn hsz
  rw [← hW] at hm hh hfin
  clear hW
  go_enter Tryz.func10, Tryz.ntmps10
  go_wp2_with (first | (go_at_call 40; refine hm.mono ?_; rintro x w' ⟨rfl, rfl⟩) | (go_at_call 41; refine hh.mono ?_; rintro x w' ⟨rfl, rfl⟩))
  refine hfin.mono ?_
  clear hfin hm hh
  rintro x w2 ⟨k, a, n, c, rfl, hcell, hres⟩
  obtain ⟨q1, q2⟩ := hcell.at
  have q3 := (hcell.set (.slice a n c)).at.1
  have HR : Hid (PinR D N (bs.map fr) pg w (.returned (.tuple #[.slice a n c, .int .i64 k])) (w2.setCell ⟨w.heap.size + 2, 0, none⟩ (.slice a n c)) ∧ ∃ F', Pool (w2.setCell ⟨w.heap.size + 2, 0, none⟩ (.slice a n c)) p d F' (usD D N (bs.map fr) pg true) N (pnL D N (bs.map fr) pg) ∧ Step F F' w (w2.setCell ⟨w.heap.size + 2, 0, none⟩ (.slice a n c))) := hres
  clear hres hcell
  go_wp2
  refine bodyPost_ret (v := .tuple #[.slice a n c, .int .i64 k]) (by simp [results, Tryz.results10, go_sem, q3]) rfl ?_
  exact HR.out
end
end Go.Proofs.YtojckbhbnalkeaaGreat.Oct
