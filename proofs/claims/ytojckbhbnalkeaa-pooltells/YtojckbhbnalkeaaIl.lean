/-
  pool: Pin and Put, what they do inside.
-/
import Derived.Test.YtojckbhbnalkeaaIk
namespace Go.Proofs.Ytojckbhbnalkeaa.Oct
open Go.RowKit
attribute [local go_sem ↓] loadA_eq storeA_eq

/-- The last frame has turned. -/
def lastUp (L : List Fr) (h : Fr → Fr) : List Fr := L.dropLast ++ [h (L.getLastD fr0)]

theorem lastUp_snoc (L : List Fr) (f : Fr) (h : Fr → Fr) : lastUp (L ++ [f]) h = L ++ [h f] := by
  simp [lastUp]

def pnL (D : Dv) (N : Nat) (L : List Fr) (pg : Nat) : List Fr := if usE D N L pg true = 0 then lastUp (usL D N L pg true) (fun f => { f with pins := f.pins + 1 }) else usL D N L pg true
def pnB (D : Dv) (N : Nat) (L : List Fr) (pg : Nat) : List Int := ((usL D N L pg true).getLastD fr0).b
def ptL (D : Dv) (N : Nat) (L : List Fr) (pg : Nat) (b : List Int) : List Fr := if usE D N L pg false = 0 then lastUp (usL D N L pg false) (fun f => { f with b := b, dirty := true }) else usL D N L pg false

/-- A cell that holds one value. -/
def CellAt (w : World) (q : Nat) (v : Value) (t : TypeId) : Prop := w.heap[q]? = some (.cells #[v] t (0, 0))

theorem CellAt.at {w : World} {q : Nat} {v : Value} {t : TypeId} (h : CellAt w q v t) : w.cell? ⟨q, 0, none⟩ = some v ∧ w.frozen? ⟨q, 0, none⟩ = false := by
  unfold CellAt at h
  refine ⟨?_, ?_⟩
  · rw [cell_of_row w q _ _ _ (0, 0) h]; rfl
  · unfold World.frozen?
    rw [h]
    simp
theorem CellAt.set {w : World} {q : Nat} {v : Value} {t : TypeId} (h : CellAt w q v t) (y : Value) : CellAt (w.setCell ⟨q, 0, none⟩ y) q y t := by
  unfold CellAt at h ⊢
  rw [setCell_heap w q 0 _ _ _ _ h]
  rfl
theorem CellAt.keep {w w' : World} {q : Nat} {v : Value} {t : TypeId} (h : CellAt w q v t) (k : w'.heap[q]? = w.heap[q]?) : CellAt w' q v t := k.trans h
theorem CellAt.lt {w : World} {q : Nat} {v : Value} {t : TypeId} (h : CellAt w q v t) : q < w.heap.size := heap_lt h

section
variable {w : World} {p d m e N : Nat} {Fd F : Nat → Prop} {D : Dv} {bs : List Nat} {fr : Nat → Fr} {ol nw : Nat → Nat}

theorem usePin_any (h : PD w p d m e N Fd F D bs fr ol nw) (hops : D.ops ≤ 1000000000) (hs : D.since.length ≤ 1000000) (pg : Nat) (hpg : pg < D.n) :
    Calls Try.prog 29 #[.pointer (some ⟨p, 0, none⟩), .int .i64 pg, .func (.func 40) #[.pointer (some ⟨p, 0, none⟩)] #[]] w fun x w' => UseEnd p d N F D (bs.map fr) pg true w x w' := by
  by_cases hf : fiP (bs.map fr) pg < bs.length
  · exact use_found h pg true _ hf
  · exact use_pin h hops hs pg hpg hf

theorem usePut_any (h : PD w p d m e N Fd F D bs fr ol nw) (hops : D.ops ≤ 1000000000) (hs : D.since.length ≤ 1000000) (pg : Nat) (hpg : pg < D.n) :
    Calls Try.prog 29 #[.pointer (some ⟨p, 0, none⟩), .int .i64 pg, .func (.func 30) #[] #[]] w fun x w' => UseEnd p d N F D (bs.map fr) pg false w x w' := by
  by_cases hf : fiP (bs.map fr) pg < bs.length
  · exact use_found h pg false _ hf
  · exact use_put h hops hs pg hpg hf

/-- The pins of what use leaves. -/
theorem usL_pins {B : Nat} {D : Dv} {N : Nat} {L : List Fr} {pg : Nat} {rd : Bool} (h : ∀ f ∈ L, f.pins ≤ B) : ∀ f ∈ usL D N L pg rd, f.pins ≤ B := by
  have ht : ∀ f ∈ tkL D N L, f ∈ L := fun f hf => by
    unfold tkL at hf
    split at hf
    · exact hf
    · split at hf
      · split at hf
        · exact List.mem_of_mem_eraseIdx hf
        · exact hf
      · exact hf
  intro f hf
  unfold usL at hf
  split at hf
  · rename_i hi
    rcases List.mem_append.1 hf with hf | hf
    · exact h f (List.mem_of_mem_eraseIdx hf)
    · simp at hf
      rw [hf, List.getElem?_eq_getElem hi, Option.getD_some]
      exact h _ (List.getElem_mem hi)
  · split at hf
    · rcases List.mem_append.1 hf with hf | hf
      · exact h f (ht f hf)
      · simp at hf
        rw [hf]; simp
    · exact h f (ht f hf)

/-- What Pin's inner function leaves. -/
def Pin1R (p d N : Nat) (F : Nat → Prop) (D : Dv) (L : List Fr) (pg rb : Nat) (w : World) (k : Int) (w' : World) : Prop :=
  k = usE D N L pg true ∧ (∃ F', Pool w' p d F' (usD D N L pg true) N (pnL D N L pg) ∧ ∀ j, F' j → F j ∨ w.heap.size ≤ j) ∧ Ch w.heap.size (fun j => F j ∨ j = rb) w w' ∧
  ((k = 0 ∧ ∃ g c, CellAt w' rb (.slice (some ⟨g, 0, none⟩) 256 c) 31 ∧ Own w.heap.size w' (.slice (some ⟨g, 0, none⟩) 256 c) (pnB D N L pg)) ∨ (¬ k = 0 ∧ CellAt w' rb (.slice none 0 0) 31))

set_option maxRecDepth 20000 in
set_option maxHeartbeats 4000000 in
theorem pin1_any (h : PD w p d m e N Fd F D bs fr ol nw) (hops : D.ops ≤ 1000000000) (hs : D.since.length ≤ 1000000) (hpn : ∀ f ∈ bs.map fr, f.pins ≤ 1000000) (pg : Nat) (hpg : pg < D.n) (rp rg rb : Nat)
    (hp : CellAt w rp (.pointer (some ⟨p, 0, none⟩)) 27) (hg : CellAt w rg (.int .i64 pg) 3) (hb : CellAt w rb (.slice none 0 0) 31) (hbF : ¬ F rb) :
    Calls Try.prog 39 #[.pointer (some ⟨rp, 0, none⟩), .pointer (some ⟨rg, 0, none⟩), .pointer (some ⟨rb, 0, none⟩)] w fun x w' => ∃ k, CEnd k x ∧ Pin1R p d N F D (bs.map fr) pg rb w k w' := by
  have hmf : ∀ (fn : Fn) (first cap : Array Value) (w : World), (Instr.makeFunc fn first cap).run Try.prog w = .ok (.func fn first cap) w := fun _ _ _ _ => rfl
  obtain ⟨p1, _⟩ := hp.at
  obtain ⟨g1, _⟩ := hg.at
  have hu := usePin_any h hops hs pg hpg
  have hrl := hb.lt
  have HB : Hid (CellAt w rb (.slice none 0 0) 31) := hb
  have HPN : Hid (∀ f ∈ bs.map fr, f.pins ≤ 1000000) := hpn
  clear h hp hg hb hpn
  go_enter Try.func39, Try.ntmps39
  go_wp2_with fail
  refine hu.mono ?_
  clear hu
  rintro x w1 ⟨m1, e1, Fd1, F1, bs1, fr1, ol1, nw1, h1, hL, hst, hx⟩
  have hb1 : CellAt w1 rb (.slice none 0 0) 31 := HB.out.keep (hst.1.block rb hrl hbF)
  rcases hx with ⟨hE, g, cs, rfl, rfl⟩ | ⟨hE, rfl⟩
  · have hgm : g ∈ cs ++ [g] := by simp
    have hgm' : g ∈ e1 :: (cs ++ [g]) := List.mem_cons_of_mem _ hgm
    have hgF : F1 g := h1.fp g (.inr (.inr hgm'))
    have hok := h1.pool.ok g hgm'
    obtain ⟨_, _, x2, _, _, xz⟩ := (h1.pool.node g hgm').at hok
    have hz2 := xz 258
    have hn : (fr1 g).pins ≤ 1000000 := by
      have := usL_pins (D := D) (N := N) (pg := pg) (rd := true) HPN.out (fr1 g)
      rw [← hL] at this
      exact this (List.mem_map_of_mem hgm)
    have h2 := h1.setPins hgm ((fr1 g).pins + 1)
    have hrow : Row (w1.setCell ⟨g, 258, none⟩ (.int .i64 ((fr1 g).pins + 1 : Nat))) (some ⟨g, 1, none⟩) 256 (fr1 g).b := by
      have := (h2.pool.node g hgm').row (h2.pool.ok g hgm')
      rw [upF_same] at this
      exact this
    have hcl := clone_some ⟨g, 1, none⟩ 256 (fr1 g).b _ hrow (by rw [hok.1]; decide)
    rw [hok.1] at hcl
    have hlast : pnL D N (bs.map fr) pg = (cs ++ [g]).map (upF fr1 g { fr1 g with pins := (fr1 g).pins + 1 }) := by
      have hnd := h1.pool.apart.2.2.2.2.2
      unfold pnL
      rw [if_pos hE, ← hL, List.map_append, List.map_append, List.map_cons, List.map_nil, List.map_cons, List.map_nil, lastUp_snoc, upF_same]
      congr 1
      refine List.map_congr_left (fun y hy => ?_)
      rw [upF_other _ _ (fun e2 => by
        rw [List.nodup_append] at hnd
        exact hnd.2.2 y hy g (by simp) e2)]
    have hbyt : pnB D N (bs.map fr) pg = (fr1 g).b := by
      unfold pnB
      rw [← hL, List.map_append, List.map_cons, List.map_nil]
      simp
    have hgrb : rb ≠ g := fun e2 => by
      rcases hst.2 g hgF with e3 | e3
      · exact hbF (e2 ▸ e3)
      · omega
    have hrl1 : rb < w1.heap.size := hb1.lt
    -- the end
    have hend : ∀ w3 gg c, Own (w1.setCell ⟨g, 258, none⟩ (.int .i64 ((fr1 g).pins + 1 : Nat))).heap.size w3 (.slice (some ⟨gg, 0, none⟩) 256 c) (fr1 g).b → Below (w1.setCell ⟨g, 258, none⟩ (.int .i64 ((fr1 g).pins + 1 : Nat))).heap.size (w1.setCell ⟨g, 258, none⟩ (.int .i64 ((fr1 g).pins + 1 : Nat))) w3 →
        (w3.cell? ⟨rb, 0, none⟩ = some (.slice none 0 0) ∧ w3.frozen? ⟨rb, 0, none⟩ = false) ∧ Pin1R p d N F D (bs.map fr) pg rb w 0 (w3.setCell ⟨rb, 0, none⟩ (.slice (some ⟨gg, 0, none⟩) 256 c)) := fun w3 gg c ho hbe => by
      have hsz : (w1.setCell ⟨g, 258, none⟩ (.int .i64 ((fr1 g).pins + 1 : Nat))).heap.size = w1.heap.size := size_setCell _ _ _
      have hb2 : CellAt (w1.setCell ⟨g, 258, none⟩ (.int .i64 ((fr1 g).pins + 1 : Nat))) rb (.slice none 0 0) 31 := hb1.keep (Below.heap_setCell w1 ⟨g, 258, none⟩ _ rb hgrb)
      have hb3 : CellAt w3 rb (.slice none 0 0) 31 := hb2.keep (hbe.block rb (by omega))
      have h3 := h2.below hbe
      have lgg := ho.lt2
      refine ⟨hb3.at, hE.symm, ⟨F1, ⟨Fd1, m1, e1, _, _, ol1, nw1, h3.keep (Nat.le_of_eq (size_setCell _ _ _).symm) (fun k hk => Below.heap_setCell w3 ⟨rb, 0, none⟩ _ k (fun e2 => ?_)), hlast⟩, hst.2⟩, ?_, .inl ⟨rfl, gg, c, hb3.set _, ?_⟩⟩
      · subst e2
        rcases hst.2 _ hk with e3 | e3
        · exact hbF e3
        · omega
      · have c1 : Ch w.heap.size (fun j => F j ∨ j = rb) w (w1.setCell ⟨g, 258, none⟩ (.int .i64 ((fr1 g).pins + 1 : Nat))) := (hst.1.mono (Nat.le_refl _) (fun _ _ e => .inl e)).setCell (p := ⟨g, 258, none⟩) (by
          rcases hst.2 g hgF with e3 | e3
          · exact .inr (.inl e3)
          · exact .inl e3) _
        exact (c1.trans ((Ch.of _ hbe).mono (by have := hst.1.size; omega) (fun _ _ e => e))).setCell (p := ⟨rb, 0, none⟩) (.inr (.inr rfl)) _
      · rw [hbyt]
        have := owns_base (ho.kept (w' := w3.setCell ⟨rb, 0, none⟩ (.slice (some ⟨gg, 0, none⟩) 256 c)) (Below.heap_setCell w3 ⟨rb, 0, none⟩ _ gg (fun e2 => by have e3 : gg = rb := e2; omega))) (base' := w.heap.size) (fun k hk => by simp [Value.ownBlock] at hk; have := hst.1.size; omega)
        exact this
    have HE : Hid _ := hend
    obtain ⟨zs, hzs⟩ : ∃ zs, (fr1 g).b = zs := ⟨_, rfl⟩
    obtain ⟨n, hnn⟩ : ∃ n, (fr1 g).pins = n := ⟨_, rfl⟩
    rw [hzs] at HE hcl
    rw [hnn] at HE hcl x2 hn
    rw [show ((n + 1 : Nat) : Int) = (n : Int) + 1 by omega] at HE hcl
    clear hend hzs hnn hlast hbyt hrow h2 hok h1 hL hst hE xz hgm hgm' hb1 HPN
    go_wp2_with fail
    refine hcl.mono ?_
    clear hcl
    rintro x w3 ⟨gg, c, rfl, ho, hbe⟩
    obtain ⟨⟨y1, y2⟩, hR⟩ := HE.out w3 gg c ho hbe
    have HR : Hid (Pin1R p d N F D (bs.map fr) pg rb w 0 (w3.setCell ⟨rb, 0, none⟩ (.slice (some ⟨gg, 0, none⟩) 256 c))) := hR
    clear HE ho hbe hR
    go_wp2
    go_end0
    exact ⟨0, .inl ⟨rfl, rfl⟩, HR.out⟩
  · obtain ⟨E, hEE⟩ : ∃ E, usE D N (bs.map fr) pg true = E := ⟨_, rfl⟩
    have hR : Pin1R p d N F D (bs.map fr) pg rb w E w1 := ⟨hEE.symm, ⟨F1, ⟨Fd1, m1, e1, bs1, fr1, ol1, nw1, h1, by unfold pnL; rw [if_neg hE, hL]⟩, hst.2⟩, hst.1.mono (Nat.le_refl _) (fun _ _ e => .inl e), .inr ⟨by rw [← hEE]; exact hE, hb1⟩⟩
    rw [hEE] at hE ⊢
    have HR : Hid (Pin1R p d N F D (bs.map fr) pg rb w E w1) := hR
    have HE : Hid (¬ E = 0) := hE
    clear h1 hL hst hb1 hR hE hEE HPN
    unfold thrown
    go_wp2
    exact ⟨rfl, E, .inr ⟨HE.out, rfl⟩, HR.out⟩
end
end Go.Proofs.Ytojckbhbnalkeaa.Oct
