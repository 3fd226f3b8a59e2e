/-
  The document's outcomes: what 'm.Out = append(m.Out, b...)' leaves.
-/
import Derived.Test.YtfbjjdjgijdlaaaNo
namespace Go.Proofs.Ytfbjjdjgijdlaaa.Oct
open Go.RowKit

theorem RD.outed {w : World} {q : Nat} {F : Nat → Prop} {D : Dv} (h : RD w q F D) (l : List Int) (ok : (outD D l).ok) :
    ∃ b0 n0 k0, w.cell? ⟨q, 3, none⟩ = some (.slice b0 n0 k0) ∧ w.frozen? ⟨q, 3, none⟩ = false ∧ OutAt w (.slice b0 n0 k0) D.out ∧ (Value.slice b0 n0 k0).ownBlock ≠ some q ∧ q < w.heap.size ∧ (∀ k, (Value.slice b0 n0 k0).ownBlock = some k → F k) ∧
      ∀ (w2 : World) (v : Value), OutAt w2 v (D.out ++ l) → w.grownBy w2 (Value.slice b0 n0 k0).ownBlock → (∀ k, v.ownBlock = some k → (Value.slice b0 n0 k0).ownBlock = some k ∨ w.heap.size ≤ k) →
        ∃ F', RD (w2.setCell ⟨q, 3, none⟩ v) q F' (outD D l) ∧ Step F F' w (w2.setCell ⟨q, 3, none⟩ v) := by
  obtain ⟨_, hF, P, v1, v2, vS, vO, s1, s2, sS, hc, hfo⟩ := h
  obtain ⟨_, _, _, c3, _, _, _, z⟩ := hc.at
  obtain ⟨b0, n0, k0, hv0⟩ := hc.oO.slice
  subst hv0
  have hq : q < w.heap.size := hF q (hfo q (.inl rfl))
  have hqO : (Value.slice b0 n0 k0).ownBlock ≠ some q := fun e => (hc.dO q e).2 rfl
  refine ⟨b0, n0, k0, c3, z 3, hc.oO, hqO, hq, fun k hk => hfo k (.inr (.inr (.inr (.inr (.inr hk))))), fun w2 v ho hgrow hat => ?_⟩
  have s2' := hgrow.size
  have lt : ∀ k, footR q P v1 v2 vS (.slice b0 n0 k0) k → k < w.heap.size := fun k hk => hF k (hfo k hk)
  have k2 : ∀ k, k < w.heap.size → (Value.slice b0 n0 k0).ownBlock ≠ some k → w2.heap[k]? = w.heap[k]? := fun k hk hne => hgrow.block k hk (fun e => hne e.symm)
  have k3 : ∀ k, k ≠ q → (w2.setCell ⟨q, 3, none⟩ v).heap[k]? = w2.heap[k]? := fun k hk => Below.heap_setCell w2 ⟨q, 3, none⟩ _ k hk
  have nv : ∀ k, k < w.heap.size → (Value.slice b0 n0 k0).ownBlock ≠ some k → v.ownBlock ≠ some k := fun k hk hne e => by
    rcases hat k e with e2 | e2
    · exact hne e2
    · omega
  have hcells : w2.heap[q]? = w.heap[q]? := k2 q hq hqO
  have l1 : ∀ g, v1.ownBlock = some g → g < w.heap.size := fun g hg => lt g (.inr (.inr (.inl hg)))
  have l2 : ∀ g, v2.ownBlock = some g → g < w.heap.size := fun g hg => lt g (.inr (.inr (.inr (.inl hg))))
  have lS : ∀ g, vS.ownBlock = some g → g < w.heap.size := fun g hg => lt g (.inr (.inr (.inr (.inr (.inl hg)))))
  have lP : ∀ g, P g → g < w.heap.size := fun g hg => lt g (.inr (.inl hg))
  have nP : ∀ g, P g → (Value.slice b0 n0 k0).ownBlock ≠ some g := fun g hg e => (hc.dO g e).1 hg
  have kP : ∀ g, P g → (w2.setCell ⟨q, 3, none⟩ v).heap[g]? = w.heap[g]? := fun g hg => (k3 g (fun e => hc.dq (e ▸ hg))).trans (k2 g (lP g hg) (nP g hg))
  have kk : ∀ g, g < w.heap.size → g ≠ q → (Value.slice b0 n0 k0).ownBlock ≠ some g → (w2.setCell ⟨q, 3, none⟩ v).heap[g]? = w.heap[g]? := fun g h1 h2 h3 => (k3 g h2).trans (k2 g h1 h3)
  refine ⟨fun k => F k ∨ w.heap.size ≤ k ∧ k < w2.heap.size, ⟨ok, fun k hk => ?_, P, v1, v2, vS, v, s1, s2, sS, ?_, fun k hk => ?_⟩, ?_, ?_⟩
  · rw [size_setCell]
    rcases hk with hk | hk
    · have := hF k hk; omega
    · exact hk.2
  · exact
    { cells := by rw [setCell_heap w2 q 3 v _ _ _ (hcells.trans hc.cells)]; rfl
      o1 := owns_keep hc.o1 (fun g hg => kk g (l1 g hg) (hc.d1 g hg).2.1 (hc.d1 g hg).2.2.2.2)
      o2 := owns_keep hc.o2 (fun g hg => kk g (l2 g hg) (hc.d2 g hg).2.1 (hc.d2 g hg).2.2.2)
      oS := owns_keep hc.oS (fun g hg => kk g (lS g hg) (hc.dS g hg).2.1 (hc.dS g hg).2.2)
      oO := ho.keep (fun k hk => k3 k (fun e => nv q hq hqO (e ▸ hk)))
      p1 := hc.p1.keep kP
      p2 := hc.p2.keep kP
      pS := hc.pS.keep kP
      f2 := hc.f2
      dq := hc.dq
      d1 := fun g hg => ⟨(hc.d1 g hg).1, (hc.d1 g hg).2.1, (hc.d1 g hg).2.2.1, (hc.d1 g hg).2.2.2.1, nv g (l1 g hg) (hc.d1 g hg).2.2.2.2⟩
      d2 := fun g hg => ⟨(hc.d2 g hg).1, (hc.d2 g hg).2.1, (hc.d2 g hg).2.2.1, nv g (l2 g hg) (hc.d2 g hg).2.2.2⟩
      dS := fun g hg => ⟨(hc.dS g hg).1, (hc.dS g hg).2.1, nv g (lS g hg) (hc.dS g hg).2.2⟩
      dO := fun g hg => by
        rcases hat g hg with e | e
        · exact hc.dO g e
        · exact ⟨fun hp => by have := lP g hp; omega, fun hp => by omega⟩ }
  · rcases hk with hk | hk | hk | hk | hk | hk
    · exact .inl (hfo k (.inl hk))
    · exact .inl (hfo k (.inr (.inl hk)))
    · exact .inl (hfo k (.inr (.inr (.inl hk))))
    · exact .inl (hfo k (.inr (.inr (.inr (.inl hk)))))
    · exact .inl (hfo k (.inr (.inr (.inr (.inr (.inl hk))))))
    · rcases hat k hk with e | e
      · exact .inl (hfo k (.inr (.inr (.inr (.inr (.inr e))))))
      · exact .inr ⟨e, ho.lt k hk⟩
  · exact ((Ch.refl _ F w).grown hgrow (Nat.le_refl _) (fun k hk => .inr (hfo k (.inr (.inr (.inr (.inr (.inr hk)))))))).setCell (p := ⟨q, 3, none⟩) (.inr (hfo q (.inl rfl))) _
  · intro k hk
    rcases hk with hk | hk
    · exact .inl hk
    · exact .inr hk.1

theorem step_append_out {w : World} {ops : Array Oper} {o : Oper} {a : Act} {K : Act → World → Prop} {Q : Exit → Act → World → Prop} {E : Prop} (hgd : o.guard = none) (s x : Operand)
    (ho : o.op = .call { callee := .builtin .append, args := #[s, x], argTypes := #[28, 28] })
    (v : Value) (zs ls : List Int) (hs : a.eval s = v) (hO : OutAt w v zs) (sa : Option Addr) (c : Nat) (hx : a.eval x = .slice sa ls.length c) (hl : Row w sa c ls) (hnil : sa = none → c = 0) (hsz : zs.length + ls.length ≤ 1000000)
    (h : ∀ b n k w', OutAt w' (.slice b n k) (zs ++ ls) → w.grownBy w' v.ownBlock → (∀ k', (Value.slice b n k).ownBlock = some k' → v.ownBlock = some k' ∨ w.heap.size ≤ k') → K (a.put o.dst (.slice b n k)) w') :
    if Region.wanted o (yielded ops a.tmps) = true then Oper.wp Try.prog o a w K Q else E := by
  have hw : Region.wanted o (yielded ops a.tmps) = true := by simp [Region.wanted, hgd]
  rw [if_pos hw]
  obtain ⟨v', w', hr, h1, h2, h3⟩ := append_out w v zs ls hO sa c hl hnil hsz o.type
  obtain ⟨b, n, k, rfl⟩ := h1.slice
  unfold Oper.wp
  simp [execOp, ho, resolve, invoke, builtin, hs, hx, hr, Result.andThen]
  exact h b n k w' h1 h2 h3

theorem row_ch0 {w w' : World} {a : Option Addr} {cap : Nat} {zs : List Int} (h : Row w a cap zs) {F : Nat → Prop} (k : Ch w.heap.size F w w') (hF : ∀ x, a = some x → 0 < zs.length → ¬ F x.block) : Row w' a cap zs := by
  by_cases h0 : 0 < zs.length
  · exact h.ch k (fun x hx => hF x hx h0)
  · have e : zs = [] := List.eq_nil_of_length_eq_zero (by omega)
    exact ⟨h.1, h.2.1, h.2.2.1, .inl e⟩
end Go.Proofs.Ytfbjjdjgijdlaaa.Oct
