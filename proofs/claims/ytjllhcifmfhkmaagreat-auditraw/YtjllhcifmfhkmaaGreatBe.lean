/-
  The document's walker: a piece that is taken.
-/
import Derived.Test.YtjllhcifmfhkmaaGreatBb
import Derived.BigRegion
namespace Go.Proofs.YtjllhcifmfhkmaaGreat.Oct
open Go.RowKit

section
variable {w w' : World} {p gk ck cP cT ic : Nat} {F : Nat → Prop} {ia aP aT : Option Addr} {L : List Int} {q : Nat → Value} {W : Wk}

/-- A piece more. -/
theorem RW.addPc (h : RW w p F ia ic L gk ck aP aT cP cT q W) (hn : 0 < W.kd.length) {w2 : World} {g2 cap2 : Nat} {x : C4} (hs : w.heap.size ≤ w2.heap.size) (hk : ∀ g, g < w.heap.size → ¬ obl aP g → w2.heap[g]? = w.heap[g]?)
    (ho : OwnC 72 0 w2 (.slice (some ⟨g2, 0, none⟩) (W.pc.length + 1) cap2) (W.pc ++ [x])) (hg : obl aP g2 ∨ w.heap.size ≤ g2) (hlt : g2 < w2.heap.size) :
    RW (w2.setCell ⟨p, 11, none⟩ (.slice (some ⟨g2, 0, none⟩) (W.pc.length + 1) cap2)) p (fun k => F k ∨ k = g2) ia ic L gk ck (some ⟨g2, 0, none⟩) aT cap2 cT q { W with pc := W.pc ++ [x] } := by
  have lp := h.lt p h.fp
  have lk := h.lt gk h.fk
  have hp : ¬ g2 = p := fun e => by rcases hg with hg | hg; exact h.pP (e ▸ hg); omega
  have hgk : ¬ g2 = gk := fun e => by rcases hg with hg | hg; exact h.kP (e ▸ hg); omega
  have hgT : ¬ obl aT g2 := fun e => by rcases hg with hg | hg; exact h.PT g2 hg e; have := h.lt g2 (h.fT g2 e); omega
  have k : ∀ g, ¬ g = p → (w2.setCell ⟨p, 11, none⟩ (.slice (some ⟨g2, 0, none⟩) (W.pc.length + 1) cap2)).heap[g]? = w2.heap[g]? := fun g hg => Below.heap_setCell w2 ⟨p, 11, none⟩ _ g hg
  have ob : ∀ y, obl (some ⟨g2, 0, none⟩) y → y = g2 := fun y ⟨x, e, hx⟩ => by cases e; exact hx.symm
  have hil := h.ilt hn
  refine { fp := .inl h.fp, fk := .inl h.fk, kb := h.kb, tb := h.tb, il := h.il, kl := h.kl, pk := h.pk, pT := h.pT, kT := h.kT, fT := fun k hk => .inl (h.fT k hk), lt := ?lt, fP := ?fP, cells := ?cells, kd := ?kd, pc := ?pc, tx := ?tx, img := ?img, inF := ?inF, pP := ?pP, kP := ?kP, PT := ?PT }
  case lt =>
    intro g hg; rw [size_setCell]; rcases hg with hg | rfl; have := h.lt g hg; omega; exact hlt
  case fP =>
    intro y hy; exact .inr (ob y hy)
  case cells =>
    rw [setCell_heap _ _ _ _ _ _ _ ((hk p lp h.pP).trans h.cells), List.length_append]; rfl
  case kd =>
    exact (h.kd.kept (hk gk lk h.kP)).kept (k gk (fun e => h.pk e.symm))
  case pc =>
    show OwnC _ _ _ (.slice _ (W.pc ++ [x]).length _) _
    rw [List.length_append]
    exact OwnC.keepO ho (fun g hg => k g (fun e => hp ((ob g hg).symm.trans e)))
  case tx =>
    exact (h.tx.keepO (fun g hg => hk g (h.lt g (h.fT g hg)) (fun e => h.PT g e hg))).keepO (fun g hg => k g (fun e => h.pT (e ▸ hg)))
  case img =>
    exact (h.img.keepO (fun g hg => hk g (hil g hg) (fun e => h.inF g hg (h.fP g e)))).keepO (fun g hg => k g (fun e => h.inF g hg (e ▸ h.fp)))
  case inF =>
    rintro y hy (hy2 | rfl)
    · exact h.inF y hy hy2
    · rcases hg with hg | hg
      · exact h.inF _ hy (h.fP _ hg)
      · have := hil _ hy; omega
  case pP =>
    exact fun e => hp (ob p e).symm
  case kP =>
    exact fun e => hgk (ob gk e).symm
  case PT =>
    intro y hy e
    rw [ob y hy] at e
    exact hgT e
/-- Bytes more. -/
theorem RW.addTx (h : RW w p F ia ic L gk ck aP aT cP cT q W) (hn : 0 < W.kd.length) {w2 : World} {g2 cap2 m : Nat} {z : List Int} (hz : Bys z) (hm : z.length = m) (hs : w.heap.size ≤ w2.heap.size) (hk : ∀ g, g < w.heap.size → ¬ obl aT g → w2.heap[g]? = w.heap[g]?)
    (ho : Own 0 w2 (.slice (some ⟨g2, 0, none⟩) (W.tx.length + m) cap2) (W.tx ++ z)) (hg : obl aT g2 ∨ w.heap.size ≤ g2) (hlt : g2 < w2.heap.size) :
    RW (w2.setCell ⟨p, 12, none⟩ (.slice (some ⟨g2, 0, none⟩) (W.tx.length + m) cap2)) p (fun k => F k ∨ k = g2) ia ic L gk ck aP (some ⟨g2, 0, none⟩) cP cap2 q { W with tx := W.tx ++ z } := by
  have lp := h.lt p h.fp
  have lk := h.lt gk h.fk
  have hp : ¬ g2 = p := fun e => by rcases hg with hg | hg; exact h.pT (e ▸ hg); omega
  have hgk : ¬ g2 = gk := fun e => by rcases hg with hg | hg; exact h.kT (e ▸ hg); omega
  have hgP : ¬ obl aP g2 := fun e => by rcases hg with hg | hg; exact h.PT g2 e hg; have := h.lt g2 (h.fP g2 e); omega
  have k : ∀ g, ¬ g = p → (w2.setCell ⟨p, 12, none⟩ (.slice (some ⟨g2, 0, none⟩) (W.tx.length + m) cap2)).heap[g]? = w2.heap[g]? := fun g hg => Below.heap_setCell w2 ⟨p, 12, none⟩ _ g hg
  have ob : ∀ y, obl (some ⟨g2, 0, none⟩) y → y = g2 := fun y ⟨x, e, hx⟩ => by cases e; exact hx.symm
  have hil := h.ilt hn
  subst hm
  refine { fp := .inl h.fp, fk := .inl h.fk, kb := h.kb, tb := h.tb.app hz, il := h.il, kl := h.kl, pk := h.pk, pP := h.pP, kP := h.kP, fP := fun k hk => .inl (h.fP k hk), lt := ?lt, fT := ?fT, cells := ?cells, kd := ?kd, pc := ?pc, tx := ?tx, img := ?img, inF := ?inF, pT := ?pT, kT := ?kT, PT := ?PT }
  case lt =>
    intro g hg; rw [size_setCell]; rcases hg with hg | rfl; have := h.lt g hg; omega; exact hlt
  case fT =>
    intro y hy; exact .inr (ob y hy)
  case cells =>
    rw [setCell_heap _ _ _ _ _ _ _ ((hk p lp h.pT).trans h.cells), List.length_append]; rfl
  case kd =>
    exact (h.kd.kept (hk gk lk h.kT)).kept (k gk (fun e => h.pk e.symm))
  case pc =>
    exact (h.pc.keepO (fun g hg => hk g (h.lt g (h.fP g hg)) (fun e => h.PT g hg e))).keepO (fun g hg => k g (fun e => h.pP (e ▸ hg)))
  case tx =>
    show Own _ _ (.slice _ (W.tx ++ z).length _) _
    rw [List.length_append]
    exact Own.keepO ho (fun g hg => k g (fun e => hp ((ob g hg).symm.trans e)))
  case img =>
    exact (h.img.keepO (fun g hg => hk g (hil g hg) (fun e => h.inF g hg (h.fT g e)))).keepO (fun g hg => k g (fun e => h.inF g hg (e ▸ h.fp)))
  case inF =>
    rintro y hy (hy2 | rfl)
    · exact h.inF y hy hy2
    · rcases hg with hg | hg
      · exact h.inF _ hy (h.fT _ hg)
      · have := hil _ hy; omega
  case pT =>
    exact fun e => hp (ob p e).symm
  case kT =>
    exact fun e => hgk (ob gk e).symm
  case PT =>
    intro y hy e
    rw [ob y e] at hy
    exact hgP hy
end
end Go.Proofs.YtjllhcifmfhkmaaGreat.Oct

/-
  The document's walker: a piece that is taken, walked.
-/
namespace Go.Proofs.YtjllhcifmfhkmaaGreat.Oct
open Go.RowKit

theorem own_obl {a : Option Addr} {n c k : Nat} (h : obl a k) : (Value.slice a n c).ownBlock = some k := by
  obtain ⟨x, rfl, rfl⟩ := h
  simp [Value.ownBlock]

section
variable {w w' : World} {p gk ck cP cT ic : Nat} {F : Nat → Prop} {ia aP aT : Option Addr} {L : List Int} {q : Nat → Value} {W : Wk}

/-- Behind an append to the pieces. -/
theorem RW.afterPc (h : RW w p F ia ic L gk ck aP aT cP cT q W) (hn : 0 < W.kd.length) (x : C4) {o : Obj} {w5 : World} {g2 cap2 : Nat} (ho : w5.ownsRow 0 72 4 (.slice (some ⟨g2, 0, none⟩) (W.pc.length + 1) cap2) (W.pc.length + 1) (W.pc.flatMap vals4 ++ vals4 x))
    (hgr : (w.alloc o).grownBy w5 (Value.slice aP W.pc.length cP).ownBlock) (hat : (Value.slice aP W.pc.length cP).ownBlock = some g2 ∨ g2 = w.heap.size + 1) (hlt : g2 < w5.heap.size) :
    (w5.cell? ⟨p, 11, none⟩ = some (.slice aP W.pc.length cP) ∧ w5.frozen? ⟨p, 11, none⟩ = false) ∧ RW (w5.setCell ⟨p, 11, none⟩ (.slice (some ⟨g2, 0, none⟩) (W.pc.length + 1) cap2)) p (fun k => F k ∨ k = g2) ia ic L gk ck (some ⟨g2, 0, none⟩) aT cap2 cT q { W with pc := W.pc ++ [x] } ∧
      Step F (fun k => F k ∨ k = g2) w (w5.setCell ⟨p, 11, none⟩ (.slice (some ⟨g2, 0, none⟩) (W.pc.length + 1) cap2)) := by
  have lp := h.lt p h.fp
  have hsz : w.heap.size ≤ w5.heap.size := by have := hgr.size; simp at this; omega
  have hk : ∀ g, g < w.heap.size → ¬ obl aP g → w5.heap[g]? = w.heap[g]? := fun g hg hne => (hgr.block g (by simp; omega) (fun e => hne (obl_own e.symm))).trans (Below.heap_alloc _ _ _ hg)
  have hp := hk p lp h.pP
  have hg : obl aP g2 ∨ w.heap.size ≤ g2 := by
    rcases hat with e | e
    · exact .inl (obl_own e)
    · exact .inr (by omega)
  have ho' : OwnC 72 0 w5 (.slice (some ⟨g2, 0, none⟩) (W.pc.length + 1) cap2) (W.pc ++ [x]) := by
    unfold OwnC
    rw [List.length_append, List.flatMap_append]
    simpa using ho
  have hR := h.addPc hn hsz hk ho' hg hlt
  refine ⟨⟨?_, ?_⟩, hR, ⟨⟨?_, ?_, ?_, by rw [size_setCell]; exact hsz, fun k hlt' hnf => ?_⟩, fun k hk' => ?_⟩⟩
  · exact (World.cell?_of_block (w := w) (a := ⟨p, 11, none⟩) hp).trans h.at.2.2.1
  · exact (World.frozen?_of_block (w := w) (a := ⟨p, 11, none⟩) hp).trans (h.frz 11)
  · exact hgr.os
  · exact hgr.tape
  · exact hgr.output
  · exact (Below.heap_setCell w5 ⟨p, 11, none⟩ _ k (fun e => hnf (e ▸ h.fp))).trans (hk k hlt' (fun e => hnf (h.fP k e)))
  · rcases hk' with hk' | rfl
    · exact .inl hk'
    · rcases hg with hg | hg
      · exact .inl (h.fP _ hg)
      · exact .inr hg
/-- Behind an append to the text. -/
theorem RW.afterTx (h : RW w p F ia ic L gk ck aP aT cP cT q W) (hn : 0 < W.kd.length) {z : List Int} {m : Nat} (hz : Bys z) (hm : z.length = m) {w5 : World} {g2 cap2 : Nat} (ho : w5.ownsRow 0 5 1 (.slice (some ⟨g2, 0, none⟩) (W.tx.length + m) cap2) (W.tx.length + m) (W.tx.map (Value.int .u8) ++ z.map (Value.int .u8)))
    (hgr : w.grownBy w5 (Value.slice aT W.tx.length cT).ownBlock) (hat : (Value.slice aT W.tx.length cT).ownBlock = some g2 ∨ g2 = w.heap.size) (hlt : g2 < w5.heap.size) :
    (w5.cell? ⟨p, 12, none⟩ = some (.slice aT W.tx.length cT) ∧ w5.frozen? ⟨p, 12, none⟩ = false) ∧ RW (w5.setCell ⟨p, 12, none⟩ (.slice (some ⟨g2, 0, none⟩) (W.tx.length + m) cap2)) p (fun k => F k ∨ k = g2) ia ic L gk ck aP (some ⟨g2, 0, none⟩) cP cap2 q { W with tx := W.tx ++ z } ∧
      Step F (fun k => F k ∨ k = g2) w (w5.setCell ⟨p, 12, none⟩ (.slice (some ⟨g2, 0, none⟩) (W.tx.length + m) cap2)) := by
  have lp := h.lt p h.fp
  have hsz : w.heap.size ≤ w5.heap.size := hgr.size
  have hk : ∀ g, g < w.heap.size → ¬ obl aT g → w5.heap[g]? = w.heap[g]? := fun g hg hne => hgr.block g hg (fun e => hne (obl_own e.symm))
  have hp := hk p lp h.pT
  have hg : obl aT g2 ∨ w.heap.size ≤ g2 := by
    rcases hat with e | e
    · exact .inl (obl_own e)
    · exact .inr (by omega)
  have ho' : Own 0 w5 (.slice (some ⟨g2, 0, none⟩) (W.tx.length + m) cap2) (W.tx ++ z) := by
    unfold Own
    rw [List.length_append, List.map_append, hm]
    exact ho
  have hR := h.addTx hn hz hm hsz hk ho' hg hlt
  refine ⟨⟨?_, ?_⟩, hR, ⟨⟨?_, ?_, ?_, by rw [size_setCell]; exact hsz, fun k hlt' hnf => ?_⟩, fun k hk' => ?_⟩⟩
  · exact (World.cell?_of_block (w := w) (a := ⟨p, 12, none⟩) hp).trans h.at.2.2.2.1
  · exact (World.frozen?_of_block (w := w) (a := ⟨p, 12, none⟩) hp).trans (h.frz 12)
  · exact hgr.os
  · exact hgr.tape
  · exact hgr.output
  · exact (Below.heap_setCell w5 ⟨p, 12, none⟩ _ k (fun e => hnf (e ▸ h.fp))).trans (hk k hlt' (fun e => hnf (h.fT k e)))
  · rcases hk' with hk' | rfl
    · exact .inl hk'
    · rcases hg with hg | hg
      · exact .inl (h.fT _ hg)
      · exact .inr hg
end

/-- Lines so far. -/
def lnJ (T : List Int) (B j : Nat) : Int := lin ((T.take j).drop B)
theorem lnJ_succ {T : List Int} {B j : Nat} (hB : B ≤ j) (hj : j < T.length) : lnJ T B (j + 1) = lnJ T B j + (if T.getD j 0 = 10 then 1 else 0) := by
  unfold lnJ
  rw [take_snoc T j hj, List.drop_append_of_le_length (by rw [List.length_take]; omega), lin_snoc]
theorem lnJ_zero (T : List Int) (B : Nat) : lnJ T B B = 0 := by
  unfold lnJ
  rw [List.drop_eq_nil_of_le (by rw [List.length_take]; omega)]
  rfl
theorem lnJ_bd (T : List Int) (B j : Nat) : 0 ≤ lnJ T B j ∧ lnJ T B j ≤ j := by
  have := lin_bd ((T.take j).drop B)
  unfold lnJ
  rw [List.length_drop, List.length_take] at this
  omega
theorem lnJ_all (T : List Int) (B C : Nat) : lnJ T B (B + C) = lin ((T.drop B).take C) := by
  unfold lnJ
  rw [List.drop_take, Nat.add_sub_cancel_left]
end Go.Proofs.YtjllhcifmfhkmaaGreat.Oct

/-
  The document's walker: a piece that is taken, each way.
-/
namespace Go.Proofs.YtjllhcifmfhkmaaGreat.Oct
open Go.RowKit

theorem wrap_in {z : Int} (h0 : -9223372036854775808 ≤ z) (h1 : z ≤ 9223372036854775807) : IntKind.i64.wrap z = z := by
  simp [IntKind.wrap, IntKind.signed, IntKind.bits]
  omega

section
variable {w w' : World} {p gk ck cP cT ic : Nat} {F : Nat → Prop} {ia aP aT : Option Addr} {L : List Int} {q : Nat → Value} {W : Wk}

set_option maxHeartbeats 2000000 in
set_option maxRecDepth 20000 in
theorem piece_00 (h : RW w p F ia ic L gk ck aP aT cP cT q W) (hbad : W.bad = false) (hok : WkOk W) (hk0 : 0 < W.kd.length) (x : C4) (hx : okC false x = true) (hk : kdB W x.a 120 = true) (ht : teE (pageOf L x.a.toNat) = 0 ∧ x.b + x.c ≤ ((teL (pageOf L x.a.toNat)).length : Int)) (hl : lin (seg (teL (pageOf L x.a.toNat)) x) = x.d) (hm : (W.tx ++ seg (teL (pageOf L x.a.toNat)) x).length ≤ 1048576) :
    Calls Tryz.prog 99 #[.pointer (some ⟨p, 0, none⟩), c4V x] w fun e w' => e = .returned (.tuple #[]) ∧ ∃ F' aP' aT' cP' cT', RW w' p F' ia ic L gk ck aP' aT' cP' cT' q ⟨W.kd.set x.a.toNat 120, W.pc ++ [x], W.tx ++ seg (teL (pageOf L x.a.toNat)) x, false⟩ ∧ Step F F' w w' := by
  obtain ⟨i0, hi0, hz0, hz1, hz2⟩ := info_parts infoP
  obtain ⟨j0, hj0, hy0, hy1, hy2⟩ := info_parts info5
  have hb := okC_bd hx
  have hb5 := hb.2.2.2.2 rfl
  obtain ⟨A, B, C, D⟩ := x
  simp only at hb hb5 hk ht hl hm ⊢
  obtain ⟨Bn, rfl⟩ := Int.eq_ofNat_of_zero_le hb.2.1.1
  obtain ⟨Cn, rfl⟩ := Int.eq_ofNat_of_zero_le (show 0 ≤ C by omega)
  have hp := page_yes (h.below hk0 (w' := w.alloc (.cells #[.int .i64 A, .int .i64 Bn, .int .i64 Cn, .int .i64 D] 72)) ((Below.refl _ w).alloc (Nat.le_refl _) _)) A 120 (by omega) hk
  have HF : Hid (∀ w2, Ch (w.alloc (.cells #[.int .i64 A, .int .i64 Bn, .int .i64 Cn, .int .i64 D] 72)).heap.size F (w.alloc (.cells #[.int .i64 A, .int .i64 Bn, .int .i64 Cn, .int .i64 D] 72)) w2 → ∀ j, w2.cell? ⟨w.heap.size, j, none⟩ = (w.alloc (.cells #[.int .i64 A, .int .i64 Bn, .int .i64 Cn, .int .i64 D] 72)).cell? ⟨w.heap.size, j, none⟩) := fun w2 hc j => h.fresh hc j
  have HB0 : Hid (∀ o, Below w.heap.size w (w.alloc o)) := fun o => (Below.refl _ w).alloc (Nat.le_refl _) o
  have HK : Hid (0 < W.kd.length) := hk0
  have HBAD : Hid (W.bad = false) := hbad
  have HFL : Hid (∀ k, F k → k < w.heap.size) := h.lt
  have hbP : W.pc.length ≤ 1048576 ∧ W.tx.length ≤ 1048576 := by have := hok.1; have := hok.2 hbad; omega
  unfold c4V
  obtain ⟨T, hT⟩ : ∃ T, teL (pageOf L A.toNat) = T := ⟨_, rfl⟩
  rw [hT] at ht hl hm ⊢
  have HT : Hid (teL (pageOf L A.toNat) = T ∧ teE (pageOf L A.toNat) = 0) := ⟨hT, ht.1⟩
  have htl : Bn + Cn ≤ T.length := by omega
  have hsg : seg T ⟨A, Bn, Cn, D⟩ = (T.drop Bn).take Cn := rfl
  rw [hsg] at hl hm ⊢
  obtain ⟨z, hz⟩ : ∃ z, (T.drop Bn).take Cn = z := ⟨_, rfl⟩
  have HZ : Hid ((T.drop Bn).take Cn = z) := hz
  have hzl : z.length = Cn := by rw [← hz]; simp; omega
  have HZL : Hid (z.length = Cn) := hzl
  rw [hz] at hl hm ⊢
  obtain ⟨ab, hab⟩ : ∃ ab, w.heap.size = ab := ⟨_, rfl⟩
  have HAB : Hid (w.heap.size = ab) := hab
  have HHL : Hid (lin z = D) := hl
  have HHM : Hid _ := hm
  clear h hx hk ht hbad hab hk0 hok hT hsg hz hl hm hzl
  go_enter Tryz.func99, Tryz.ntmps99
  go_wp2_with fail
  refine hp.mono ?_
  clear hp
  rintro e w1 ⟨⟨a', c', rfl, hr1, hl1, hobl⟩, h1, hc1⟩
  obtain ⟨-, -, -, -, c16⟩ := h1.at
  simp only [HBAD.out] at c16
  rw [HAB.out]
  have ls : ab < w1.heap.size := by have := hc1.size; simp at this; have := HAB.out; omega
  have f0 : w1.cell? ⟨ab, 0, none⟩ = some (.int .i64 A) := by rw [← HAB.out]; exact (HF.out w1 hc1 0).trans (by simp [go_sem])
  have f1 : w1.cell? ⟨ab, 1, none⟩ = some (.int .i64 Bn) := by rw [← HAB.out]; exact (HF.out w1 hc1 1).trans (by simp [go_sem])
  have f2 : w1.cell? ⟨ab, 2, none⟩ = some (.int .i64 Cn) := by rw [← HAB.out]; exact (HF.out w1 hc1 2).trans (by simp [go_sem])
  have f3 : w1.cell? ⟨ab, 3, none⟩ = some (.int .i64 D) := by rw [← HAB.out]; exact (HF.out w1 hc1 3).trans (by simp [go_sem])
  have H1 : Hid (RW w1 p F ia ic L gk ck aP aT cP cT q { W with kd := W.kd.set A.toNat 120 } ∧ Ch w.heap.size F w w1) := ⟨h1, (Ch.of F (HB0.out _)).trans (hc1.mono (by simp) (fun _ _ e => e))⟩
  have htx := rtext_f (some a') c' 256 (pageOf L A.toNat) w1 hr1 hl1 0 HT.out.2 T HT.out.1 _ rfl
  have hTb : T.length ≤ 248 := by rw [← HT.out.1]; exact teL_le hr1.1
  have lp : p < w1.heap.size := h1.lt p h1.fp
  clear h1 hc1 hr1 hl1 hobl HF HT
  go_wp2_with fail
  refine htx.mono ?_
  clear htx
  rintro e w2 ⟨g, c, rfl, -, hgl, hrT, hb2⟩
  have d16 := (hb2.cell (p := ⟨p, 16, none⟩) lp).trans c16
  have g0 := (hb2.cell (p := ⟨ab, 0, none⟩) ls).trans f0
  have g1 := (hb2.cell (p := ⟨ab, 1, none⟩) ls).trans f1
  have g2 := (hb2.cell (p := ⟨ab, 2, none⟩) ls).trans f2
  have g3 := (hb2.cell (p := ⟨ab, 3, none⟩) ls).trans f3
  have H2 : Hid (RW w2 p F ia ic L gk ck aP aT cP cT q { W with kd := W.kd.set A.toNat 120 } ∧ Ch w.heap.size F w w2) := ⟨H1.out.1.below (by show 0 < (W.kd.set _ _).length; rw [List.length_set]; exact HK.out) hb2, H1.out.2.trans (Ch.of F (hb2.mono H1.out.2.size))⟩
  obtain ⟨tb, tf, rfl⟩ := hrT.some' (by omega)
  have HRT : Hid (Row w2 (some ⟨tb, tf, none⟩) c T) := hrT
  have hcap := hrT.2.1
  have hcm := hrT.2.2.1
  unfold maxLen at hcm
  have HTB : Hid (w1.heap.size ≤ tb) := hgl _ rfl
  have lsb : Hid (ab < w2.heap.size) := Nat.lt_of_lt_of_le ls hb2.size
  have HW1 : Hid (ab < w1.heap.size) := ls
  clear hb2 H1 c16 f0 f1 f2 f3 hrT hgl
  obtain ⟨E, hE⟩ : ∃ E, Bn + Cn = E := ⟨_, rfl⟩
  have hEi : (Bn : Int) + (Cn : Int) = (E : Int) := by omega
  have hEl : E ≤ T.length := by omega
  have hBE : Bn ≤ E := by omega
  have HE : Hid (Bn + Cn = E) := hE
  clear hE
  go_wp2
  go_loopw [7, 8] (fun v i wr => ∃ j : Nat, Bn ≤ j ∧ j ≤ E ∧ i = .int .i64 j ∧ v = .int .i64 (lnJ T Bn j) ∧ w2 = wr) (fun _ i _ => E - (intOf i).toNat)
  case atStart => exact ⟨Bn, Nat.le_refl _, hBE, rfl, by rw [lnJ_zero], rfl⟩
  case round =>
    obtain ⟨j, hj1, hj2, rfl, rfl, rfl⟩ := hrel
    by_cases hlt : j < E
    · have e1 := HRT.out.cells j (by omega)
      have hsu := lnJ_succ hj1 (show j < T.length by omega)
      have hbd := lnJ_bd T Bn j
      obtain ⟨v, hv⟩ : ∃ v, lnJ T Bn j = v := ⟨_, rfl⟩
      obtain ⟨y, hy⟩ : ∃ y, T.getD j 0 = y := ⟨_, rfl⟩
      rw [hv] at hsu hbd ⊢
      rw [hy] at hsu e1
      have hj8 : j ≤ 248 := by omega
      have hjT : j < T.length := by omega
      by_cases e : y = 10
      · subst e
        have HS : Hid (lnJ T Bn (j + 1) = v + 1) := by show _ = _; rw [hsu, if_pos rfl]
        clear hsu hv hy
        go_wp2
        go_roundw
        case rel => exact ⟨j + 1, by omega, by omega, by go_num, by rw [HS.out], trivial⟩
        case measure => simp [intOf]; omega
      · have e' : (y == 10) = false := by simpa using e
        have HS : Hid (lnJ T Bn (j + 1) = v) := by show _ = _; rw [hsu, if_neg e]; omega
        clear hsu hv hy e
        go_wp2
        go_roundw
        case rel => exact ⟨j + 1, by omega, by omega, by go_num, by rw [HS.out], trivial⟩
        case measure => simp [intOf]; omega
    · have hj : j = E := by omega
      subst hj
      have HLn : Hid (lnJ T Bn j = lin z) := by show _ = _; rw [← HE.out, lnJ_all, HZ.out]
      rw [HLn.out]
      obtain ⟨v, hv⟩ : ∃ v, lin z = v := ⟨_, rfl⟩
      have hvD := HHL.out
      rw [hv] at hvD ⊢
      have z16 := H2.out.1.frz 16
      obtain ⟨-, -, m11, m12, -⟩ := H2.out.1.at
      simp only at m11 m12
      clear hv HLn
      subst hvD
      have H3 : Hid (RW w2 p F ia ic L gk ck aP aT cP cT q { W with kd := W.kd.set A.toNat 120 } ∧ Ch w.heap.size F w w2) := H2.out
      clear H2
      have HN3 : Hid (0 < (W.kd.set A.toNat 120).length) := by show 0 < _; rw [List.length_set]; exact HK.out
      have HAP : Hid (w2.ownsRow 0 72 4 (.slice aP W.pc.length cP) W.pc.length (W.pc.flatMap vals4)) := H3.out.1.pc
      have HFIN : Hid (∀ (w5 : World) (g5 cap5 : Nat) (o : Obj), w5.ownsRow 0 72 4 (.slice (some ⟨g5, 0, none⟩) (W.pc.length + 1) cap5) (W.pc.length + 1) (W.pc.flatMap vals4 ++ [.int .i64 A, .int .i64 Bn, .int .i64 Cn, .int .i64 v]) → (w2.alloc o).grownBy w5 (Value.slice aP W.pc.length cP).ownBlock → ((Value.slice aP W.pc.length cP).ownBlock = some g5 ∨ g5 = w2.heap.size + 1) → g5 < w5.heap.size →
          (w5.cell? ⟨p, 11, none⟩ = some (.slice aP W.pc.length cP) ∧ w5.frozen? ⟨p, 11, none⟩ = false) ∧ RW (w5.setCell ⟨p, 11, none⟩ (.slice (some ⟨g5, 0, none⟩) (W.pc.length + 1) cap5)) p (fun k => F k ∨ k = g5) ia ic L gk ck (some ⟨g5, 0, none⟩) aT cap5 cT q ⟨W.kd.set A.toNat 120, W.pc ++ [⟨A, Bn, Cn, v⟩], W.tx, W.bad⟩ ∧ Step F (fun k => F k ∨ k = g5) w2 (w5.setCell ⟨p, 11, none⟩ (.slice (some ⟨g5, 0, none⟩) (W.pc.length + 1) cap5))) := fun w5 g5 cap5 o h1 h2 h3 h4 => H3.out.1.afterPc HN3.out ⟨A, Bn, Cn, v⟩ h1 h2 h3 h4
      obtain ⟨nP, hnP⟩ : ∃ nP, W.pc.length = nP := ⟨_, rfl⟩
      have hnP1 : nP ≤ 1048576 := by omega
      rw [hnP] at m11 HAP HFIN
      clear hnP
      have lp2 : p < w2.heap.size := H3.out.1.lt p H3.out.1.fp
      have m11a : ∀ o, (w2.alloc o).cell? ⟨p, 11, none⟩ = some (.slice aP nP cP) := fun o => (World.cell?_alloc_lt _ _ _ lp2).trans m11
      go_wp2
      go_region_law ((refine step_append_lies _ (by rfl) (.tmp 67) (.tmp 69) 29 (by rfl) 0 72 i0 zero4 4 32 Tryz.underlying29 hi0 hz0 hz1 hz2 rfl (by omega) (.slice aP nP cP) nP (W.pc.flatMap vals4) (by rfl) (World.ownsRow.alloc HAP.out _) ⟨w2.heap.size, 0, none⟩ 1 1 [.int .i64 A, .int .i64 Bn, .int .i64 Cn, .int .i64 v] (by rfl) (by rfl) (World.news_of_block (heap_alloc_new w2 _)) (by simp [Value.oneCell']) (by omega) (by unfold maxLen; omega) (by omega) (by simp) (w2.heap.size + 1) (by simp) ?_; intro g5 cap5 w5 hown5 hgrow5 hat5 hlt5; obtain ⟨⟨r5, rz5⟩, hfin⟩ := HFIN.out w5 g5 cap5 _ hown5 ⟨hgrow5.os, hgrow5.tape, hgrow5.output, hgrow5.size, hgrow5.block⟩ hat5 hlt5; have HE5 : Hid _ := hfin; clear hown5 hgrow5 hat5 hlt5 hfin))
      all_goals
        obtain ⟨w6, hw6⟩ : ∃ w6, w5.setCell ⟨p, 11, none⟩ (.slice (some ⟨g5, 0, none⟩) (nP + 1) cap5) = w6 := ⟨_, rfl⟩
        rw [hw6] at HE5 ⊢
        have hnF : Hid (¬ F ab ∧ ¬ F tb) := ⟨fun e => by have := HFL.out ab e; have := HAB.out; omega, fun e => by have := HFL.out tb e; have := HAB.out; have := HTB.out; have := HW1.out; omega⟩
        have ltb : Hid (tb < w2.heap.size) := block_lt_of_cell (HRT.out.cells 0 (by omega))
        have k1 := (HE5.out.2.1.cell (p := ⟨ab, 1, none⟩) lsb.out hnF.out.1).trans g1
        have k2 := (HE5.out.2.1.cell (p := ⟨ab, 2, none⟩) lsb.out hnF.out.1).trans g2
        have HR6 : Hid (Row w6 (some ⟨tb, tf, none⟩) c T) := HRT.out.keepO (fun g hg => by obtain ⟨x, hx, rfl⟩ := hg; cases hx; exact HE5.out.2.1.block tb ltb.out hnF.out.2)
        obtain ⟨-, -, -, n12, n16⟩ := HE5.out.1.at
        have y16 := HE5.out.1.frz 16
        simp only at n12 n16
        have HZB : Hid (Bys z) := fun y hy => HRT.out.1 y (by rw [← HZ.out] at hy; exact List.mem_of_mem_drop (List.mem_of_mem_take hy))
        have HAT : Hid (w6.ownsRow 0 5 1 (.slice aT W.tx.length cT) W.tx.length (W.tx.map (Value.int .u8))) := HE5.out.1.tx
        have HNW : Hid (∀ (j : Nat) (u : Value), (z.map (Value.int .u8))[j]? = some u → w6.cell? ((⟨tb, tf + Bn, none⟩ : Addr).add j) = some u) := by
          intro j u hj
          have hlt : j < z.length := by
            rcases Nat.lt_or_ge j z.length with e | e
            · exact e
            · rw [List.getElem?_eq_none (by simpa using e)] at hj; cases hj
          have hzl := HZL.out
          have e1 := HR6.out.cells (Bn + j) (by omega)
          rw [show (⟨tb, tf + Bn, none⟩ : Addr).add j = ⟨tb, tf + (Bn + j), none⟩ by simp [Addr.add, Nat.add_assoc], e1, ← hj, List.getElem?_map, ← HZ.out, List.getElem?_take, if_pos (by omega), List.getElem?_drop, List.getD_eq_getElem?_getD, List.getElem?_eq_getElem (by omega)]
          rfl
        have HFT : Hid (∀ (w7 : World) (g7 cap7 : Nat), w7.ownsRow 0 5 1 (.slice (some ⟨g7, 0, none⟩) (W.tx.length + Cn) cap7) (W.tx.length + Cn) (W.tx.map (Value.int .u8) ++ z.map (Value.int .u8)) → w6.grownBy w7 (Value.slice aT W.tx.length cT).ownBlock → ((Value.slice aT W.tx.length cT).ownBlock = some g7 ∨ g7 = w6.heap.size) → g7 < w7.heap.size →
            (w7.cell? ⟨p, 12, none⟩ = some (.slice aT W.tx.length cT) ∧ w7.frozen? ⟨p, 12, none⟩ = false) ∧ RW (w7.setCell ⟨p, 12, none⟩ (.slice (some ⟨g7, 0, none⟩) (W.tx.length + Cn) cap7)) p (fun k => (F k ∨ k = g5) ∨ k = g7) ia ic L gk ck (some ⟨g5, 0, none⟩) (some ⟨g7, 0, none⟩) cap5 cap7 q ⟨W.kd.set A.toNat 120, W.pc ++ [⟨A, Bn, Cn, v⟩], W.tx ++ z, W.bad⟩ ∧ Step (fun k => F k ∨ k = g5) (fun k => (F k ∨ k = g5) ∨ k = g7) w6 (w7.setCell ⟨p, 12, none⟩ (.slice (some ⟨g7, 0, none⟩) (W.tx.length + Cn) cap7))) := fun w7 g7 cap7 h1 h2 h3 h4 => HE5.out.1.afterTx HN3.out HZB.out HZL.out h1 h2 h3 h4
        have HST : Hid (Step F (fun k => F k ∨ k = g5) w w6) := (Step.of H3.out.2).trans HE5.out.2
        have HA6 : Hid (ab < w6.heap.size ∧ ¬ obl aT ab) := ⟨Nat.lt_of_lt_of_le lsb.out HE5.out.2.1.size, fun e => hnF.out.1 (H3.out.1.fT ab e)⟩
        have hpab : p < ab := by have := HFL.out p H3.out.1.fp; have := HAB.out; omega
        have HMX : Hid (W.tx.length + Cn ≤ 1048576) := by have := HHM.out; have h2 := HZL.out; rw [List.length_append, h2] at this; exact this
        obtain ⟨nT, hnT⟩ : ∃ nT, W.tx.length = nT := ⟨_, rfl⟩
        have HNT : Hid (W.tx.length = nT) := hnT
        rw [hnT] at n12 HAT HFT HMX
        have hnT1 : nT ≤ 1048576 := by omega
        have hmx := HMX.out
        have hjc : j ≤ c := by omega
        have hwr : IntKind.i64.wrap (j : Int) = (j : Int) := wrap_in (by omega) (by omega)
        have hcB : ¬ c = Bn := by omega
        have hjB : j - Bn = Cn := by omega
        have hjBi : (j : Int) - (Bn : Int) = (Cn : Int) := by omega
        have hCz : (z.map (Value.int .u8)).length = Cn * 1 := by rw [List.length_map, HZL.out, Nat.mul_one]
        have HCZ : Hid ((z.map (Value.int .u8)).length = Cn * 1) := hCz
        have hc1 : 0 < Cn := by omega
        clear hnT hw6 HE5 r5 rz5 hCz m12 d16 g0 g1 g2 g3 m11 m11a z16
        go_wp2
        refine wp_region_held_drew (S := (fun w' => w'.cell? ⟨ab, 1, none⟩ = some (.int .i64 Bn) ∧ w'.cell? ⟨ab, 2, none⟩ = some (.int .i64 Cn))) (by kernel_rfl) ?_ (fun hHeld => ?_)
        · (first | go_keep | exact ⟨by assumption, by assumption⟩)
        refine wpAnyH_take (i := 0) (v := ?_) rfl (by kernel_rfl) (by kernel_rfl) (by kernel_rfl) (fun _ _ _ h => h) (Or.inl ⟨by rfl, ?_⟩) (by assumption) ?_
        rotate_left
        · (first | (intro w hSw; (try dsimp only at hSw); go_simp; done) | (intro w hSw; (try dsimp only at hSw); go_simp; with_reducible rfl))
        simp only [List.getElem_toArray, List.getElem_cons_zero, Act.put, List.setIfInBounds_toArray, List.set_cons_zero, List.set_cons_succ]
        refine wpAnyH_take (i := 1) (v := ?_) rfl (by kernel_rfl) (by kernel_rfl) (by kernel_rfl) (fun _ _ _ h => h) (Or.inl ⟨by rfl, ?_⟩) (by assumption) ?_
        rotate_left
        · (first | (intro w hSw; (try dsimp only at hSw); go_simp; done) | (intro w hSw; (try dsimp only at hSw); go_simp; with_reducible rfl))
        simp only [List.getElem_toArray, List.getElem_cons_succ, List.getElem_cons_zero, Act.put, List.setIfInBounds_toArray, List.set_cons_zero, List.set_cons_succ]
        refine wpAnyH_take (i := 2) (v := ?_) rfl (by kernel_rfl) (by kernel_rfl) (by kernel_rfl) (fun _ _ _ h => h) (Or.inl ⟨by rfl, ?_⟩) (by assumption) ?_
        rotate_left
        · (first | (intro w hSw; (try dsimp only at hSw); go_simp; done) | (intro w hSw; (try dsimp only at hSw); go_simp; with_reducible rfl))
        simp only [List.getElem_toArray, List.getElem_cons_succ, List.getElem_cons_zero, Act.put, List.setIfInBounds_toArray, List.set_cons_zero, List.set_cons_succ]
        refine wpAnyH_take (i := 3) (v := ?_) rfl (by kernel_rfl) (by kernel_rfl) (by kernel_rfl) (fun _ _ _ h => h) (Or.inl ⟨by rfl, ?_⟩) (by assumption) ?_
        rotate_left
        · (first | (intro w hSw; (try dsimp only at hSw); go_simp; done) | (intro w hSw; (try dsimp only at hSw); go_simp; with_reducible rfl))
        simp only [List.getElem_toArray, List.getElem_cons_succ, List.getElem_cons_zero, Act.put, List.setIfInBounds_toArray, List.set_cons_zero, List.set_cons_succ]
        refine wpAnyH_take (i := 4) (v := ?_) rfl (by kernel_rfl) (by kernel_rfl) (by kernel_rfl) (fun _ _ _ h => h) (Or.inl ⟨by rfl, ?_⟩) (by assumption) ?_
        rotate_left
        · (first | (intro w hSw; (try dsimp only at hSw); go_simp; done) | (intro w hSw; (try dsimp only at hSw); go_simp; with_reducible rfl))
        simp only [List.getElem_toArray, List.getElem_cons_succ, List.getElem_cons_zero, Act.put, List.setIfInBounds_toArray, List.set_cons_zero, List.set_cons_succ]
        refine wpAnyH_take (i := 6) (v := ?_) rfl (by kernel_rfl) (by kernel_rfl) (by kernel_rfl) (fun _ _ _ h => h) (Or.inl ⟨by rfl, ?_⟩) (by assumption) ?_
        rotate_left
        · (first | (intro w hSw; (try dsimp only at hSw); go_simp; done) | (intro w hSw; (try dsimp only at hSw); go_simp; with_reducible rfl))
        simp only [List.getElem_toArray, List.getElem_cons_succ, List.getElem_cons_zero, Act.put, List.setIfInBounds_toArray, List.set_cons_zero, List.set_cons_succ]
        refine wpAnyH_take (i := 7) (v := ?_) rfl (by kernel_rfl) (by kernel_rfl) (by kernel_rfl) (fun _ _ _ h => h) (Or.inl ⟨by rfl, ?_⟩) (by assumption) ?_
        rotate_left
        · (first | (intro w hSw; (try dsimp only at hSw); go_simp; done) | (intro w hSw; (try dsimp only at hSw); go_simp; with_reducible rfl))
        simp only [List.getElem_toArray, List.getElem_cons_succ, List.getElem_cons_zero, Act.put, List.setIfInBounds_toArray, List.set_cons_zero, List.set_cons_succ]
        refine wpAnyH_take (i := 8) (v := ?_) rfl (by kernel_rfl) (by kernel_rfl) (by kernel_rfl) (fun _ _ _ h => h) (Or.inl ⟨by rfl, ?_⟩) (by assumption) ?_
        rotate_left
        · (first | (intro w hSw; (try dsimp only at hSw); go_simp; done) | (intro w hSw; (try dsimp only at hSw); go_simp; with_reducible rfl))
        simp only [List.getElem_toArray, List.getElem_cons_succ, List.getElem_cons_zero, Act.put, List.setIfInBounds_toArray, List.set_cons_zero, List.set_cons_succ]
        refine wpAnyH_take (i := 9) (v := ?_) rfl (by kernel_rfl) (by kernel_rfl) (by kernel_rfl) (fun _ _ _ h => h) (Or.inl ⟨by rfl, ?_⟩) (by assumption) ?_
        rotate_left
        · (first | (intro w hSw; (try dsimp only at hSw); go_simp; done) | (intro w hSw; (try dsimp only at hSw); go_simp; with_reducible rfl))
        simp only [List.getElem_toArray, List.getElem_cons_succ, List.getElem_cons_zero, Act.put, List.setIfInBounds_toArray, List.set_cons_zero, List.set_cons_succ]
        refine wpAnyH_take (i := 10) (v := ?_) rfl (by kernel_rfl) (by kernel_rfl) (by kernel_rfl) (fun _ _ _ h => h) (Or.inl ⟨by rfl, ?_⟩) (by assumption) ?_
        rotate_left
        · (first | (intro w hSw; (try dsimp only at hSw); go_simp; done) | (intro w hSw; (try dsimp only at hSw); go_simp; with_reducible rfl))
        simp only [List.getElem_toArray, List.getElem_cons_succ, List.getElem_cons_zero, Act.put, List.setIfInBounds_toArray, List.set_cons_zero, List.set_cons_succ]
        refine wpAnyH_take (i := 11) (v := ?_) rfl (by kernel_rfl) (by kernel_rfl) (by kernel_rfl) (fun _ _ _ h => h) (Or.inl ⟨by rfl, ?_⟩) (by assumption) ?_
        rotate_left
        · (first | (intro w hSw; (try dsimp only at hSw); go_simp; done) | (intro w hSw; (try dsimp only at hSw); go_simp; with_reducible rfl))
        simp only [List.getElem_toArray, List.getElem_cons_succ, List.getElem_cons_zero, Act.put, List.setIfInBounds_toArray, List.set_cons_zero, List.set_cons_succ]
        refine wpAnyH_take (i := 12) (v := ?_) rfl (by kernel_rfl) (by kernel_rfl) (by kernel_rfl) (fun _ _ _ h => h) (Or.inl ⟨by rfl, ?_⟩) (by assumption) ?_
        rotate_left
        · (first | (intro w hSw; (try dsimp only at hSw); go_simp; done) | (intro w hSw; (try dsimp only at hSw); go_simp; with_reducible rfl))
        simp only [List.getElem_toArray, List.getElem_cons_succ, List.getElem_cons_zero, Act.put, List.setIfInBounds_toArray, List.set_cons_zero, List.set_cons_succ]
        refine wpAnyH_take (i := 13) (v := ?_) rfl (by kernel_rfl) (by kernel_rfl) (by kernel_rfl) (fun _ _ _ h => h) (Or.inl ⟨by rfl, ?_⟩) (by assumption) ?_
        rotate_left
        · (first | (intro w hSw; (try dsimp only at hSw); go_simp; done) | (intro w hSw; (try dsimp only at hSw); go_simp; with_reducible rfl))
        simp only [List.getElem_toArray, List.getElem_cons_succ, List.getElem_cons_zero, Act.put, List.setIfInBounds_toArray, List.set_cons_zero, List.set_cons_succ]
        refine wpAnyH_take (i := 14) (v := ?_) rfl (by kernel_rfl) (by kernel_rfl) (by kernel_rfl) (fun _ _ _ h => h) (Or.inl ⟨by rfl, ?_⟩) (by assumption) ?_
        rotate_left
        · (first | (intro w hSw; (try dsimp only at hSw); go_simp; done) | (intro w hSw; (try dsimp only at hSw); go_simp; with_reducible rfl))
        simp only [List.getElem_toArray, List.getElem_cons_succ, List.getElem_cons_zero, Act.put, List.setIfInBounds_toArray, List.set_cons_zero, List.set_cons_succ]
        refine wpAnyH_ready (rs := [5]) (by kernel_rfl) (by simp) ?_
        refine AllReadyH.cons rfl (fun K hK => ?_) AllReadyH.nil
        go_simp
        skip
        go_wp2_with fail
        refine hK.out _ _ ?_ (fun hHeld2 => ?_)
        · (first | go_keep | exact ⟨by assumption, by assumption⟩)
        clear hK K hHeld
        have hHeld := hHeld2
        clear hHeld2
        refine wpAnyH_ready (rs := [15]) (by kernel_rfl) (by simp) ?_
        refine AllReadyH.cons rfl (fun K hK => ?_) AllReadyH.nil
        (refine step_append_lies _ (by rfl) (.tmp 79) (.tmp 88) 30 (by rfl) 0 5 j0 (.int .u8 0) 1 1 Tryz.underlying30 hj0 hy0 hy1 hy2 rfl (by omega) (.slice aT nT cT) nT (W.tx.map (Value.int .u8)) (by rfl) HAT.out ⟨tb, tf + Bn, none⟩ Cn (c - Bn) (z.map (Value.int .u8)) (by rfl) HCZ.out HNW.out (one_cells z) hc1 (by unfold maxLen; omega) (by omega) (by simp) w6.heap.size (by rfl) ?_; intro g7 cap7 w7 hown7 hgrow7 hat7 hlt7; have e7 : w7.heap[ab]? = w6.heap[ab]? := hgrow7.block ab HA6.out.1 (fun e => HA6.out.2 (obl_own e.symm)); have q1 : w7.cell? ⟨ab, 1, none⟩ = some (.int .i64 Bn) := (World.cell?_of_block (w := w6) (a := ⟨ab, 1, none⟩) e7).trans k1; have q2 : w7.cell? ⟨ab, 2, none⟩ = some (.int .i64 Cn) := (World.cell?_of_block (w := w6) (a := ⟨ab, 2, none⟩) e7).trans k2; have s1 : (w7.setCell ⟨p, 12, none⟩ (.slice (some ⟨g7, 0, none⟩) (nT + Cn) cap7)).cell? ⟨ab, 1, none⟩ = some (.int .i64 Bn) := (World.cell?_setCell_other _ _ _ _ (by intro e; injection e with e1; omega)).trans q1; have s2 : (w7.setCell ⟨p, 12, none⟩ (.slice (some ⟨g7, 0, none⟩) (nT + Cn) cap7)).cell? ⟨ab, 2, none⟩ = some (.int .i64 Cn) := (World.cell?_setCell_other _ _ _ _ (by intro e; injection e with e1; omega)).trans q2; obtain ⟨⟨r7, rz7⟩, hfin⟩ := HFT.out w7 g7 cap7 hown7 ⟨hgrow7.os, hgrow7.tape, hgrow7.output, hgrow7.size, hgrow7.block⟩ hat7 hlt7; have HE7 : Hid _ := hfin; clear hown7 hgrow7 hat7 hlt7 hfin)
        simp only [List.getElem_toArray, List.getElem_cons_succ, List.getElem_cons_zero, Act.put, List.setIfInBounds_toArray, List.set_cons_zero, List.set_cons_succ]
        refine hK.out _ _ ?_ (fun hHeld2 => ?_)
        · (first | go_keep | exact ⟨by assumption, by assumption⟩)
        clear hK K hHeld
        have hHeld := hHeld2
        clear hHeld2
        refine wpAnyH_take (i := 16) (v := ?_) rfl (by kernel_rfl) (by kernel_rfl) (by kernel_rfl) (fun _ _ _ h => h) (Or.inl ⟨by rfl, ?_⟩) (by assumption) ?_
        rotate_left
        · (first | (intro w hSw; (try dsimp only at hSw); go_simp; done) | (intro w hSw; (try dsimp only at hSw); go_simp; with_reducible rfl))
        simp only [List.getElem_toArray, List.getElem_cons_succ, List.getElem_cons_zero, Act.put, List.setIfInBounds_toArray, List.set_cons_zero, List.set_cons_succ]
        refine wpAnyH_take (i := 17) (v := ?_) rfl (by kernel_rfl) (by kernel_rfl) (by kernel_rfl) (fun _ _ _ h => h) (Or.inl ⟨by rfl, ?_⟩) (by assumption) ?_
        rotate_left
        · (first | (intro w hSw; (try dsimp only at hSw); go_simp; done) | (intro w hSw; (try dsimp only at hSw); go_simp; with_reducible rfl))
        simp only [List.getElem_toArray, List.getElem_cons_succ, List.getElem_cons_zero, Act.put, List.setIfInBounds_toArray, List.set_cons_zero, List.set_cons_succ]
        refine wpAnyH_take (i := 18) (v := ?_) rfl (by kernel_rfl) (by kernel_rfl) (by kernel_rfl) (fun _ _ _ h => h) (Or.inl ⟨by rfl, ?_⟩) (by assumption) ?_
        rotate_left
        · (first | (intro w hSw; (try dsimp only at hSw); go_simp; done) | (intro w hSw; (try dsimp only at hSw); go_simp; with_reducible rfl))
        simp only [List.getElem_toArray, List.getElem_cons_succ, List.getElem_cons_zero, Act.put, List.setIfInBounds_toArray, List.set_cons_zero, List.set_cons_succ]
        refine wpAnyH_ready (rs := [19]) (by kernel_rfl) (by simp) ?_
        refine AllReadyH.cons rfl (fun K hK => ?_) AllReadyH.nil
        go_simp
        skip
        go_wp2_with fail
        refine hK.out _ _ ?_ (fun hHeld2 => ?_)
        · (first | go_keep | exact ⟨by assumption, by assumption⟩)
        clear hK K hHeld
        have hHeld := hHeld2
        clear hHeld2
        refine wpAnyH_done (by kernel_rfl) ?_ _
        obtain ⟨w8, hw8⟩ : ∃ w8, w7.setCell ⟨p, 12, none⟩ (.slice (some ⟨g7, 0, none⟩) (nT + Cn) cap7) = w8 := ⟨_, rfl⟩
        rw [hw8] at HE7 ⊢
        obtain ⟨-, -, -, o12, o16⟩ := HE7.out.1.at
        have x16 := HE7.out.1.frz 16
        simp only [List.length_append, HZL.out, HNT.out] at o12 o16
        have HS8 : Hid (Step F (fun k => (F k ∨ k = g5) ∨ k = g7) w w8) := HST.out.trans HE7.out.2
        clear hw8 r7 rz7 n12 n16 y16 k1 k2 hHeld q1 q2 s1 s2 e7
        go_wp2
        go_end0
        exact ⟨rfl, _, _, _, _, _, by have := HE7.out.1; rw [HBAD.out] at this; exact this, HS8.out⟩

set_option maxHeartbeats 2000000 in
set_option maxRecDepth 20000 in
theorem piece_01 (h : RW w p F ia ic L gk ck aP aT cP cT q W) (hbad : W.bad = false) (hok : WkOk W) (hk0 : 0 < W.kd.length) (x : C4) (hx : okC false x = true) (hk : kdB W x.a 120 = true) (ht : teE (pageOf L x.a.toNat) = 0 ∧ x.b + x.c ≤ ((teL (pageOf L x.a.toNat)).length : Int)) (hl : lin (seg (teL (pageOf L x.a.toNat)) x) = x.d) (hm : 1048576 < (W.tx ++ seg (teL (pageOf L x.a.toNat)) x).length) :
    Calls Tryz.prog 99 #[.pointer (some ⟨p, 0, none⟩), c4V x] w fun e w' => e = .returned (.tuple #[]) ∧ ∃ F' aP' aT' cP' cT', RW w' p F' ia ic L gk ck aP' aT' cP' cT' q ⟨W.kd.set x.a.toNat 120, W.pc ++ [x], W.tx ++ seg (teL (pageOf L x.a.toNat)) x, true⟩ ∧ Step F F' w w' := by
  obtain ⟨i0, hi0, hz0, hz1, hz2⟩ := info_parts infoP
  obtain ⟨j0, hj0, hy0, hy1, hy2⟩ := info_parts info5
  have hb := okC_bd hx
  have hb5 := hb.2.2.2.2 rfl
  obtain ⟨A, B, C, D⟩ := x
  simp only at hb hb5 hk ht hl hm ⊢
  obtain ⟨Bn, rfl⟩ := Int.eq_ofNat_of_zero_le hb.2.1.1
  obtain ⟨Cn, rfl⟩ := Int.eq_ofNat_of_zero_le (show 0 ≤ C by omega)
  have hp := page_yes (h.below hk0 (w' := w.alloc (.cells #[.int .i64 A, .int .i64 Bn, .int .i64 Cn, .int .i64 D] 72)) ((Below.refl _ w).alloc (Nat.le_refl _) _)) A 120 (by omega) hk
  have HF : Hid (∀ w2, Ch (w.alloc (.cells #[.int .i64 A, .int .i64 Bn, .int .i64 Cn, .int .i64 D] 72)).heap.size F (w.alloc (.cells #[.int .i64 A, .int .i64 Bn, .int .i64 Cn, .int .i64 D] 72)) w2 → ∀ j, w2.cell? ⟨w.heap.size, j, none⟩ = (w.alloc (.cells #[.int .i64 A, .int .i64 Bn, .int .i64 Cn, .int .i64 D] 72)).cell? ⟨w.heap.size, j, none⟩) := fun w2 hc j => h.fresh hc j
  have HB0 : Hid (∀ o, Below w.heap.size w (w.alloc o)) := fun o => (Below.refl _ w).alloc (Nat.le_refl _) o
  have HK : Hid (0 < W.kd.length) := hk0
  have HBAD : Hid (W.bad = false) := hbad
  have HFL : Hid (∀ k, F k → k < w.heap.size) := h.lt
  have hbP : W.pc.length ≤ 1048576 ∧ W.tx.length ≤ 1048576 := by have := hok.1; have := hok.2 hbad; omega
  unfold c4V
  obtain ⟨T, hT⟩ : ∃ T, teL (pageOf L A.toNat) = T := ⟨_, rfl⟩
  rw [hT] at ht hl hm ⊢
  have HT : Hid (teL (pageOf L A.toNat) = T ∧ teE (pageOf L A.toNat) = 0) := ⟨hT, ht.1⟩
  have htl : Bn + Cn ≤ T.length := by omega
  have hsg : seg T ⟨A, Bn, Cn, D⟩ = (T.drop Bn).take Cn := rfl
  rw [hsg] at hl hm ⊢
  obtain ⟨z, hz⟩ : ∃ z, (T.drop Bn).take Cn = z := ⟨_, rfl⟩
  have HZ : Hid ((T.drop Bn).take Cn = z) := hz
  have hzl : z.length = Cn := by rw [← hz]; simp; omega
  have HZL : Hid (z.length = Cn) := hzl
  rw [hz] at hl hm ⊢
  obtain ⟨ab, hab⟩ : ∃ ab, w.heap.size = ab := ⟨_, rfl⟩
  have HAB : Hid (w.heap.size = ab) := hab
  have HHL : Hid (lin z = D) := hl
  have HHM : Hid _ := hm
  clear h hx hk ht hbad hab hk0 hok hT hsg hz hl hm hzl
  go_enter Tryz.func99, Tryz.ntmps99
  go_wp2_with fail
  refine hp.mono ?_
  clear hp
  rintro e w1 ⟨⟨a', c', rfl, hr1, hl1, hobl⟩, h1, hc1⟩
  obtain ⟨-, -, -, -, c16⟩ := h1.at
  simp only [HBAD.out] at c16
  rw [HAB.out]
  have ls : ab < w1.heap.size := by have := hc1.size; simp at this; have := HAB.out; omega
  have f0 : w1.cell? ⟨ab, 0, none⟩ = some (.int .i64 A) := by rw [← HAB.out]; exact (HF.out w1 hc1 0).trans (by simp [go_sem])
  have f1 : w1.cell? ⟨ab, 1, none⟩ = some (.int .i64 Bn) := by rw [← HAB.out]; exact (HF.out w1 hc1 1).trans (by simp [go_sem])
  have f2 : w1.cell? ⟨ab, 2, none⟩ = some (.int .i64 Cn) := by rw [← HAB.out]; exact (HF.out w1 hc1 2).trans (by simp [go_sem])
  have f3 : w1.cell? ⟨ab, 3, none⟩ = some (.int .i64 D) := by rw [← HAB.out]; exact (HF.out w1 hc1 3).trans (by simp [go_sem])
  have H1 : Hid (RW w1 p F ia ic L gk ck aP aT cP cT q { W with kd := W.kd.set A.toNat 120 } ∧ Ch w.heap.size F w w1) := ⟨h1, (Ch.of F (HB0.out _)).trans (hc1.mono (by simp) (fun _ _ e => e))⟩
  have htx := rtext_f (some a') c' 256 (pageOf L A.toNat) w1 hr1 hl1 0 HT.out.2 T HT.out.1 _ rfl
  have hTb : T.length ≤ 248 := by rw [← HT.out.1]; exact teL_le hr1.1
  have lp : p < w1.heap.size := h1.lt p h1.fp
  clear h1 hc1 hr1 hl1 hobl HF HT
  go_wp2_with fail
  refine htx.mono ?_
  clear htx
  rintro e w2 ⟨g, c, rfl, -, hgl, hrT, hb2⟩
  have d16 := (hb2.cell (p := ⟨p, 16, none⟩) lp).trans c16
  have g0 := (hb2.cell (p := ⟨ab, 0, none⟩) ls).trans f0
  have g1 := (hb2.cell (p := ⟨ab, 1, none⟩) ls).trans f1
  have g2 := (hb2.cell (p := ⟨ab, 2, none⟩) ls).trans f2
  have g3 := (hb2.cell (p := ⟨ab, 3, none⟩) ls).trans f3
  have H2 : Hid (RW w2 p F ia ic L gk ck aP aT cP cT q { W with kd := W.kd.set A.toNat 120 } ∧ Ch w.heap.size F w w2) := ⟨H1.out.1.below (by show 0 < (W.kd.set _ _).length; rw [List.length_set]; exact HK.out) hb2, H1.out.2.trans (Ch.of F (hb2.mono H1.out.2.size))⟩
  obtain ⟨tb, tf, rfl⟩ := hrT.some' (by omega)
  have HRT : Hid (Row w2 (some ⟨tb, tf, none⟩) c T) := hrT
  have hcap := hrT.2.1
  have hcm := hrT.2.2.1
  unfold maxLen at hcm
  have HTB : Hid (w1.heap.size ≤ tb) := hgl _ rfl
  have lsb : Hid (ab < w2.heap.size) := Nat.lt_of_lt_of_le ls hb2.size
  have HW1 : Hid (ab < w1.heap.size) := ls
  clear hb2 H1 c16 f0 f1 f2 f3 hrT hgl
  obtain ⟨E, hE⟩ : ∃ E, Bn + Cn = E := ⟨_, rfl⟩
  have hEi : (Bn : Int) + (Cn : Int) = (E : Int) := by omega
  have hEl : E ≤ T.length := by omega
  have hBE : Bn ≤ E := by omega
  have HE : Hid (Bn + Cn = E) := hE
  clear hE
  go_wp2
  go_loopw [7, 8] (fun v i wr => ∃ j : Nat, Bn ≤ j ∧ j ≤ E ∧ i = .int .i64 j ∧ v = .int .i64 (lnJ T Bn j) ∧ w2 = wr) (fun _ i _ => E - (intOf i).toNat)
  case atStart => exact ⟨Bn, Nat.le_refl _, hBE, rfl, by rw [lnJ_zero], rfl⟩
  case round =>
    obtain ⟨j, hj1, hj2, rfl, rfl, rfl⟩ := hrel
    by_cases hlt : j < E
    · have e1 := HRT.out.cells j (by omega)
      have hsu := lnJ_succ hj1 (show j < T.length by omega)
      have hbd := lnJ_bd T Bn j
      obtain ⟨v, hv⟩ : ∃ v, lnJ T Bn j = v := ⟨_, rfl⟩
      obtain ⟨y, hy⟩ : ∃ y, T.getD j 0 = y := ⟨_, rfl⟩
      rw [hv] at hsu hbd ⊢
      rw [hy] at hsu e1
      have hj8 : j ≤ 248 := by omega
      have hjT : j < T.length := by omega
      by_cases e : y = 10
      · subst e
        have HS : Hid (lnJ T Bn (j + 1) = v + 1) := by show _ = _; rw [hsu, if_pos rfl]
        clear hsu hv hy
        go_wp2
        go_roundw
        case rel => exact ⟨j + 1, by omega, by omega, by go_num, by rw [HS.out], trivial⟩
        case measure => simp [intOf]; omega
      · have e' : (y == 10) = false := by simpa using e
        have HS : Hid (lnJ T Bn (j + 1) = v) := by show _ = _; rw [hsu, if_neg e]; omega
        clear hsu hv hy e
        go_wp2
        go_roundw
        case rel => exact ⟨j + 1, by omega, by omega, by go_num, by rw [HS.out], trivial⟩
        case measure => simp [intOf]; omega
    · have hj : j = E := by omega
      subst hj
      have HLn : Hid (lnJ T Bn j = lin z) := by show _ = _; rw [← HE.out, lnJ_all, HZ.out]
      rw [HLn.out]
      obtain ⟨v, hv⟩ : ∃ v, lin z = v := ⟨_, rfl⟩
      have hvD := HHL.out
      rw [hv] at hvD ⊢
      have z16 := H2.out.1.frz 16
      obtain ⟨-, -, m11, m12, -⟩ := H2.out.1.at
      simp only at m11 m12
      clear hv HLn
      subst hvD
      have H3 : Hid (RW w2 p F ia ic L gk ck aP aT cP cT q { W with kd := W.kd.set A.toNat 120 } ∧ Ch w.heap.size F w w2) := H2.out
      clear H2
      have HN3 : Hid (0 < (W.kd.set A.toNat 120).length) := by show 0 < _; rw [List.length_set]; exact HK.out
      have HAP : Hid (w2.ownsRow 0 72 4 (.slice aP W.pc.length cP) W.pc.length (W.pc.flatMap vals4)) := H3.out.1.pc
      have HFIN : Hid (∀ (w5 : World) (g5 cap5 : Nat) (o : Obj), w5.ownsRow 0 72 4 (.slice (some ⟨g5, 0, none⟩) (W.pc.length + 1) cap5) (W.pc.length + 1) (W.pc.flatMap vals4 ++ [.int .i64 A, .int .i64 Bn, .int .i64 Cn, .int .i64 v]) → (w2.alloc o).grownBy w5 (Value.slice aP W.pc.length cP).ownBlock → ((Value.slice aP W.pc.length cP).ownBlock = some g5 ∨ g5 = w2.heap.size + 1) → g5 < w5.heap.size →
          (w5.cell? ⟨p, 11, none⟩ = some (.slice aP W.pc.length cP) ∧ w5.frozen? ⟨p, 11, none⟩ = false) ∧ RW (w5.setCell ⟨p, 11, none⟩ (.slice (some ⟨g5, 0, none⟩) (W.pc.length + 1) cap5)) p (fun k => F k ∨ k = g5) ia ic L gk ck (some ⟨g5, 0, none⟩) aT cap5 cT q ⟨W.kd.set A.toNat 120, W.pc ++ [⟨A, Bn, Cn, v⟩], W.tx, W.bad⟩ ∧ Step F (fun k => F k ∨ k = g5) w2 (w5.setCell ⟨p, 11, none⟩ (.slice (some ⟨g5, 0, none⟩) (W.pc.length + 1) cap5))) := fun w5 g5 cap5 o h1 h2 h3 h4 => H3.out.1.afterPc HN3.out ⟨A, Bn, Cn, v⟩ h1 h2 h3 h4
      obtain ⟨nP, hnP⟩ : ∃ nP, W.pc.length = nP := ⟨_, rfl⟩
      have hnP1 : nP ≤ 1048576 := by omega
      rw [hnP] at m11 HAP HFIN
      clear hnP
      have lp2 : p < w2.heap.size := H3.out.1.lt p H3.out.1.fp
      have m11a : ∀ o, (w2.alloc o).cell? ⟨p, 11, none⟩ = some (.slice aP nP cP) := fun o => (World.cell?_alloc_lt _ _ _ lp2).trans m11
      go_wp2
      go_region_law ((refine step_append_lies _ (by rfl) (.tmp 67) (.tmp 69) 29 (by rfl) 0 72 i0 zero4 4 32 Tryz.underlying29 hi0 hz0 hz1 hz2 rfl (by omega) (.slice aP nP cP) nP (W.pc.flatMap vals4) (by rfl) (World.ownsRow.alloc HAP.out _) ⟨w2.heap.size, 0, none⟩ 1 1 [.int .i64 A, .int .i64 Bn, .int .i64 Cn, .int .i64 v] (by rfl) (by rfl) (World.news_of_block (heap_alloc_new w2 _)) (by simp [Value.oneCell']) (by omega) (by unfold maxLen; omega) (by omega) (by simp) (w2.heap.size + 1) (by simp) ?_; intro g5 cap5 w5 hown5 hgrow5 hat5 hlt5; obtain ⟨⟨r5, rz5⟩, hfin⟩ := HFIN.out w5 g5 cap5 _ hown5 ⟨hgrow5.os, hgrow5.tape, hgrow5.output, hgrow5.size, hgrow5.block⟩ hat5 hlt5; have HE5 : Hid _ := hfin; clear hown5 hgrow5 hat5 hlt5 hfin))
      all_goals
        obtain ⟨w6, hw6⟩ : ∃ w6, w5.setCell ⟨p, 11, none⟩ (.slice (some ⟨g5, 0, none⟩) (nP + 1) cap5) = w6 := ⟨_, rfl⟩
        rw [hw6] at HE5 ⊢
        have hnF : Hid (¬ F ab ∧ ¬ F tb) := ⟨fun e => by have := HFL.out ab e; have := HAB.out; omega, fun e => by have := HFL.out tb e; have := HAB.out; have := HTB.out; have := HW1.out; omega⟩
        have ltb : Hid (tb < w2.heap.size) := block_lt_of_cell (HRT.out.cells 0 (by omega))
        have k1 := (HE5.out.2.1.cell (p := ⟨ab, 1, none⟩) lsb.out hnF.out.1).trans g1
        have k2 := (HE5.out.2.1.cell (p := ⟨ab, 2, none⟩) lsb.out hnF.out.1).trans g2
        have HR6 : Hid (Row w6 (some ⟨tb, tf, none⟩) c T) := HRT.out.keepO (fun g hg => by obtain ⟨x, hx, rfl⟩ := hg; cases hx; exact HE5.out.2.1.block tb ltb.out hnF.out.2)
        obtain ⟨-, -, -, n12, n16⟩ := HE5.out.1.at
        have y16 := HE5.out.1.frz 16
        simp only at n12 n16
        have HZB : Hid (Bys z) := fun y hy => HRT.out.1 y (by rw [← HZ.out] at hy; exact List.mem_of_mem_drop (List.mem_of_mem_take hy))
        have HAT : Hid (w6.ownsRow 0 5 1 (.slice aT W.tx.length cT) W.tx.length (W.tx.map (Value.int .u8))) := HE5.out.1.tx
        have HNW : Hid (∀ (j : Nat) (u : Value), (z.map (Value.int .u8))[j]? = some u → w6.cell? ((⟨tb, tf + Bn, none⟩ : Addr).add j) = some u) := by
          intro j u hj
          have hlt : j < z.length := by
            rcases Nat.lt_or_ge j z.length with e | e
            · exact e
            · rw [List.getElem?_eq_none (by simpa using e)] at hj; cases hj
          have hzl := HZL.out
          have e1 := HR6.out.cells (Bn + j) (by omega)
          rw [show (⟨tb, tf + Bn, none⟩ : Addr).add j = ⟨tb, tf + (Bn + j), none⟩ by simp [Addr.add, Nat.add_assoc], e1, ← hj, List.getElem?_map, ← HZ.out, List.getElem?_take, if_pos (by omega), List.getElem?_drop, List.getD_eq_getElem?_getD, List.getElem?_eq_getElem (by omega)]
          rfl
        have HFT : Hid (∀ (w7 : World) (g7 cap7 : Nat), w7.ownsRow 0 5 1 (.slice (some ⟨g7, 0, none⟩) (W.tx.length + Cn) cap7) (W.tx.length + Cn) (W.tx.map (Value.int .u8) ++ z.map (Value.int .u8)) → w6.grownBy w7 (Value.slice aT W.tx.length cT).ownBlock → ((Value.slice aT W.tx.length cT).ownBlock = some g7 ∨ g7 = w6.heap.size) → g7 < w7.heap.size →
            (w7.cell? ⟨p, 12, none⟩ = some (.slice aT W.tx.length cT) ∧ w7.frozen? ⟨p, 12, none⟩ = false) ∧ RW (w7.setCell ⟨p, 12, none⟩ (.slice (some ⟨g7, 0, none⟩) (W.tx.length + Cn) cap7)) p (fun k => (F k ∨ k = g5) ∨ k = g7) ia ic L gk ck (some ⟨g5, 0, none⟩) (some ⟨g7, 0, none⟩) cap5 cap7 q ⟨W.kd.set A.toNat 120, W.pc ++ [⟨A, Bn, Cn, v⟩], W.tx ++ z, W.bad⟩ ∧ Step (fun k => F k ∨ k = g5) (fun k => (F k ∨ k = g5) ∨ k = g7) w6 (w7.setCell ⟨p, 12, none⟩ (.slice (some ⟨g7, 0, none⟩) (W.tx.length + Cn) cap7))) := fun w7 g7 cap7 h1 h2 h3 h4 => HE5.out.1.afterTx HN3.out HZB.out HZL.out h1 h2 h3 h4
        have HST : Hid (Step F (fun k => F k ∨ k = g5) w w6) := (Step.of H3.out.2).trans HE5.out.2
        have HA6 : Hid (ab < w6.heap.size ∧ ¬ obl aT ab) := ⟨Nat.lt_of_lt_of_le lsb.out HE5.out.2.1.size, fun e => hnF.out.1 (H3.out.1.fT ab e)⟩
        have hpab : p < ab := by have := HFL.out p H3.out.1.fp; have := HAB.out; omega
        have HMX : Hid (W.tx.length + Cn > 1048576) := by have := HHM.out; have h2 := HZL.out; rw [List.length_append, h2] at this; exact this
        obtain ⟨nT, hnT⟩ : ∃ nT, W.tx.length = nT := ⟨_, rfl⟩
        have HNT : Hid (W.tx.length = nT) := hnT
        rw [hnT] at n12 HAT HFT HMX
        have hnT1 : nT ≤ 1048576 := by omega
        have hmx := HMX.out
        have hjc : j ≤ c := by omega
        have hwr : IntKind.i64.wrap (j : Int) = (j : Int) := wrap_in (by omega) (by omega)
        have hcB : ¬ c = Bn := by omega
        have hjB : j - Bn = Cn := by omega
        have hjBi : (j : Int) - (Bn : Int) = (Cn : Int) := by omega
        have hCz : (z.map (Value.int .u8)).length = Cn * 1 := by rw [List.length_map, HZL.out, Nat.mul_one]
        have HCZ : Hid ((z.map (Value.int .u8)).length = Cn * 1) := hCz
        have hc1 : 0 < Cn := by omega
        clear hnT hw6 HE5 r5 rz5 hCz m12 d16 g0 g1 g2 g3 m11 m11a z16
        go_wp2
        refine wp_region_held_drew (S := (fun w' => w'.cell? ⟨ab, 1, none⟩ = some (.int .i64 Bn) ∧ w'.cell? ⟨ab, 2, none⟩ = some (.int .i64 Cn))) (by kernel_rfl) ?_ (fun hHeld => ?_)
        · (first | go_keep | exact ⟨by assumption, by assumption⟩)
        refine wpAnyH_take (i := 0) (v := ?_) rfl (by kernel_rfl) (by kernel_rfl) (by kernel_rfl) (fun _ _ _ h => h) (Or.inl ⟨by rfl, ?_⟩) (by assumption) ?_
        rotate_left
        · (first | (intro w hSw; (try dsimp only at hSw); go_simp; done) | (intro w hSw; (try dsimp only at hSw); go_simp; with_reducible rfl))
        simp only [List.getElem_toArray, List.getElem_cons_zero, Act.put, List.setIfInBounds_toArray, List.set_cons_zero, List.set_cons_succ]
        refine wpAnyH_take (i := 1) (v := ?_) rfl (by kernel_rfl) (by kernel_rfl) (by kernel_rfl) (fun _ _ _ h => h) (Or.inl ⟨by rfl, ?_⟩) (by assumption) ?_
        rotate_left
        · (first | (intro w hSw; (try dsimp only at hSw); go_simp; done) | (intro w hSw; (try dsimp only at hSw); go_simp; with_reducible rfl))
        simp only [List.getElem_toArray, List.getElem_cons_succ, List.getElem_cons_zero, Act.put, List.setIfInBounds_toArray, List.set_cons_zero, List.set_cons_succ]
        refine wpAnyH_take (i := 2) (v := ?_) rfl (by kernel_rfl) (by kernel_rfl) (by kernel_rfl) (fun _ _ _ h => h) (Or.inl ⟨by rfl, ?_⟩) (by assumption) ?_
        rotate_left
        · (first | (intro w hSw; (try dsimp only at hSw); go_simp; done) | (intro w hSw; (try dsimp only at hSw); go_simp; with_reducible rfl))
        simp only [List.getElem_toArray, List.getElem_cons_succ, List.getElem_cons_zero, Act.put, List.setIfInBounds_toArray, List.set_cons_zero, List.set_cons_succ]
        refine wpAnyH_take (i := 3) (v := ?_) rfl (by kernel_rfl) (by kernel_rfl) (by kernel_rfl) (fun _ _ _ h => h) (Or.inl ⟨by rfl, ?_⟩) (by assumption) ?_
        rotate_left
        · (first | (intro w hSw; (try dsimp only at hSw); go_simp; done) | (intro w hSw; (try dsimp only at hSw); go_simp; with_reducible rfl))
        simp only [List.getElem_toArray, List.getElem_cons_succ, List.getElem_cons_zero, Act.put, List.setIfInBounds_toArray, List.set_cons_zero, List.set_cons_succ]
        refine wpAnyH_take (i := 4) (v := ?_) rfl (by kernel_rfl) (by kernel_rfl) (by kernel_rfl) (fun _ _ _ h => h) (Or.inl ⟨by rfl, ?_⟩) (by assumption) ?_
        rotate_left
        · (first | (intro w hSw; (try dsimp only at hSw); go_simp; done) | (intro w hSw; (try dsimp only at hSw); go_simp; with_reducible rfl))
        simp only [List.getElem_toArray, List.getElem_cons_succ, List.getElem_cons_zero, Act.put, List.setIfInBounds_toArray, List.set_cons_zero, List.set_cons_succ]
        refine wpAnyH_take (i := 6) (v := ?_) rfl (by kernel_rfl) (by kernel_rfl) (by kernel_rfl) (fun _ _ _ h => h) (Or.inl ⟨by rfl, ?_⟩) (by assumption) ?_
        rotate_left
        · (first | (intro w hSw; (try dsimp only at hSw); go_simp; done) | (intro w hSw; (try dsimp only at hSw); go_simp; with_reducible rfl))
        simp only [List.getElem_toArray, List.getElem_cons_succ, List.getElem_cons_zero, Act.put, List.setIfInBounds_toArray, List.set_cons_zero, List.set_cons_succ]
        refine wpAnyH_take (i := 7) (v := ?_) rfl (by kernel_rfl) (by kernel_rfl) (by kernel_rfl) (fun _ _ _ h => h) (Or.inl ⟨by rfl, ?_⟩) (by assumption) ?_
        rotate_left
        · (first | (intro w hSw; (try dsimp only at hSw); go_simp; done) | (intro w hSw; (try dsimp only at hSw); go_simp; with_reducible rfl))
        simp only [List.getElem_toArray, List.getElem_cons_succ, List.getElem_cons_zero, Act.put, List.setIfInBounds_toArray, List.set_cons_zero, List.set_cons_succ]
        refine wpAnyH_take (i := 8) (v := ?_) rfl (by kernel_rfl) (by kernel_rfl) (by kernel_rfl) (fun _ _ _ h => h) (Or.inl ⟨by rfl, ?_⟩) (by assumption) ?_
        rotate_left
        · (first | (intro w hSw; (try dsimp only at hSw); go_simp; done) | (intro w hSw; (try dsimp only at hSw); go_simp; with_reducible rfl))
        simp only [List.getElem_toArray, List.getElem_cons_succ, List.getElem_cons_zero, Act.put, List.setIfInBounds_toArray, List.set_cons_zero, List.set_cons_succ]
        refine wpAnyH_take (i := 9) (v := ?_) rfl (by kernel_rfl) (by kernel_rfl) (by kernel_rfl) (fun _ _ _ h => h) (Or.inl ⟨by rfl, ?_⟩) (by assumption) ?_
        rotate_left
        · (first | (intro w hSw; (try dsimp only at hSw); go_simp; done) | (intro w hSw; (try dsimp only at hSw); go_simp; with_reducible rfl))
        simp only [List.getElem_toArray, List.getElem_cons_succ, List.getElem_cons_zero, Act.put, List.setIfInBounds_toArray, List.set_cons_zero, List.set_cons_succ]
        refine wpAnyH_take (i := 10) (v := ?_) rfl (by kernel_rfl) (by kernel_rfl) (by kernel_rfl) (fun _ _ _ h => h) (Or.inl ⟨by rfl, ?_⟩) (by assumption) ?_
        rotate_left
        · (first | (intro w hSw; (try dsimp only at hSw); go_simp; done) | (intro w hSw; (try dsimp only at hSw); go_simp; with_reducible rfl))
        simp only [List.getElem_toArray, List.getElem_cons_succ, List.getElem_cons_zero, Act.put, List.setIfInBounds_toArray, List.set_cons_zero, List.set_cons_succ]
        refine wpAnyH_take (i := 11) (v := ?_) rfl (by kernel_rfl) (by kernel_rfl) (by kernel_rfl) (fun _ _ _ h => h) (Or.inl ⟨by rfl, ?_⟩) (by assumption) ?_
        rotate_left
        · (first | (intro w hSw; (try dsimp only at hSw); go_simp; done) | (intro w hSw; (try dsimp only at hSw); go_simp; with_reducible rfl))
        simp only [List.getElem_toArray, List.getElem_cons_succ, List.getElem_cons_zero, Act.put, List.setIfInBounds_toArray, List.set_cons_zero, List.set_cons_succ]
        refine wpAnyH_take (i := 12) (v := ?_) rfl (by kernel_rfl) (by kernel_rfl) (by kernel_rfl) (fun _ _ _ h => h) (Or.inl ⟨by rfl, ?_⟩) (by assumption) ?_
        rotate_left
        · (first | (intro w hSw; (try dsimp only at hSw); go_simp; done) | (intro w hSw; (try dsimp only at hSw); go_simp; with_reducible rfl))
        simp only [List.getElem_toArray, List.getElem_cons_succ, List.getElem_cons_zero, Act.put, List.setIfInBounds_toArray, List.set_cons_zero, List.set_cons_succ]
        refine wpAnyH_take (i := 13) (v := ?_) rfl (by kernel_rfl) (by kernel_rfl) (by kernel_rfl) (fun _ _ _ h => h) (Or.inl ⟨by rfl, ?_⟩) (by assumption) ?_
        rotate_left
        · (first | (intro w hSw; (try dsimp only at hSw); go_simp; done) | (intro w hSw; (try dsimp only at hSw); go_simp; with_reducible rfl))
        simp only [List.getElem_toArray, List.getElem_cons_succ, List.getElem_cons_zero, Act.put, List.setIfInBounds_toArray, List.set_cons_zero, List.set_cons_succ]
        refine wpAnyH_take (i := 14) (v := ?_) rfl (by kernel_rfl) (by kernel_rfl) (by kernel_rfl) (fun _ _ _ h => h) (Or.inl ⟨by rfl, ?_⟩) (by assumption) ?_
        rotate_left
        · (first | (intro w hSw; (try dsimp only at hSw); go_simp; done) | (intro w hSw; (try dsimp only at hSw); go_simp; with_reducible rfl))
        simp only [List.getElem_toArray, List.getElem_cons_succ, List.getElem_cons_zero, Act.put, List.setIfInBounds_toArray, List.set_cons_zero, List.set_cons_succ]
        refine wpAnyH_ready (rs := [5]) (by kernel_rfl) (by simp) ?_
        refine AllReadyH.cons rfl (fun K hK => ?_) AllReadyH.nil
        go_simp
        skip
        go_wp2_with fail
        refine hK.out _ _ ?_ (fun hHeld2 => ?_)
        · (first | go_keep | exact ⟨by assumption, by assumption⟩)
        clear hK K hHeld
        have hHeld := hHeld2
        clear hHeld2
        refine wpAnyH_ready (rs := [15]) (by kernel_rfl) (by simp) ?_
        refine AllReadyH.cons rfl (fun K hK => ?_) AllReadyH.nil
        (refine step_append_lies _ (by rfl) (.tmp 79) (.tmp 88) 30 (by rfl) 0 5 j0 (.int .u8 0) 1 1 Tryz.underlying30 hj0 hy0 hy1 hy2 rfl (by omega) (.slice aT nT cT) nT (W.tx.map (Value.int .u8)) (by rfl) HAT.out ⟨tb, tf + Bn, none⟩ Cn (c - Bn) (z.map (Value.int .u8)) (by rfl) HCZ.out HNW.out (one_cells z) hc1 (by unfold maxLen; omega) (by omega) (by simp) w6.heap.size (by rfl) ?_; intro g7 cap7 w7 hown7 hgrow7 hat7 hlt7; have e7 : w7.heap[ab]? = w6.heap[ab]? := hgrow7.block ab HA6.out.1 (fun e => HA6.out.2 (obl_own e.symm)); have q1 : w7.cell? ⟨ab, 1, none⟩ = some (.int .i64 Bn) := (World.cell?_of_block (w := w6) (a := ⟨ab, 1, none⟩) e7).trans k1; have q2 : w7.cell? ⟨ab, 2, none⟩ = some (.int .i64 Cn) := (World.cell?_of_block (w := w6) (a := ⟨ab, 2, none⟩) e7).trans k2; have s1 : (w7.setCell ⟨p, 12, none⟩ (.slice (some ⟨g7, 0, none⟩) (nT + Cn) cap7)).cell? ⟨ab, 1, none⟩ = some (.int .i64 Bn) := (World.cell?_setCell_other _ _ _ _ (by intro e; injection e with e1; omega)).trans q1; have s2 : (w7.setCell ⟨p, 12, none⟩ (.slice (some ⟨g7, 0, none⟩) (nT + Cn) cap7)).cell? ⟨ab, 2, none⟩ = some (.int .i64 Cn) := (World.cell?_setCell_other _ _ _ _ (by intro e; injection e with e1; omega)).trans q2; obtain ⟨⟨r7, rz7⟩, hfin⟩ := HFT.out w7 g7 cap7 hown7 ⟨hgrow7.os, hgrow7.tape, hgrow7.output, hgrow7.size, hgrow7.block⟩ hat7 hlt7; have HE7 : Hid _ := hfin; clear hown7 hgrow7 hat7 hlt7 hfin)
        simp only [List.getElem_toArray, List.getElem_cons_succ, List.getElem_cons_zero, Act.put, List.setIfInBounds_toArray, List.set_cons_zero, List.set_cons_succ]
        refine hK.out _ _ ?_ (fun hHeld2 => ?_)
        · (first | go_keep | exact ⟨by assumption, by assumption⟩)
        clear hK K hHeld
        have hHeld := hHeld2
        clear hHeld2
        refine wpAnyH_take (i := 16) (v := ?_) rfl (by kernel_rfl) (by kernel_rfl) (by kernel_rfl) (fun _ _ _ h => h) (Or.inl ⟨by rfl, ?_⟩) (by assumption) ?_
        rotate_left
        · (first | (intro w hSw; (try dsimp only at hSw); go_simp; done) | (intro w hSw; (try dsimp only at hSw); go_simp; with_reducible rfl))
        simp only [List.getElem_toArray, List.getElem_cons_succ, List.getElem_cons_zero, Act.put, List.setIfInBounds_toArray, List.set_cons_zero, List.set_cons_succ]
        refine wpAnyH_take (i := 17) (v := ?_) rfl (by kernel_rfl) (by kernel_rfl) (by kernel_rfl) (fun _ _ _ h => h) (Or.inl ⟨by rfl, ?_⟩) (by assumption) ?_
        rotate_left
        · (first | (intro w hSw; (try dsimp only at hSw); go_simp; done) | (intro w hSw; (try dsimp only at hSw); go_simp; with_reducible rfl))
        simp only [List.getElem_toArray, List.getElem_cons_succ, List.getElem_cons_zero, Act.put, List.setIfInBounds_toArray, List.set_cons_zero, List.set_cons_succ]
        refine wpAnyH_take (i := 18) (v := ?_) rfl (by kernel_rfl) (by kernel_rfl) (by kernel_rfl) (fun _ _ _ h => h) (Or.inl ⟨by rfl, ?_⟩) (by assumption) ?_
        rotate_left
        · (first | (intro w hSw; (try dsimp only at hSw); go_simp; done) | (intro w hSw; (try dsimp only at hSw); go_simp; with_reducible rfl))
        simp only [List.getElem_toArray, List.getElem_cons_succ, List.getElem_cons_zero, Act.put, List.setIfInBounds_toArray, List.set_cons_zero, List.set_cons_succ]
        refine wpAnyH_ready (rs := [19]) (by kernel_rfl) (by simp) ?_
        refine AllReadyH.cons rfl (fun K hK => ?_) AllReadyH.nil
        go_simp
        skip
        go_wp2_with fail
        refine hK.out _ _ ?_ (fun hHeld2 => ?_)
        · (first | go_keep | exact ⟨by assumption, by assumption⟩)
        clear hK K hHeld
        have hHeld := hHeld2
        clear hHeld2
        refine wpAnyH_done (by kernel_rfl) ?_ _
        obtain ⟨w8, hw8⟩ : ∃ w8, w7.setCell ⟨p, 12, none⟩ (.slice (some ⟨g7, 0, none⟩) (nT + Cn) cap7) = w8 := ⟨_, rfl⟩
        rw [hw8] at HE7 ⊢
        obtain ⟨-, -, -, o12, o16⟩ := HE7.out.1.at
        have x16 := HE7.out.1.frz 16
        simp only [List.length_append, HZL.out, HNT.out] at o12 o16
        have HS8 : Hid (Step F (fun k => (F k ∨ k = g5) ∨ k = g7) w w8) := HST.out.trans HE7.out.2
        clear hw8 r7 rz7 n12 n16 y16 k1 k2 hHeld q1 q2 s1 s2 e7
        go_wp2
        go_end0
        exact ⟨rfl, _, _, _, _, _, HE7.out.1.setBad true, HS8.out.trans (Step.of (Ch.set HE7.out.1.fp _ _))⟩

end
end Go.Proofs.YtjllhcifmfhkmaaGreat.Oct
