/-
  The parts of a page that are laid, one by one.
-/
import Derived.Test.YtjllhcifmfhkmaaGreatZb
import Derived.Laws.CopyOwn
import Derived.Deep.RegionHeld3
namespace Go.Proofs.YtjllhcifmfhkmaaGreat.Oct
open Go.RowKit

/-- A sheet: its bytes lie in a row of the call's own, elsewhere. -/
def Sh (base g : Nat) (w : World) (zs : List Int) : Prop :=
  ∃ a cap, w.cell? ⟨g, 0, none⟩ = some (.slice a zs.length cap) ∧ w.frozen? ⟨g, 0, none⟩ = false ∧ Own base w (.slice a zs.length cap) zs ∧ (Value.slice a zs.length cap).ownBlock ≠ some g

/-- How a part's laying ends. -/
def LayEnd (C g : Nat) (w : World) (err : Int) (zs : List Int) (e : Ending) (w' : World) : Prop :=
  e = .returned (.int .i64 err) ∧ ∃ u, Below C w u ∧ (w' = u ∨ ∃ v, w' = u.setCell ⟨g, 0, none⟩ v) ∧ (err = 0 → Sh C g w' zs)

theorem own_ne {base g : Nat} {w : World} {v : Value} {zs : List Int} (h : Own base w v zs) (hg : g < base) : v.ownBlock ≠ some g := fun e => by
  have := h.lt' g e
  omega

theorem own_keep1 {base g : Nat} {w : World} {v : Value} {zs : List Int} (h : Own base w v zs) (hne : v.ownBlock ≠ some g) (u : Value) : Own base (w.setCell ⟨g, 0, none⟩ u) v zs := by
  obtain ⟨h1, h2 | ⟨g', cap, cur, e, hg, hc, r⟩⟩ := h
  · exact ⟨h1, .inl h2⟩
  · refine ⟨h1, .inr ⟨g', cap, cur, e, hg, ?_, r⟩⟩
    rw [Below.heap_setCell _ _ _ _ (by intro e'; apply hne; rw [e, show g = g' from e'.symm]; rfl)]
    exact hc

theorem sh_laid {C base g : Nat} {w u : World} {zs ys : List Int} {a : Option Addr} {cap : Nat} (hs : Sh base g w zs) (hC : C ≤ w.heap.size) (hb : Below w.heap.size w u) (ho : Own w.heap.size u (.slice a ys.length cap) ys) :
    Sh C g (u.setCell ⟨g, 0, none⟩ (.slice a ys.length cap)) ys := by
  obtain ⟨a0, c0, k1, k2, k3, k4⟩ := hs
  have hg := block_lt_of_cell k1
  have hne := own_ne ho hg
  refine ⟨a, cap, ?_, ?_, (own_keep1 ho hne _).weaken hC, hne⟩
  · rw [World.cell?_setCell_same _ _ _ ((hb.cell (p := ⟨g, 0, none⟩) hg).trans k1)]
  · rw [World.frozen?_setCell]; exact (hb.frozen (p := ⟨g, 0, none⟩) hg).trans k2

end Go.Proofs.YtjllhcifmfhkmaaGreat.Oct

/-
  A page's parts, each by its method.
-/
namespace Go.Proofs.YtjllhcifmfhkmaaGreat.Oct
open Go.RowKit

/-- copy into a row of the call's own, as a step of a region that draws its order. -/
theorem step_copy_splice {P : Program} {ops : Array Oper} {o : Oper} {a : Act} {w : World} {K : Act → World → Prop} {Q : Exit → Act → World → Prop} {E : Prop} (hgd : o.guard = none) (d s : Operand) (dT sT : TypeId)
    (ho : o.op = .call { callee := .builtin .copy, args := #[d, s], argTypes := #[dT, sT] }) (elem : TypeId) (hu : P.underlying dT = some (.slice elem)) (hsz : (P.info? elem).map (·.size) = some 1)
    (dp sp : Option Addr) (dLen dCap sLen sCap : Nat) (hd : a.eval d = .slice dp dLen dCap) (hs : a.eval s = .slice sp sLen sCap)
    (g off : Nat) (cur : List Value) (t : TypeId) (hg : w.heap[g]? = some (.cells cur.toArray t (0, 0))) (cs : List Value) (hn : cs.length = Nat.min sLen dLen)
    (hpos : 0 < cs.length → dp = some ⟨g, off, none⟩ ∧ ∃ ad, sp = some ad ∧ ∀ j v, cs[j]? = some v → w.cell? (ad.add j) = some v)
    (hfit : off + cs.length ≤ cur.length) (h1 : ∀ v ∈ cs, v.oneCell' = true) (B : Nat) (w0 : World) (hb : Below B w0 w) (hBg : B ≤ g)
    (h : ∀ w', Hid (w'.heap[g]? = some (.cells (splice cur off cs).toArray t (0, 0))) → (∀ j, j ≠ g → w'.heap[j]? = w.heap[j]?) → Below B w0 w' → K (a.put o.dst (goInt cs.length)) w') :
    if Region.wanted o (yielded ops a.tmps) = true then Oper.wp P o a w K Q else E := by
  have hw : Region.wanted o (yielded ops a.tmps) = true := by simp [Region.wanted, hgd]
  rw [if_pos hw]
  by_cases h0 : cs.length = 0
  · obtain rfl : cs = [] := List.eq_nil_of_length_eq_zero h0
    have hrun := run_copy_none (P := P) w dT sT o.type elem dp sp dLen dCap sLen sCap hu hsz (by simpa using hn.symm)
    unfold Oper.wp
    simp [execOp, ho, resolve, invoke, builtin, hd, hs, hrun, Result.andThen]
    exact h w (show _ = _ by simpa [splice] using hg) (fun _ _ => rfl) hb
  · obtain ⟨rfl, ad, rfl, hsrc⟩ := hpos (by omega)
    have hrun := run_copy_row (P := P) w dT sT o.type elem g off dLen dCap ad sLen sCap cur.toArray t cs hu hsz hg hn hsrc (by simpa using hfit) h1
    unfold Oper.wp
    simp [execOp, ho, resolve, invoke, builtin, hd, hs, hrun, Result.andThen]
    exact h _ (show _ = _ by simpa [splice] using setRow_heap w g _ _ t _ hg) (fun j hj => setRow_other w g j _ hj) (below_setRow hb hBg _)

theorem Sh.below {base g : Nat} {w w1 : World} {zs : List Int} (h : Sh base g w zs) (k : Below w.heap.size w w1) : Sh base g w1 zs := by
  obtain ⟨a, cap, k1, k2, k3, k4⟩ := h
  have hg := block_lt_of_cell k1
  refine ⟨a, cap, (k.cell (p := ⟨g, 0, none⟩) hg).trans k1, (k.frozen (p := ⟨g, 0, none⟩) hg).trans k2, ?_, k4⟩
  obtain ⟨h1, h2 | ⟨g', cap', cur, e, hg', hc, r⟩⟩ := k3
  · exact ⟨h1, .inl h2⟩
  · refine ⟨h1, .inr ⟨g', cap', cur, e, hg', (k.block g' ?_).trans hc, r⟩⟩
    by_cases hlt : g' < w.heap.size
    · exact hlt
    · rw [Array.getElem?_eq_none (by omega)] at hc; cases hc

theorem LayEnd.pre {C g : Nat} {w w1 : World} {err : Int} {zs : List Int} {e : Ending} {w' : World} (h : LayEnd C g w1 err zs e w') (k : Below C w w1) : LayEnd C g w err zs e w' := by
  obtain ⟨h1, u, h2, h3, h4⟩ := h
  exact ⟨h1, u, k.trans h2, h3, h4⟩

abbrev pgV (p : Pg) (ba : Option Addr) (bc : Nat) : Value := .agg #[.int .i64 p.kind, .int .i64 p.level, .int .i64 p.count, .slice ba p.body.length bc]

/-- A body laid behind the head. -/
def spl (zs bd : List Int) : List Int := zs.take 8 ++ (bd ++ zs.drop (8 + bd.length))

theorem spl_len {zs bd : List Int} (hl : zs.length = 256) (hd : bd.length ≤ 248) : (spl zs bd).length = 256 := by
  simp [spl]; omega

theorem spl_bys {zs bd : List Int} (hz : Bys zs) (hd : Bys bd) : Bys (spl zs bd) :=
  Bys.app (fun z h => hz z (List.mem_of_mem_take h)) (Bys.app hd (fun z h => hz z (List.mem_of_mem_drop h)))

theorem own_splice {base g cap : Nat} {w1 : World} {cur : List Value} {zs bd : List Int} (hl : zs.length = 256) (hd : bd.length ≤ 248) (hg : base ≤ g) (hcap : 256 ≤ cap) (hm : cap ≤ maxLen) (hsz : cur.length = cap) (ht : cur.take 256 = zs.map (Value.int .u8))
    (h : w1.heap[g]? = some (.cells (splice cur 8 (bd.map (Value.int .u8))).toArray 5 (0, 0))) : Own base w1 (.slice (some ⟨g, 0, none⟩) 256 cap) (spl zs bd) := by
  refine ⟨by simp [spl_len hl hd], .inr ⟨g, cap, _, by rw [spl_len hl hd], hg, h, by rw [spl_len hl hd]; omega, hm, ?_, ?_⟩⟩
  · simp [splice]; omega
  · have e : (spl zs bd).map (Value.int .u8) = (cur.take 256).take 8 ++ (bd.map (Value.int .u8) ++ (cur.take 256).drop (8 + bd.length)) := by
      rw [ht]; simp [spl]
    rw [e, spl_len hl hd]
    have hA : (cur.take 8).length = 8 := by simp; omega
    have hB : (bd.map (Value.int .u8)).length = bd.length := by simp
    have e2 : splice cur 8 (bd.map (Value.int .u8)) = cur.take 8 ++ (bd.map (Value.int .u8) ++ cur.drop (8 + bd.length)) := by simp [splice]
    rw [List.toList_toArray, e2, Nat.mul_one, List.take_append, hA, List.take_append, hB, List.take_of_length_le (show (cur.take 8).length ≤ 256 by omega), List.take_of_length_le (show (bd.map (Value.int .u8)).length ≤ 256 - 8 by omega), List.take_take, List.drop_take]
    congr 3
    omega

end Go.Proofs.YtjllhcifmfhkmaaGreat.Oct

/-
  page.Seal.
-/
namespace Go.Proofs.YtjllhcifmfhkmaaGreat.Oct
open Go.RowKit

/-- The sheet behind the first parts. -/
def st0 : List Int := List.replicate 256 0
def st1 (p : Pg) : List Int := putR st0 4 1 p.kind
def st2 (p : Pg) : List Int := putR (st1 p) 5 1 p.level
def st3 (p : Pg) : List Int := putR (st2 p) 6 2 p.count
def st4 (p : Pg) : List Int := spl (st3 p) p.body
def st5 (p : Pg) : List Int := putR (st4 p) 0 4 (crc ((st4 p).drop 4))
def st (p : Pg) (k : Nat) : List Int := match k with
  | 0 => st0
  | 1 => st1 p
  | 2 => st2 p
  | 3 => st3 p
  | 4 => st4 p
  | _ => st5 p

/-- What is said of part k. -/
def er (p : Pg) (k : Nat) : Int := match k with
  | 0 => if okK p.kind && putB st0 4 1 p.kind then 0 else 1
  | 1 => if putB (st1 p) 5 1 p.level then 0 else 1
  | 2 => if putB (st2 p) 6 2 p.count then 0 else 1
  | 3 => if p.body.length ≤ 248 then 0 else 3
  | _ => if putB (st4 p) 0 4 (crc ((st4 p).drop 4)) then 0 else 1

theorem er0 (p : Pg) : er p 0 = if okK p.kind && putB st0 4 1 p.kind then 0 else 1 := by unfold er; rfl
theorem er1 (p : Pg) : er p 1 = if putB (st1 p) 5 1 p.level then 0 else 1 := by unfold er; rfl
theorem er2 (p : Pg) : er p 2 = if putB (st2 p) 6 2 p.count then 0 else 1 := by unfold er; rfl
theorem er3 (p : Pg) : er p 3 = if p.body.length ≤ 248 then 0 else 3 := by unfold er; rfl
theorem er4 (p : Pg) : er p 4 = if putB (st4 p) 0 4 (crc ((st4 p).drop 4)) then 0 else 1 := by unfold er; rfl

theorem bys0 : Bys st0 := fun z h => by
  have := List.eq_of_mem_replicate h
  omega

theorem len_put {zs : List Int} {p n x : Int} (h : putB zs p n x = true) : (putR zs p n x).length = zs.length := by
  unfold putR
  rw [if_pos h, putL_len]

/-- A sheet that is laid so far is one of 256 bytes. -/
theorem st_ok {p : Pg} (hb : Bys p.body) {k : Nat} (hk : k ≤ 5) (h : ∀ j, j < k → er p j = 0) : Bys (st p k) ∧ (st p k).length = 256 := by
  have l0 : st0.length = 256 := List.length_replicate
  have b1 : Bys (st1 p) := putR_bys bys0 _ _ _
  have b2 : Bys (st2 p) := putR_bys b1 _ _ _
  have b3 : Bys (st3 p) := putR_bys b2 _ _ _
  have b4 : Bys (st4 p) := spl_bys b3 hb
  have b5 : Bys (st5 p) := putR_bys b4 _ _ _
  have l1 : 1 ≤ k → (st1 p).length = 256 := fun h1 => by
    have e := h 0 (by omega)
    have : (okK p.kind && putB st0 4 1 p.kind) = true := by
      by_cases hh : (okK p.kind && putB st0 4 1 p.kind) = true
      · exact hh
      · have e2 : er p 0 = 1 := by rw [er0, if_neg hh]
        omega
    rw [Bool.and_eq_true] at this
    exact (len_put this.2).trans l0
  have l2 : 2 ≤ k → (st2 p).length = 256 := fun h1 => by
    have e := h 1 (by omega)
    have : putB (st1 p) 5 1 p.level = true := by
      by_cases hh : putB (st1 p) 5 1 p.level = true
      · exact hh
      · have e2 : er p 1 = 1 := by rw [er1, if_neg hh]
        omega
    exact (len_put this).trans (l1 (by omega))
  have l3 : 3 ≤ k → (st3 p).length = 256 := fun h1 => by
    have e := h 2 (by omega)
    have : putB (st2 p) 6 2 p.count = true := by
      by_cases hh : putB (st2 p) 6 2 p.count = true
      · exact hh
      · have e2 : er p 2 = 1 := by rw [er2, if_neg hh]
        omega
    exact (len_put this).trans (l2 (by omega))
  have l4 : 4 ≤ k → (st4 p).length = 256 := fun h1 => by
    have e := h 3 (by omega)
    have : p.body.length ≤ 248 := by
      by_cases hh : p.body.length ≤ 248
      · exact hh
      · have e2 : er p 3 = 3 := by rw [er3, if_neg hh]
        omega
    exact spl_len (l3 (by omega)) this
  have l5 : 5 ≤ k → (st5 p).length = 256 := fun h1 => by
    have e := h 4 (by omega)
    have : putB (st4 p) 0 4 (crc ((st4 p).drop 4)) = true := by
      by_cases hh : putB (st4 p) 0 4 (crc ((st4 p).drop 4)) = true
      · exact hh
      · have e2 : er p 4 = 1 := by rw [er4, if_neg hh]
        omega
    exact (len_put this).trans (l4 (by omega))
  have : k = 0 ∨ k = 1 ∨ k = 2 ∨ k = 3 ∨ k = 4 ∨ k = 5 := by omega
  rcases this with rfl | rfl | rfl | rfl | rfl | rfl
  · exact ⟨bys0, l0⟩
  · exact ⟨b1, l1 (by omega)⟩
  · exact ⟨b2, l2 (by omega)⟩
  · exact ⟨b3, l3 (by omega)⟩
  · exact ⟨b4, l4 (by omega)⟩
  · exact ⟨b5, l5 (by omega)⟩

theorem LayEnd.same {C g : Nat} {w : World} {err : Int} {zs : List Int} {e : Ending} {w' : World} (h : LayEnd C g w err zs e w') (j : Nat) (hj : j < C) (hg : j ≠ g) : w'.heap[j]? = w.heap[j]? := by
  obtain ⟨_, u, h2, h3 | ⟨v, h3⟩, _⟩ := h
  · subst h3; exact h2.block j hj
  · subst h3; rw [Below.heap_setCell _ _ _ _ (by exact hg)]; exact h2.block j hj

theorem LayEnd.below {C g B : Nat} {w w0 : World} {err : Int} {zs : List Int} {e : Ending} {w' : World} (h : LayEnd C g w err zs e w') (hC : B ≤ C) (hg : B ≤ g) (k : Below B w0 w) : Below B w0 w' := by
  obtain ⟨_, u, h2, h3 | ⟨v, h3⟩, _⟩ := h
  · subst h3; exact k.trans (h2.mono hC)
  · subst h3; exact (k.trans (h2.mono hC)).setCell (p := ⟨g, 0, none⟩) hg _

theorem Slot.same {w w1 : World} {B : Nat} {x0 x1 x2 x3 : Value} (h : Slot w B x0 x1 x2 x3) (k : w1.heap[B]? = w.heap[B]?) : Slot w1 B x0 x1 x2 x3 := by
  obtain ⟨⟨h0, h1, h2, h3⟩, f0, f1, f2, f3⟩ := h
  exact ⟨⟨(World.cell?_of_block k).trans h0, (World.cell?_of_block k).trans h1, (World.cell?_of_block k).trans h2, (World.cell?_of_block k).trans h3⟩,
    (World.frozen?_of_block k).trans f0, (World.frozen?_of_block k).trans f1, (World.frozen?_of_block k).trans f2, (World.frozen?_of_block k).trans f3⟩

theorem LayEnd.size {C g : Nat} {w : World} {err : Int} {zs : List Int} {e : Ending} {w' : World} (h : LayEnd C g w err zs e w') : w.heap.size ≤ w'.heap.size := by
  obtain ⟨_, u, h2, h3 | ⟨v, h3⟩, _⟩ := h
  · subst h3; exact h2.size
  · subst h3; simpa [World.setCell] using h2.size

end Go.Proofs.YtjllhcifmfhkmaaGreat.Oct
