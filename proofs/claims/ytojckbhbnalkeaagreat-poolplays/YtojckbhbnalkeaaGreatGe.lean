/-
  device: burn, outcome, settle, Fuse, nothing.
-/
import Derived.Test.YtojckbhbnalkeaaGreatGc
import Derived.Deep.RegionHeld3
namespace Go.Proofs.YtojckbhbnalkeaaGreat.Oct
open Go.RowKit

/-- copy into a row that is known whole, as a step of a region that draws its order: the world behind it written out. -/
theorem step_copy_at {P : Program} {ops : Array Oper} {o : Oper} {a : Act} {w : World} {K : Act → World → Prop} {Q : Exit → Act → World → Prop} {E : Prop} (hgd : o.guard = none) (d s : Operand) (dT sT : TypeId)
    (ho : o.op = .call { callee := .builtin .copy, args := #[d, s], argTypes := #[dT, sT] }) (elem : TypeId) (hu : P.underlying dT = some (.slice elem)) (hsz : (P.info? elem).map (·.size) = some 1)
    (g off dLen dCap : Nat) (ad : Addr) (sLen sCap : Nat) (hd : a.eval d = .slice (some ⟨g, off, none⟩) dLen dCap) (hs : a.eval s = .slice (some ad) sLen sCap)
    (cur : Array Value) (t : TypeId) (hg : w.heap[g]? = some (.cells cur t (0, 0))) (cs : List Value) (hn : cs.length = Nat.min sLen dLen)
    (hsrc : ∀ j v, cs[j]? = some v → w.cell? (ad.add j) = some v) (hfit : off + cs.length ≤ cur.size) (h1 : ∀ v ∈ cs, v.oneCell' = true)
    (X : Array Value) (hX : X = (cur.toList.take off ++ cs ++ cur.toList.drop (off + cs.length)).toArray) (h : K (a.put o.dst (goInt cs.length)) (w.setRow g X)) :
    if Region.wanted o (yielded ops a.tmps) = true then Oper.wp P o a w K Q else E := by
  have hw : Region.wanted o (yielded ops a.tmps) = true := by simp [Region.wanted, hgd]
  rw [if_pos hw]
  have hrun := run_copy_row (P := P) w dT sT o.type elem g off dLen dCap ad sLen sCap cur t cs hu hsz hg hn hsrc hfit h1
  unfold Oper.wp
  simp [execOp, ho, resolve, invoke, builtin, hd, hs, hrun, Result.andThen]
  rw [hX, List.append_assoc] at h
  exact h

theorem size5 : (Tryz.prog.info? 5).map (·.size) = some 1 := by kernel_rfl

/-- A row of bytes, known whole. -/
theorem Own.cur {base g n cap : Nat} {w : World} {zs : List Int} (h : Own base w (.slice (some ⟨g, 0, none⟩) n cap) zs) :
    ∃ cur : Array Value, w.heap[g]? = some (.cells cur 5 (0, 0)) ∧ n ≤ cap ∧ cap ≤ maxLen ∧ cur.size = cap ∧ cur.toList.take n = zs.map (Value.int .u8) ∧ n = zs.length := by
  obtain ⟨h1, ⟨h', _⟩ | ⟨g', cap', cur, h', _, hg, hn, hm, hs, ht⟩⟩ := h
  · simp at h'
  · simp only [Value.slice.injEq, Option.some.injEq, Addr.mk.injEq, and_true] at h'
    obtain ⟨rfl, rfl, rfl⟩ := h'
    exact ⟨cur, hg, hn, hm, by simpa using hs, by simpa using ht, rfl⟩

/-- Bytes laid into a row that is known whole. -/
theorem own_lay {g n cap off : Nat} {w : World} {zs cs : List Int} {cur : Array Value} (hcur : w.heap[g]? = some (.cells cur 5 (0, 0))) (hn : n ≤ cap) (hm : cap ≤ maxLen) (hs : cur.size = cap) (ht : cur.toList.take n = zs.map (Value.int .u8)) (hl : n = zs.length) (hfit : off + cs.length ≤ n) :
    Own 0 (w.setRow g (cur.toList.take off ++ cs.map (Value.int .u8) ++ cur.toList.drop (off + (cs.map (Value.int .u8)).length)).toArray) (.slice (some ⟨g, 0, none⟩) n cap) (lay' zs off cs) := by
  have hl2 : (lay' zs off cs).length = n := by rw [lay'_len _ _ _ (by omega)]; exact hl.symm
  have hcl : cur.toList.length = cap := by simpa using hs
  unfold Own
  refine ⟨by simp, .inr ⟨g, cap, _, by rw [hl2], Nat.zero_le _, setRow_heap w g cur _ _ _ hcur, by omega, hm, by simp; omega, ?_⟩⟩
  rw [hl2, Nat.mul_one]
  simp only [lay', List.map_append, List.map_take, List.map_drop]
  rw [← ht, List.take_take, Nat.min_eq_left (by omega), List.drop_take, List.take_append, List.take_of_length_le (by simp; omega), List.length_append, List.length_take, Nat.min_eq_left (by omega), List.length_map, List.append_assoc]

theorem DevC.others {w w' : World} {p gN gL cN cL : Nat} {vS vO : Value} {f : Int} {D : Dv} (h : DevC w p gN gL cN cL vS vO f D) (k : ∀ g, g ≠ p → w'.heap[g]? = w.heap[g]?) :
    Own 0 w' (.slice (some ⟨gN, 0, none⟩) D.now.length cN) D.now ∧ Own 0 w' (.slice (some ⟨gL, 0, none⟩) D.sure.length cL) D.sure ∧ w'.ownsRow 0 104 257 vS D.since.length (scells D.since) ∧ OutAt w' vO D.out :=
  ⟨h.now.kept (k gN h.pN.symm), h.sure.kept (k gL h.pL.symm), owns_keep h.since (fun g hg => k g (fun e => h.pS (e ▸ hg))), h.out.keep (fun g hg => k g (fun e => h.pO (e ▸ hg)))⟩

theorem DevC.set4 {w : World} {p gN gL cN cL : Nat} {vS vO : Value} {f : Int} {D : Dv} (h : DevC w p gN gL cN cL vS vO f D) (f' : Int) (h1 : -9223372036854775808 ≤ f') (h2 : f' ≤ 9223372036854775807) :
    DevC (w.setCell ⟨p, 4, none⟩ (.int .i64 f')) p gN gL cN cL vS vO f' { D with fuse := max f' (-1) } := by
  obtain ⟨a, b, c, d⟩ := h.others (fun g hg => Below.heap_setCell w ⟨p, 4, none⟩ (.int .i64 f') g hg)
  exact { h with cells := setCell_heap _ _ _ _ _ _ _ h.cells, now := a, sure := b, since := c, out := d, f1 := h1, f2 := h2, fuse := rfl }
theorem DevC.set5 {w : World} {p gN gL cN cL : Nat} {vS vO : Value} {f : Int} {D : Dv} (h : DevC w p gN gL cN cL vS vO f D) (n : Nat) :
    DevC (w.setCell ⟨p, 5, none⟩ (.int .i64 n)) p gN gL cN cL vS vO f { D with ops := n } := by
  obtain ⟨a, b, c, d⟩ := h.others (fun g hg => Below.heap_setCell w ⟨p, 5, none⟩ (.int .i64 n) g hg)
  exact { h with cells := setCell_heap _ _ _ _ _ _ _ h.cells, now := a, sure := b, since := c, out := d, fuse := h.fuse }
theorem DevC.set6 {w : World} {p gN gL cN cL : Nat} {vS vO : Value} {f : Int} {D : Dv} (h : DevC w p gN gL cN cL vS vO f D) (x : Bool) :
    DevC (w.setCell ⟨p, 6, none⟩ (.bool x)) p gN gL cN cL vS vO f { D with dead := x } := by
  obtain ⟨a, b, c, d⟩ := h.others (fun g hg => Below.heap_setCell w ⟨p, 6, none⟩ (.bool x) g hg)
  exact { h with cells := setCell_heap _ _ _ _ _ _ _ h.cells, now := a, sure := b, since := c, out := d, fuse := h.fuse }

theorem Ch.set {w : World} {p : Nat} {F : Nat → Prop} (hp : F p) (i : Nat) (v : Value) : Ch w.heap.size F w (w.setCell ⟨p, i, none⟩ v) := (Ch.refl _ F w).setCell (p := ⟨p, i, none⟩) (.inr hp) v

theorem size_setCell (w : World) (a : Addr) (v : Value) : (w.setCell a v).heap.size = w.heap.size := by simp [World.setCell]

/-- What is left of a fuse behind an op. -/
def lessF (f : Int) : Int := if 0 < f then f - 1 else f

theorem burn_zero {w : World} {p : Nat} {F : Nat → Prop} {D : Dv} (h : Dev w p F D) (hf : D.fuse = 0) :
    Calls Tryz.prog 85 #[.pointer (some ⟨p, 0, none⟩)] w fun e w' => (∃ s, e = .panicked [{ v := .iface 9 (.string s), recovered := false }]) ∧ w = w' := by
  obtain ⟨ok, _, gN, gL, cN, cL, vS, vO, f, hc, _⟩ := h
  have c4 := hc.at.2.2.2.2.1
  have e : f = 0 := by have := hc.fuse; omega
  subst e
  clear ok hc hf
  go_enter Tryz.func85, Tryz.ntmps85
  go_wp2
  exact ⟨rfl, ⟨_, rfl⟩, rfl⟩

theorem burn_more {w : World} {p : Nat} {F : Nat → Prop} {D : Dv} (h : Dev w p F D) (hf : D.fuse ≠ 0) :
    Calls Tryz.prog 85 #[.pointer (some ⟨p, 0, none⟩)] w fun e w' => e = .returned (.tuple #[]) ∧ Dev w' p F { D with fuse := lessF D.fuse } ∧ Ch w.heap.size F w w' := by
  obtain ⟨ok, hF, gN, gL, cN, cL, vS, vO, f, hc, hfo⟩ := h
  obtain ⟨_, _, _, _, c4, _, _, z⟩ := hc.at
  have z4 := z 4
  have hf' := hc.fuse
  have f2 := hc.f2
  have f1 := hc.f1
  have hp : F p := hfo p (.inl rfl)
  by_cases hpos : 0 < f
  · have e : lessF D.fuse = max (f - 1) (-1) := by unfold lessF; split <;> omega
    have hd : Hid (Dev (w.setCell ⟨p, 4, none⟩ (.int .i64 (f - 1))) p F { D with fuse := lessF D.fuse }) := by
      rw [e]
      exact ⟨⟨ok.n8, ok.n4, ok.now, ok.sure, ok.bnow, ok.bsure, ok.bout, ok.since, by show -1 ≤ max (f - 1) (-1); omega⟩, fun k hk => by rw [size_setCell]; exact hF k hk, gN, gL, cN, cL, vS, vO, f - 1, hc.set4 (f - 1) (by omega) (by omega), hfo⟩
    clear e hf' hf ok hc z
    go_enter Tryz.func85, Tryz.ntmps85
    go_wp2
    go_end0
    exact ⟨rfl, hd.out, Ch.set hp _ _⟩
  · have hne : ¬ f = 0 := by omega
    have e : lessF D.fuse = D.fuse := by unfold lessF; split <;> omega
    have hd : Hid (Dev w p F { D with fuse := lessF D.fuse }) := by
      rw [e]
      exact ⟨ok, hF, gN, gL, cN, cL, vS, vO, f, hc, hfo⟩
    clear e hf' hf ok hc z
    go_enter Tryz.func85, Tryz.ntmps85
    go_wp2
    go_end0
    exact ⟨rfl, hd.out, Ch.refl _ _ _⟩

theorem nothing_any (w : World) : Calls Tryz.prog 73 #[] w fun e w' => e = .returned (.tuple #[]) ∧ w = w' := by
  go_enter Tryz.func73, Tryz.ntmps73
  go_wp2
  go_end0
  exact ⟨rfl, rfl⟩

theorem fuse_any {w : World} {p : Nat} {F : Nat → Prop} {D : Dv} (h : Dev w p F D) (f' : Int) (h1 : -9223372036854775808 ≤ f') (h2 : f' ≤ 9223372036854775807) :
    Calls Tryz.prog 25 #[.pointer (some ⟨p, 0, none⟩), .int .i64 f'] w fun e w' => e = .returned (.tuple #[]) ∧ Dev w' p F (fuseD D f') ∧ Ch w.heap.size F w w' := by
  have hm := made_any h
  have ok' := fuseD_ok h.1 f'
  obtain ⟨ok, hF, gN, gL, cN, cL, vS, vO, f, hc, hfo⟩ := h
  obtain ⟨_, _, _, _, c4, _, c6, z⟩ := hc.at
  have z4 := z 4
  have hp : F p := hfo p (.inl rfl)
  cases hdd : D.dead
  · have e : fuseD D f' = { D with fuse := max f' (-1) } := by simp [fuseD, hdd]
    rw [hdd] at c6
    have hd : Hid (Dev (w.setCell ⟨p, 4, none⟩ (.int .i64 f')) p F (fuseD D f')) := by
      refine ⟨ok', fun k hk => by rw [size_setCell]; exact hF k hk, gN, gL, cN, cL, vS, vO, f', ?_, hfo⟩
      rw [e]
      exact hc.set4 f' h1 h2
    clear e ok hc z ok' hdd
    go_enter Tryz.func25, Tryz.ntmps25
    go_wp2_with (go_at_call 65; refine hm.mono ?_; rintro e w' ⟨rfl, rfl⟩)
    go_end0
    exact ⟨rfl, hd.out, Ch.set hp _ _⟩
  · have e : fuseD D f' = D := by simp [fuseD, hdd]
    rw [hdd] at c6
    have hd : Hid (Dev w p F (fuseD D f')) := by
      rw [e]
      exact ⟨ok, hF, gN, gL, cN, cL, vS, vO, f, hc, hfo⟩
    clear e ok hc z ok' hdd
    go_enter Tryz.func25, Tryz.ntmps25
    go_wp2_with (go_at_call 65; refine hm.mono ?_; rintro e w' ⟨rfl, rfl⟩)
    go_end0
    exact ⟨rfl, hd.out, Ch.refl _ _ _⟩

theorem DevC.set3 {w : World} {p gN gL cN cL : Nat} {vS vO : Value} {f : Int} {D : Dv} (h : DevC w p gN gL cN cL vS vO f D) (v : Value) (l : List Int) (ho : OutAt w v l) (hb : v.ownBlock = vO.ownBlock) :
    DevC (w.setCell ⟨p, 3, none⟩ v) p gN gL cN cL vS v f { D with out := l } := by
  have k : ∀ g, g ≠ p → (w.setCell ⟨p, 3, none⟩ v).heap[g]? = w.heap[g]? := fun g hg => Below.heap_setCell w ⟨p, 3, none⟩ v g hg
  obtain ⟨a, b, c, d⟩ := h.others k
  exact { h with cells := setCell_heap _ _ _ _ _ _ _ h.cells, now := a, sure := b, since := c, out := ho.keep (fun g hg => k g (fun e => h.pO (by rw [← hb, ← e]; exact hg))), fuse := h.fuse, pO := hb ▸ h.pO, NO := hb ▸ h.NO, LO := hb ▸ h.LO, SO := hb ▸ h.SO }

theorem OutAt.tl {w : World} {g off L cap : Nat} {l : List Int} (h : OutAt w (.slice (some ⟨g, off, none⟩) L cap) l) (hl : 1 ≤ l.length) : OutAt w (.slice (some ⟨g, off + 1, none⟩) (L - 1) (cap - 1)) l.tail := by
  rcases h with ⟨h, _⟩ | ⟨g', off', cap', cur, e, hg, h1, h2, h3, h4⟩
  · simp at h
  · simp only [Value.slice.injEq, Option.some.injEq, Addr.mk.injEq, and_true] at e
    obtain ⟨⟨rfl, rfl⟩, rfl, rfl⟩ := e
    refine .inr ⟨g, off + 1, cap - 1, cur, by simp, hg, by simp; omega, by omega, by omega, fun i hi => ?_⟩
    simp at hi
    have := h4 (i + 1) (by omega)
    rw [show off + 1 + i = off + (i + 1) by omega, this]
    congr 2
    rw [List.getD_eq_getElem?_getD, List.getD_eq_getElem?_getD, List.getElem?_tail]
theorem OutAt.tl0 {w : World} {g off L : Nat} {l : List Int} (h : OutAt w (.slice (some ⟨g, off, none⟩) L 1) l) : OutAt w (.slice (some ⟨g, off, none⟩) 0 0) l.tail := by
  rcases h with ⟨h, _⟩ | ⟨g', off', cap', cur, e, hg, h1, h2, h3, h4⟩
  · simp at h
  · simp only [Value.slice.injEq, Option.some.injEq, Addr.mk.injEq, and_true] at e
    obtain ⟨⟨rfl, rfl⟩, rfl, rfl⟩ := e
    have e0 : l.tail = [] := by cases l with | nil => rfl | cons x r => simp at h1; simp [h1]
    rw [e0]
    exact .inr ⟨g, off, 0, cur, rfl, hg, Nat.le_refl _, by simp [maxLen], by omega, fun i hi => by simp at hi⟩

theorem tailOk {D : Dv} (h : D.ok) : ({ D with out := D.out.tail } : Dv).ok := ⟨h.n8, h.n4, h.now, h.sure, h.bnow, h.bsure, h.bout.tail, h.since, h.fuse⟩

set_option maxHeartbeats 400000 in
theorem outcome_any {w : World} {p : Nat} {F : Nat → Prop} {D : Dv} (h : Dev w p F D) :
    Calls Tryz.prog 86 #[.pointer (some ⟨p, 0, none⟩)] w fun e w' => e = .returned (.int .u8 (D.out.getD 0 0)) ∧ Dev w' p F { D with out := D.out.tail } ∧ Ch w.heap.size F w w' := by
  obtain ⟨ok, hF, gN, gL, cN, cL, vS, vO, f, hc, hfo⟩ := h
  obtain ⟨_, _, _, c3, _, _, _, z⟩ := hc.at
  have z3 := z 3
  have hp : F p := hfo p (.inl rfl)
  rcases id hc.out with ⟨rfl, h0⟩ | ⟨g, off, cap, cur, rfl, hg, h1, h2, h3, h4⟩
  · have hd : Hid (Dev w p F { D with out := D.out.tail }) := by
      have e : ({ D with out := D.out.tail } : Dv) = D := by rw [h0, List.tail_nil, ← h0]
      rw [e]
      exact ⟨ok, hF, gN, gL, cN, cL, vS, _, f, hc, hfo⟩
    have HL : Hid (D.out = []) := h0
    clear ok hc z h0
    go_enter Tryz.func86, Tryz.ntmps86
    go_wp2
    go_ret
    exact ⟨by rw [HL.out]; rfl, hd.out, Ch.refl _ _ _⟩
  · by_cases hl : D.out.length = 0
    · have h0 : D.out = [] := List.eq_nil_of_length_eq_zero hl
      have hd : Hid (Dev w p F { D with out := D.out.tail }) := by
        have e : ({ D with out := D.out.tail } : Dv) = D := by rw [h0, List.tail_nil, ← h0]
        rw [e]
        exact ⟨ok, hF, gN, gL, cN, cL, vS, _, f, hc, hfo⟩
      rw [hl] at c3
      have HL : Hid (D.out = []) := h0
      clear ok hc z h4 hl h0 h1
      go_enter Tryz.func86, Tryz.ntmps86
      go_wp2
      go_ret
      exact ⟨by rw [HL.out]; rfl, hd.out, Ch.refl _ _ _⟩
    · have hg0 : w.cell? ⟨g, off, none⟩ = some (.int .u8 (D.out.getD 0 0)) := by
        have := h4 0 (by omega)
        rw [Nat.add_zero] at this
        rw [cell_of_row w g off cur _ (0, 0) hg, this]
      by_cases hc1 : cap = 1
      · subst hc1
        have hd : Hid (Dev (w.setCell ⟨p, 3, none⟩ (.slice (some ⟨g, off, none⟩) 0 0)) p F { D with out := D.out.tail }) :=
          ⟨tailOk ok, fun k hk => by rw [size_setCell]; exact hF k hk, gN, gL, cN, cL, vS, _, f, hc.set3 _ _ hc.out.tl0 rfl, fun k hk => hfo k hk⟩
        have e1 : D.out.length = 1 := by omega
        rw [e1] at c3
        clear ok hc z h4 hl h1 e1 hfo
        go_enter Tryz.func86, Tryz.ntmps86
        go_wp2
        go_ret
        exact ⟨rfl, hd.out, Ch.set hp _ _⟩
      · obtain ⟨m, hm⟩ : ∃ m, cap = m + 1 := ⟨cap - 1, by omega⟩
        obtain ⟨L, hL⟩ : ∃ L, D.out.length = L + 1 := ⟨D.out.length - 1, by omega⟩
        have hd : Hid (Dev (w.setCell ⟨p, 3, none⟩ (.slice (some ⟨g, off + 1, none⟩) L m)) p F { D with out := D.out.tail }) := by
          have e := hc.out.tl (by omega)
          rw [hL, hm, Nat.add_sub_cancel, Nat.add_sub_cancel] at e
          exact ⟨tailOk ok, fun k hk => by rw [size_setCell]; exact hF k hk, gN, gL, cN, cL, vS, _, f, hc.set3 _ _ e rfl, fun k hk => hfo k hk⟩
        subst hm
        have hm0 : ¬ m = 0 := by omega
        have h1' : L ≤ m := by omega
        unfold maxLen at h2
        rw [hL] at c3
        clear ok hc z h4 hl h1 hL hfo hc1
        go_enter Tryz.func86, Tryz.ntmps86
        go_wp2
        go_ret
        exact ⟨rfl, hd.out, Ch.set hp _ _⟩
end Go.Proofs.YtojckbhbnalkeaaGreat.Oct

/-
  device.settle.
-/
namespace Go.Proofs.YtojckbhbnalkeaaGreat.Oct
open Go.RowKit

theorem cell_setRow_far (w : World) (g : Nat) (cs : Array Value) (a : Addr) (h : a.block ≠ g) : (w.setRow g cs).cell? a = w.cell? a := World.cell?_of_block (w := w) (setRow_other w g a.block cs h)
theorem frozen_setRow_far (w : World) (g : Nat) (cs : Array Value) (a : Addr) (h : a.block ≠ g) : (w.setRow g cs).frozen? a = w.frozen? a := World.frozen?_of_block (w := w) (setRow_other w g a.block cs h)

theorem lay'_all (zs cs : List Int) (h : zs.length = cs.length) : lay' zs 0 cs = cs := by
  simp [lay', h]

theorem DevC.settled {w w1 : World} {p gN gL cN cL : Nat} {vS vO : Value} {f : Int} {D : Dv} (h : DevC w p gN gL cN cL vS vO f D) (hl : D.sure.length = D.now.length) (hw : w1.heap[p]? = w.heap[p]?) (hr : ∀ g, g ≠ p → g ≠ gL → w1.heap[g]? = w.heap[g]?)
    (ho : Own 0 w1 (.slice (some ⟨gL, 0, none⟩) D.now.length cL) D.now) : DevC (w1.setCell ⟨p, 2, none⟩ (.slice none 0 0)) p gN gL cN cL (.slice none 0 0) vO f (setD D) := by
  have k : ∀ g, g ≠ p → (w1.setCell ⟨p, 2, none⟩ (.slice none 0 0)).heap[g]? = w1.heap[g]? := fun g hg => Below.heap_setCell w1 ⟨p, 2, none⟩ (.slice none 0 0) g hg
  have hc := setCell_heap w1 p 2 (.slice none 0 0) _ _ _ (hw.trans h.cells)
  refine { h with cells := ?_, now := ?_, sure := ?_, since := World.ownsRow_nil _ _ _ _, out := ?_, fuse := h.fuse, pS := by simp [Value.ownBlock], NS := by simp [Value.ownBlock], LS := by simp [Value.ownBlock], SO := fun g hg => by simp [Value.ownBlock] at hg }
  · rw [hc, hl]; rfl
  · exact h.now.kept ((k gN h.pN.symm).trans (hr gN h.pN.symm h.NL))
  · exact ho.kept (k gL h.pL.symm)
  · exact h.out.keep (fun g hg => (k g (fun e => h.pO (e ▸ hg))).trans (hr g (fun e => h.pO (e ▸ hg)) (fun e => h.LO (e ▸ hg))))

end Go.Proofs.YtojckbhbnalkeaaGreat.Oct
