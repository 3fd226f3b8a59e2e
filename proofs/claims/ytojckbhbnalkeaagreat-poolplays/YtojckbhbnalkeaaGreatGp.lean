/-
  append to a slice that may begin in the midst of its row (the outcomes); device.Outcomes.
-/
import Derived.Test.YtojckbhbnalkeaaGreatGe
import Derived.ArgAppend
import Derived.Maps.AppendAt
import Derived.Test.YtojckbhbnalkeaaGreatGn
import Derived.Test.YtojckbhbnalkeaaGreatGj
import Derived.Test.YtojckbhbnalkeaaGreatGc
namespace Go.Proofs.YtojckbhbnalkeaaGreat.Oct
open Go.RowKit

theorem run_append_mid {P : Program} (w : World) (t ty e : TypeId) (i : TypeInfo) (ht : P.underlying t = some (.slice e)) (hi : P.info? e = some i)
    (g off sLen sCap : Nat) (cur : Array Value) (hg : w.heap[g]? = some (.cells cur e (0, 0)))
    (a : Addr) (m c : Nat) (news : List Value) (hl : news.length = m * i.size) (hnews : ∀ j u, news[j]? = some u → w.cell? (a.add j) = some u) (h1 : ∀ u ∈ news, u.oneCell' = true)
    (hroom : sLen + m ≤ sCap) (hfit : off + sLen * i.size + news.length ≤ cur.size) :
    (Builtin.append_ #[t, t] ty #[.slice (some ⟨g, off, none⟩) sLen sCap, .slice (some a) m c]).run P w =
      .ok (.slice (some ⟨g, off, none⟩) (sLen + m) sCap) (w.setRow g (cur.toList.take (off + sLen * i.size) ++ news ++ cur.toList.drop (off + sLen * i.size + news.length)).toArray) := by
  have hf := run_firstCells_some (P := P) w i.size m a m c news hl hnews
  have hst := run_storeCells_at P g (off + sLen * i.size) e news 0 cur w hg (by simpa using hfit) h1
  simp only [Nat.add_zero] at hst
  simp [Builtin.append_, run_underlying ht, sizeOf, typeInfo, hi, Builtin.lenOf, hroom, hf, Addr.add_lit, hst]

theorem OutAt.of_own {w : World} {base n : Nat} {v : Value} {zs : List Int} (h : w.ownsRow base 5 1 v n (zs.map (Value.int .u8))) : OutAt w v zs := by
  have hn : n = zs.length := by have := h.1; simp at this; omega
  subst hn
  rcases h.2 with ⟨e, h0⟩ | ⟨g, cap, cur, e, _, hg, h1, h2, h3, h4⟩
  · exact .inl ⟨by rw [e], List.eq_nil_of_length_eq_zero h0⟩
  · refine .inr ⟨g, 0, cap, cur, e, hg, h1, h2, by omega, fun i hi => ?_⟩
    rw [Nat.mul_one] at h4
    have : (cur.toList.take zs.length)[i]? = some (.int .u8 (zs.getD i 0)) := by rw [h4, List.getElem?_map, List.getD_eq_getElem?_getD, List.getElem?_eq_getElem hi]; rfl
    rw [List.getElem?_take, if_pos hi] at this
    rw [Nat.zero_add]
    simpa using this

theorem append_out (w : World) (v : Value) (zs ls : List Int) (hO : OutAt w v zs) (sa : Option Addr) (c : Nat) (hl : Row w sa c ls) (hnil : sa = none → c = 0) (hsz : zs.length + ls.length ≤ 1000000) (ty : TypeId) :
    ∃ v' w', (Builtin.append_ #[38, 38] ty #[v, .slice sa ls.length c]).run Tryz.prog w = .ok v' w' ∧ OutAt w' v' (zs ++ ls) ∧ w.grownBy w' v.ownBlock ∧ (∀ k, v'.ownBlock = some k → v.ownBlock = some k ∨ w.heap.size ≤ k) := by
  obtain ⟨i0, hi, hz0, hz1, hz2⟩ := info_parts info5
  cases sa with
  | none =>
    have hz : ls = [] := by
      rcases hl.2.2.2 with h | ⟨b, off, e, _⟩
      · exact h
      · exact absurd e (by simp)
    subst hz
    rw [hnil rfl, List.append_nil]
    rcases id hO with ⟨rfl, rfl⟩ | ⟨g, off, cap, cur, rfl, hg, h1, h2, h3, h4⟩
    · exact ⟨.slice none 0 0, w, by simp [Builtin.append_, run_underlying Tryz.underlying38, sizeOf, typeInfo, hi, Builtin.lenOf, Builtin.firstCells], hO, ⟨rfl, rfl, rfl, Nat.le_refl _, fun _ _ _ => rfl⟩, fun k hk => .inl hk⟩
    · exact ⟨.slice (some ⟨g, off, none⟩) zs.length cap, w, by simp [Builtin.append_, run_underlying Tryz.underlying38, sizeOf, typeInfo, hi, Builtin.lenOf, Builtin.firstCells, h1, storeCells], hO, ⟨rfl, rfl, rfl, Nat.le_refl _, fun _ _ _ => rfl⟩, fun k hk => .inl hk⟩
  | some ad =>
    have hn := row_news hl
    rcases id hO with ⟨rfl, rfl⟩ | ⟨g, off, cap, cur, rfl, hg, h1, h2, h3, h4⟩
    · obtain ⟨v', w', hr, ho, hgr, _, hat⟩ := run_append_own_at (P := Tryz.prog) w 0 38 ty 5 i0 (.int .u8 0) 1 1 Tryz.underlying38 hi hz0 hz1 hz2 rfl (by decide) _ _ _ (World.ownsRow_nil w 0 5 1) ad ls.length c (ls.map (Value.int .u8)) (by simp) hn (one_cells ls) (by unfold maxLen; simp at hsz; omega) (by simp at hsz; omega) (by simp)
      exact ⟨v', w', hr, OutAt.of_own (by simpa using ho), hgr, fun k hk => by rcases hat with e | e; exact .inl (by rw [← e]; exact hk); right; rw [e] at hk; simp at hk; omega⟩
    · by_cases hr : zs.length + ls.length ≤ cap
      · have hrun := run_append_mid (P := Tryz.prog) w 38 ty 5 i0 Tryz.underlying38 hi g off zs.length cap cur hg ad ls.length c (ls.map (Value.int .u8)) (by rw [hz1]; simp) hn (one_cells ls) hr (by rw [hz1]; simp; omega)
        refine ⟨_, _, hrun, .inr ⟨g, off, cap, _, by simp, setRow_heap w g cur _ _ _ hg, by simp; omega, h2, ?_, fun i hi => ?_⟩, ⟨rfl, rfl, rfl, by simp [World.setRow], fun k _ hk => setRow_other w g k _ (by intro e; apply hk; rw [e]; rfl)⟩, fun k hk => .inl hk⟩
        · simp [hz1]; omega
        · have hcl : cur.toList.length = cur.size := by simp
          simp only [List.length_append] at hi
          rw [hz1, Nat.mul_one, List.getElem?_toArray, app_at]
          by_cases hlt : i < zs.length
          · rw [if_pos hlt, List.append_assoc, List.getElem?_append_left (by simp; omega), List.getElem?_take, if_pos (by omega)]
            simpa using h4 i hlt
          · rw [if_neg hlt, List.append_assoc, List.getElem?_append_right (by simp; omega), List.getElem?_append_left (by simp; omega), List.length_take, Nat.min_eq_left (by omega), show off + i - (off + zs.length) = i - zs.length by omega, List.getElem?_map, List.getD_eq_getElem?_getD, List.getElem?_eq_getElem (by omega)]
            rfl
      · have hold : ∀ j u, (zs.map (Value.int .u8))[j]? = some u → w.cell? ((⟨g, off, none⟩ : Addr).add j) = some u := by
          intro j u hj
          have hj2 : j < zs.length := by have := (List.getElem?_eq_some_iff.1 hj).1; simpa using this
          rw [Addr.add_lit, cell_of_row w g (off + j) cur _ (0, 0) hg, h4 j hj2, ← hj, List.getElem?_map, List.getD_eq_getElem?_getD, List.getElem?_eq_getElem hj2]
          rfl
        obtain ⟨v', w', hrun, ho, hgr⟩ := run_append_arg_grows (P := Tryz.prog) w 38 ty 5 i0 (.int .u8 0) 1 1 Tryz.underlying38 hi hz0 hz1 hz2 rfl (by decide) ⟨g, off, none⟩ zs.length cap (zs.map (Value.int .u8)) (by simp) hold ad ls.length c (ls.map (Value.int .u8)) (by simp) hn (by omega) (by unfold maxLen; omega) (by omega)
        refine ⟨v', w', hrun, OutAt.of_own (by rw [List.map_append]; exact ho), ⟨hgr.os, hgr.tape, hgr.output, hgr.size, fun k hk _ => hgr.block k hk (by simp)⟩, fun k hk => .inr (World.ownsRow.lt ho k hk).1⟩

theorem OutAt.slice {w : World} {v : Value} {zs : List Int} (h : OutAt w v zs) : ∃ a n c, v = .slice a n c := by
  rcases h with ⟨h, _⟩ | ⟨g, off, cap, cur, e, _⟩
  · exact ⟨_, _, _, h⟩
  · exact ⟨_, _, _, e⟩

theorem wpList_append_out {w : World} {ops : Array Oper} {rest : List Oper} {o : Oper} {a : Act} {Q : Exit → Act → World → Prop} (hgd : o.guard = none) (s x : Operand)
    (ho : o.op = .call { callee := .builtin .append, args := #[s, x], argTypes := #[38, 38] })
    (v : Value) (zs ls : List Int) (hs : a.eval s = v) (hO : OutAt w v zs) (sa : Option Addr) (c : Nat) (hx : a.eval x = .slice sa ls.length c) (hl : Row w sa c ls) (hnil : sa = none → c = 0) (hsz : zs.length + ls.length ≤ 1000000)
    (h : ∀ b n k w', OutAt w' (.slice b n k) (zs ++ ls) → w.grownBy w' v.ownBlock → (∀ k', (Value.slice b n k).ownBlock = some k' → v.ownBlock = some k' ∨ w.heap.size ≤ k') → wpList Tryz.prog ops Q rest (a.put o.dst (.slice b n k)) w') : wpList Tryz.prog ops Q (o :: rest) a w := by
  refine wpList_plain hgd fun K hK' => ?_
  obtain ⟨v', w', hr, h1, h2, h3⟩ := append_out w v zs ls hO sa c hl hnil hsz o.type
  obtain ⟨b, n, k, rfl⟩ := h1.slice
  unfold Oper.wp
  simp [execOp, ho, resolve, invoke, builtin, hs, hx, hr, Result.andThen]
  exact hK' _ _ (h b n k w' h1 h2 h3)

theorem outed {w w2 : World} {p : Nat} {F : Nat → Prop} {D : Dv} {gN gL cN cL : Nat} {vS vO v : Value} {f : Int} {l : List Int} (ok : (outD D l).ok) (hF : ∀ k, F k → k < w.heap.size) (h : DevC w p gN gL cN cL vS vO f D) (hfo : ∀ k, foot p gN gL vS vO k → F k)
    (ho : OutAt w2 v (D.out ++ l)) (hgrow : w.grownBy w2 vO.ownBlock) (hat : ∀ k, v.ownBlock = some k → vO.ownBlock = some k ∨ w.heap.size ≤ k) (hlt : ∀ k, v.ownBlock = some k → k < w2.heap.size) :
    ∃ F', Dev (w2.setCell ⟨p, 3, none⟩ v) p F' (outD D l) ∧ Step F F' w (w2.setCell ⟨p, 3, none⟩ v) := by
  have s2 := hgrow.size
  have hp : p < w.heap.size := hF p (hfo p (.inl rfl))
  have hN : gN < w.heap.size := hF gN (hfo gN (.inr (.inl rfl)))
  have hL : gL < w.heap.size := hF gL (hfo gL (.inr (.inr (.inl rfl))))
  have k2 : ∀ k, k < w.heap.size → vO.ownBlock ≠ some k → w2.heap[k]? = w.heap[k]? := fun k hk hne => hgrow.block k hk (fun e => hne e.symm)
  have k3 : ∀ k, k ≠ p → (w2.setCell ⟨p, 3, none⟩ v).heap[k]? = w2.heap[k]? := fun k hk => Below.heap_setCell w2 ⟨p, 3, none⟩ _ k hk
  have nv : ∀ k, k < w.heap.size → vO.ownBlock ≠ some k → v.ownBlock ≠ some k := fun k hk hne e => by
    rcases hat k e with e2 | e2
    · exact hne e2
    · omega
  have hcells : w2.heap[p]? = w.heap[p]? := k2 p hp h.pO
  refine ⟨fun k => F k ∨ w.heap.size ≤ k ∧ k < w2.heap.size, ⟨ok, fun k hk => ?_, gN, gL, cN, cL, vS, v, f, ?_, fun k hk => ?_⟩, ?_, ?_⟩
  · rw [size_setCell]
    rcases hk with hk | hk
    · have := hF k hk; omega
    · exact hk.2
  · refine { h with cells := ?_, now := ?_, sure := ?_, since := ?_, out := ?_, fuse := h.fuse, pO := nv p hp h.pO, NO := nv gN hN h.NO, LO := nv gL hL h.LO, SO := fun k hk => nv k (hF k (hfo k (.inr (.inr (.inr (.inl hk)))))) (h.SO k hk) }
    · rw [setCell_heap w2 p 3 v _ _ _ (hcells.trans h.cells)]
      rfl
    · exact h.now.kept ((k3 gN h.pN.symm).trans (k2 gN hN h.NO))
    · exact h.sure.kept ((k3 gL h.pL.symm).trans (k2 gL hL h.LO))
    · exact owns_keep h.since (fun k hk => (k3 k (fun e => h.pS (e ▸ hk))).trans (k2 k (hF k (hfo k (.inr (.inr (.inr (.inl hk)))))) (h.SO k hk)))
    · exact ho.keep (fun k hk => k3 k (fun e => nv p hp h.pO (e ▸ hk)))
  · rcases hk with hk | hk | hk | hk | hk
    · exact .inl (hfo k (.inl hk))
    · exact .inl (hfo k (.inr (.inl hk)))
    · exact .inl (hfo k (.inr (.inr (.inl hk))))
    · exact .inl (hfo k (.inr (.inr (.inr (.inl hk)))))
    · rcases hat k hk with e | e
      · exact .inl (hfo k (.inr (.inr (.inr (.inr e)))))
      · exact .inr ⟨e, hlt k hk⟩
  · exact ((Ch.refl _ F w).grown hgrow (Nat.le_refl _) (fun k hk => .inr (hfo k (.inr (.inr (.inr (.inr hk))))))).setCell (p := ⟨p, 3, none⟩) (.inr (hfo p (.inl rfl))) _
  · intro k hk
    rcases hk with hk | hk
    · exact .inl hk
    · exact .inr hk.1

theorem OutAt.lt {w : World} {v : Value} {zs : List Int} (h : OutAt w v zs) (k : Nat) (hk : v.ownBlock = some k) : k < w.heap.size := by
  rcases h with ⟨rfl, _⟩ | ⟨g, off, cap, cur, rfl, hg, _⟩
  · simp [Value.ownBlock] at hk
  · simp [Value.ownBlock] at hk; subst hk; exact heap_lt hg

set_option maxHeartbeats 1000000 in
theorem outcomes_any {w : World} {p : Nat} {F : Nat → Prop} {D : Dv} (h : Dev w p F D) (a : Option Addr) (cap : Nat) (l : List Int) (hr : Row w a cap l) (hnil : a = none → cap = 0) (hsz : D.out.length + l.length ≤ 1000000) :
    Calls Tryz.prog 24 #[.pointer (some ⟨p, 0, none⟩), .slice a l.length cap] w fun e w' => e = .returned (.tuple #[]) ∧ ∃ F', Dev w' p F' (outD D l) ∧ Step F F' w w' := by
  have hm := made_any h
  have ok' := outD_ok h.1 hr.1
  obtain ⟨ok, hF, gN, gL, cN, cL, vS, vO, f, hc, hfo⟩ := h
  obtain ⟨_, _, _, c3, _, _, _, z⟩ := hc.at
  have z3 := z 3
  have hp : p < w.heap.size := hF p (hfo p (.inl rfl))
  have hend := fun (w2 : World) (v : Value) ho hgrow hat hlt => outed (w := w) (w2 := w2) (v := v) (l := l) ok' hF hc hfo ho hgrow hat hlt
  have HE : Hid _ := hend
  have HO : Hid (OutAt w vO D.out) := hc.out
  have HR : Hid (Row w a cap l) := hr
  have hpO := hc.pO
  obtain ⟨b0, n0, k0, hv0⟩ := hc.out.slice
  rw [hv0] at HO hpO HE c3
  clear hend ok ok' hF hc hfo z hr hv0
  go_enter Tryz.func24, Tryz.ntmps24
  go_wp2_with (first | (go_at_call 65; refine hm.mono ?_; rintro e w' ⟨rfl, rfl⟩) | (at_builtin; refine wpList_append_out rfl (.tmp 10) (.tmp 11) rfl (.slice b0 n0 k0) D.out l rfl HO.out a cap rfl HR.out hnil hsz ?_; intro b n k w2 ho2 hgr2 hat2; have d3 : w2.cell? ⟨p, 3, none⟩ = some (.slice b0 n0 k0) := (World.cell?_of_block (w := w) (a := ⟨p, 3, none⟩) (hgr2.block p hp (fun e => hpO e.symm))).trans c3; have y3 : w2.frozen? ⟨p, 3, none⟩ = false := (World.frozen?_of_block (w := w) (a := ⟨p, 3, none⟩) (hgr2.block p hp (fun e => hpO e.symm))).trans z3; have HX : Hid _ := HE.out w2 (.slice b n k) ho2 hgr2 hat2 ho2.lt; clear ho2 hgr2 hat2))
  go_end0
  exact ⟨rfl, HX.out⟩
end Go.Proofs.YtojckbhbnalkeaaGreat.Oct

/-
  device.Crash.
-/
namespace Go.Proofs.YtojckbhbnalkeaaGreat.Oct
open Go.RowKit
attribute [local go_sem ↓] loadW_eq allocW_eq storeW_eq

theorem scells_at : ∀ (l : List (Nat × List Int)), (∀ x ∈ l, x.2.length = 256) → ∀ (k j : Nat), j < 257 → k < l.length → (scells l)[k * 257 + j]? = (wcells (l.getD k (0, [])))[j]?
  | [], _, k, _, _, hk => by simp at hk
  | x :: r, h, 0, j, hj, _ => by
    have hl := wcells_len (h x (by simp))
    show (wcells x ++ scells r)[0 * 257 + j]? = _
    rw [Nat.zero_mul, Nat.zero_add, List.getElem?_append_left (by omega)]
    rfl
  | x :: r, h, k + 1, j, hj, hk => by
    have hl := wcells_len (h x (by simp))
    show (wcells x ++ scells r)[(k + 1) * 257 + j]? = _
    rw [List.getElem?_append_right (by omega), hl, show (k + 1) * 257 + j - 257 = k * 257 + j by omega, scells_at r (fun y hy => h y (by simp [hy])) k j hj (by simp at hk; omega)]
    rfl

theorem since_range {w : World} {g n cap : Nat} {l : List (Nat × List Int)} (h : w.ownsRow 0 104 257 (.slice (some ⟨g, 0, none⟩) n cap) n (scells l)) (hn : n = l.length) (hl : ∀ x ∈ l, x.2.length = 256) (k : Nat) (hk : k < n) : w.rangeAt g (k * 257) (wcells (l.getD k (0, []))) := by
  intro j v hj
  have hm : l.getD k (0, []) ∈ l := by rw [List.getD_eq_getElem?_getD, List.getElem?_eq_getElem (by omega)]; exact List.getElem_mem _
  have hj2 : j < 257 := by have := (List.getElem?_eq_some_iff.1 hj).1; rw [wcells_len (hl _ hm)] at this; exact this
  have hb : (k + 1) * 257 ≤ n * 257 := Nat.mul_le_mul_right _ hk
  rw [World.ownsRow.cellAt h (k * 257 + j) (by omega), scells_at l hl k j hj2 (by omega)]
  exact hj

theorem fallK_ok {D : Dv} (h : D.ok) (ch : List Int) (k : Nat) : Bys (fallK D.sure D.since ch k) := fallK_bys ch h.bsure (fun x hx => (h.since x hx).2.2) k

end Go.Proofs.YtojckbhbnalkeaaGreat.Oct

/-
  Pages of bytes that the statements make: ones, Page.
-/
namespace Go.Proofs.YtojckbhbnalkeaaGreat.Oct
open Go.RowKit

/-- A page's bytes, the first k of them laid. -/
def fl (f : Nat → Int) (k : Nat) : List Int := (List.range 256).map fun i => if i < k then f i else 0

theorem fl_len (f : Nat → Int) (k : Nat) : (fl f k).length = 256 := by simp [fl]
theorem fl_at (f : Nat → Int) (k i : Nat) (hi : i < 256) : (fl f k).getD i 0 = if i < k then f i else 0 := by
  unfold fl
  rw [List.getD_eq_getElem?_getD, List.getElem?_map, List.getElem?_range hi]
  rfl
theorem set_at' (zs : List Int) (j : Nat) (y : Int) (i : Nat) (hi : i < zs.length) : (zs.set j y).getD i 0 = if i = j then y else zs.getD i 0 := by
  rw [List.getD_eq_getElem?_getD, List.getD_eq_getElem?_getD, List.getElem?_set]
  by_cases h : i = j
  · subst h; simp [hi]
  · simp [h, show ¬ j = i by omega]
theorem fl_set (f : Nat → Int) (k : Nat) : (fl f k).set k (f k) = fl f (k + 1) := by
  refine eq_of_getD (by simp [fl_len]) fun i hi => ?_
  rw [List.length_set, fl_len] at hi
  rw [set_at' _ _ _ _ (by rw [fl_len]; exact hi), fl_at _ _ _ hi, fl_at _ _ _ hi]
  by_cases h : i = k
  · rw [if_pos h, if_pos (by omega), h]
  · have e : (i < k + 1) = (i < k) := propext (by omega)
    rw [if_neg h]
    simp only [e]
theorem fl_zero (f : Nat → Int) : fl f 0 = List.replicate 256 0 := by
  refine eq_of_getD (by rw [fl_len, List.length_replicate]) fun i hi => ?_
  rw [fl_len] at hi
  rw [fl_at _ _ _ hi, if_neg (by omega), List.getD_eq_getElem?_getD, List.getElem?_replicate]
  split <;> rfl
/-- All of them. -/
def pgL (f : Nat → Int) : List Int := fl f 256
theorem pgL_at (f : Nat → Int) (i : Nat) (hi : i < 256) : (pgL f).getD i 0 = f i := by rw [pgL, fl_at _ _ _ hi, if_pos hi]
theorem pgL_len (f : Nat → Int) : (pgL f).length = 256 := fl_len _ _
theorem fl_bys {f : Nat → Int} (h : ∀ i, 0 ≤ f i ∧ f i ≤ 255) (k : Nat) : Bys (fl f k) := by
  intro z hz
  obtain ⟨i, _, rfl⟩ := List.mem_map.1 hz
  split
  · exact h i
  · omega

def msr (n : Int) : Nat := (256 - n).toNat

theorem made_fl {B g : Nat} {w : World} (f : Nat → Int) (h : w.ownsRow B 5 1 (.slice (some ⟨g, 0, none⟩) 256 256) 256 (madeCells (Value.int .u8 0).cells (256 * 1)).toList) : Own B w (.slice (some ⟨g, 0, none⟩) 256 256) (fl f 0) := by
  rw [fl_zero]
  exact made_own h

/-- The byte at place i of Page(fill, n). -/
def pgB (fill n : Int) (i : Nat) : Int := (fill + (i / 64 : Nat) * n) % 256

theorem pgB_eq (fill n : Int) (k : Nat) : (fill + wrap64 ((k : Int) / 64 * n)) % 256 = pgB fill n k := by
  unfold pgB
  rw [show ((k / 64 : Nat) : Int) = (k : Int) / 64 by omega]
  generalize (k : Int) / 64 * n = x
  unfold wrap64
  omega

theorem pgB_by (fill n : Int) (i : Nat) : 0 ≤ pgB fill n i ∧ pgB fill n i ≤ 255 := by unfold pgB; omega

set_option maxRecDepth 20000 in
set_option maxHeartbeats 1000000 in
theorem page_any (fill n : Int) (w : World) : Calls Tryz.prog 15 #[.int .u8 fill, .int .i64 n] w fun e w' => e = .returned (.slice (some ⟨w.heap.size, 0, none⟩) 256 256) ∧ Own w.heap.size w' (.slice (some ⟨w.heap.size, 0, none⟩) 256 256) (pgL (pgB fill n)) ∧ Below w.heap.size w w' := by
  obtain ⟨i0, hi0, hz0, hz1, hz2⟩ := info_parts info5
  go_enter Tryz.func15, Tryz.ntmps15
  go_wp2_with (at_make; refine wpList_make_full _ rfl _ _ 38 rfl w.heap.size 5 i0 (.int .u8 0) 1 Tryz.underlying38 hi0 hz0 hz1 .i64 .i64 _ _ 256 rfl rfl rfl rfl (by rw [hz2]; omega) (by simp [maxLen]) (Nat.le_refl _) ?_; intro w1 hown1 hgrow1; have hbel1 : Below w.heap.size w w1 := (Below.refl w.heap.size w).grown hgrow1 (Nat.le_refl _) (by simp); have ho1 : Hid (Own w.heap.size w1 (.slice (some ⟨w.heap.size, 0, none⟩) 256 256) (fl (pgB fill n) 0)) := made_fl _ hown1; clear hown1 hgrow1)
  go_loopw [6] (fun i wr => ∃ k : Nat, k ≤ 256 ∧ i = .int .i64 k ∧ Own w.heap.size wr (.slice (some ⟨w.heap.size, 0, none⟩) 256 256) (fl (pgB fill n) k) ∧ Below w.heap.size w wr) (fun i _ => msr (intOf i))
  case atStart => exact ⟨0, by omega, rfl, ho1.out, hbel1⟩
  case round =>
    obtain ⟨k, hk, rfl, hown, hb⟩ := hrel
    by_cases hlt : k < 256
    · obtain ⟨-, hc, hf, hst⟩ := own_at' hown k (by rw [fl_len]; exact hlt)
      have HS : Hid (Own w.heap.size (wr.setCell ⟨w.heap.size, k, none⟩ (.int .u8 ((fill + wrap64 ((k : Int) / 64 * n)) % 256))) (.slice (some ⟨w.heap.size, 0, none⟩) 256 256) (fl (pgB fill n) (k + 1))) := by
        have := hst (pgB fill n k)
        rw [fl_set (pgB fill n) k] at this
        rw [pgB_eq]
        exact this
      obtain ⟨c, hcc⟩ : ∃ c : Int, (fl (pgB fill n) k).getD k 0 = c := ⟨_, rfl⟩
      rw [hcc] at hc
      clear hcc hst hown
      go_wp2
      go_roundw
      case rel => exact ⟨k + 1, by omega, by go_num, HS.out, hb.setCell (p := ⟨w.heap.size, k, none⟩) (Nat.le_refl _) _⟩
      case measure => simp only [intOf, msr]; omega
    · have e : k = 256 := by omega
      subst e
      have HO : Hid (Own w.heap.size wr (.slice (some ⟨w.heap.size, 0, none⟩) 256 256) (pgL (pgB fill n))) := by unfold pgL; exact hown
      clear hown
      go_wp2
      go_ret
      exact ⟨rfl, HO.out, hb⟩
end Go.Proofs.YtojckbhbnalkeaaGreat.Oct
