/-
  The program's audit: text.
-/
import Derived.Test.YtjllhcifmfhkmaaGreatAui
import Derived.Test.YtjllhcifmfhkmaaGreatQk
import Derived.Deep.AppendLies
import Derived.Deep.RegionHeld3
import Derived.BigRegion
import Derived.Test.YtjllhcifmfhkmaaGreatBk
namespace Go.Proofs.YtjllhcifmfhkmaaGreat.Oct
open Go.RowKit

/-- A piece that may be, behind a tree's pages. -/
def pcR (L : List Int) (R : List Bool) (x : C4) : Prop := pcK L x = true ∧ R.getD x.a.toNat false = false
/-- How text ends. -/
def TxE (w : World) (p d : Nat) (F : Nat → Prop) (D0 : Dv) (L : List Int) (R : List Bool) (pcs : List C4) (e : Ending) (w' : World) : Prop :=
  (∃ g c ts', e = .returned (.slice g (txs L pcs).length c) ∧ (∀ x ∈ pcs, pcR L R x) ∧ PWA w' p d F D0 L (mkR R (pgs pcs)) pcs ts' ∧ Own w.heap.size w' (.slice g (txs L pcs).length c) (txs L pcs) ∧ Ch w.heap.size F w w' ∧ w'.heap[p]? = w.heap[p]?) ∨
  AuBad w F d D0 R.length e w' (¬ ∀ x ∈ pcs, pcR L R x)

/-- So far as k pieces' bytes are read. -/
structure TxI (w wr : World) (p d : Nat) (F : Nat → Prop) (D0 : Dv) (L : List Int) (R : List Bool) (pcs : List C4) (aP : Option Addr) (cP k : Nat) (v : Value) (ts : List (Nat × Value)) : Prop where
  pw : ∃ FD gr cr m, PW wr p d F FD D0 L gr cr m aP cP (mkR R (pgs (pcs.take k))) pcs ts
  own : Own w.heap.size wr v (txs L (pcs.take k))
  ch : Ch w.heap.size F w wr
  ok : ∀ j, j < k → pcR L R (pcs.getD j c40)
  fd : ∀ n : Int, findV ts n = none ↔ ¬ ∃ j, j < k ∧ (pcs.getD j c40).a = n
  te : ∀ x ∈ ts, teE (pageOf L x.1) = 0
  tl : ts.length ≤ k
  dj : ∀ x ∈ ts, ∀ g, x.2.ownBlock = some g → ¬ v.ownBlock = some g
  hp : wr.heap[p]? = w.heap[p]?
theorem txs_bys {L : List Int} (hL : Bys L) (l : List C4) : Bys (txs L l) := by
  intro z hz
  obtain ⟨q, _, hq⟩ := List.mem_flatMap.1 hz
  unfold pcT seg teL at hq
  have h1 := List.mem_of_mem_drop (List.mem_of_mem_take hq)
  split at h1
  · exact opP_bys (page_bys hL _) z (List.mem_of_mem_take h1)
  · cases h1
theorem append_rowB {w : World} {ops : Array Oper} {rest : List Oper} {o : Oper} {a : Act} {Q : Exit → Act → World → Prop} (hgd : o.guard = none) (s x : Operand)
    (ho : o.op = .call { callee := .builtin .append, args := #[s, x], argTypes := #[30, 30] })
    (base : Nat) (v : Value) (xs : List Int) (hs : a.eval s = v) (hown : Own base w v xs) (ad : Addr) (zs : List Int) (n c : Nat) (hx : a.eval x = .slice (some ad) n c) (hn : zs.length = n) (hn0 : 0 < n)
    (hrow : Row w (some ad) c zs) (hsz : xs.length + n ≤ 100000000) (hbase : base ≤ w.heap.size)
    (h : ∀ g cap w', Own base w' (.slice (some ⟨g, 0, none⟩) (xs.length + n) cap) (xs ++ zs) → w.grownBy w' v.ownBlock → (v.ownBlock = some g ∨ g = w.heap.size) → wpList Tryz.prog ops Q rest (a.put o.dst (.slice (some ⟨g, 0, none⟩) (xs.length + n) cap)) w') : wpList Tryz.prog ops Q (o :: rest) a w := by
  subst hn
  obtain ⟨i0, hi, hz0, hz1, hz2⟩ := info_parts info5
  refine wpList_append_lies w hgd s x 30 ho base 5 i0 (.int .u8 0) 1 1 Tryz.underlying30 hi hz0 hz1 hz2 rfl (by decide) v _ _ hs hown ad _ c (zs.map (Value.int .u8)) hx (by simp) (row_news hrow) (one_cells zs) hn0 (by unfold maxLen; omega) (by omega) hbase _ rfl ?_
  intro g cap w' h1 h2 h3 _
  refine h g cap w' ?_ h2 h3
  unfold Own
  rw [List.length_append, List.map_append]
  exact h1
theorem PW.grown {w w2 : World} {p d gr cr m cP : Nat} {F FD : Nat → Prop} {D0 : Dv} {L : List Int} {aP : Option Addr} {R : List Bool} {pcs : List C4} {ts : List (Nat × Value)} {row : Option Nat} (h : PW w p d F FD D0 L gr cr m aP cP R pcs ts) (hg : w.grownBy w2 row) (hF : ∀ k, row = some k → ¬ F k) (hT : ∀ x ∈ ts, ∀ k, x.2.ownBlock = some k → ¬ row = some k) : PW w2 p d F FD D0 L gr cr m aP cP R pcs ts := by
  have hs := hg.size
  have kF : ∀ g, F g → w2.heap[g]? = w.heap[g]? := fun g h1 => hg.block g (h.lt g h1) (fun e => hF g e.symm h1)
  refine { h with lt := fun g hg => Nat.lt_of_lt_of_le (h.lt g hg) hs, dev := h.dev.keep hs (fun g hg => kF g (h.fD g hg)), cells := (kF p h.fp).trans h.cells, rch := h.rch.kept (kF gr h.fg), pc := h.pc.keepO (fun g hg => kF g (h.fP g hg)), tx := h.tx.keep (kF m h.fm), row := fun x hx => ?_ }
  obtain ⟨a, c, e, h1, h2⟩ := h.row x hx
  refine ⟨a, c, e, h1.keepO (fun g hg2 => hg.block g (h2 g hg2).2 (fun e2 => hT x hx g ?_ e2.symm)), fun g hg => ⟨(h2 g hg).1, Nat.lt_of_lt_of_le (h2 g hg).2 hs⟩⟩
  obtain ⟨y, rfl, rfl⟩ := hg2
  rw [e]
  rfl
theorem txs_succ {L : List Int} {l : List C4} {k : Nat} (hk : k < l.length) : txs L (l.take (k + 1)) = txs L (l.take k) ++ pcT L (l.getD k c40) := by
  rw [take_c4 hk, txs_app]
  simp [txs]
theorem pgs_succ {l : List C4} {k : Nat} (hk : k < l.length) : pgs (l.take (k + 1)) = pgs (l.take k) ++ [(l.getD k c40).a.toNat] := by
  rw [take_c4 hk, pgs_app]
  rfl
theorem pcT_le {L : List Int} {x : C4} : (pcT L x).length ≤ x.c.toNat := by unfold pcT seg; rw [List.length_take]; omega
theorem txs_take_le {L : List Int} {l : List C4} (h : ∀ x ∈ l, okC false x = true) : ∀ k, k ≤ l.length → (txs L (l.take k)).length ≤ 248 * k := by
  intro k
  induction k with
  | zero => intro _; simp [txs]
  | succ k ih =>
    intro hk
    have hb := okC_bd (h _ (getD_mem (show k < l.length by omega)))
    have hb5 := hb.2.2.2.2 rfl
    have h1 := pcT_le (L := L) (x := l.getD k c40)
    have h2 := ih (by omega)
    rw [txs_succ (by omega), List.length_append]
    omega

section
variable {w wr w' : World} {p d cP k : Nat} {F : Nat → Prop} {D0 : Dv} {L : List Int} {R : List Bool} {pcs : List C4} {ts : List (Nat × Value)} {aP : Option Addr} {v : Value}
theorem mem_take {l : List C4} {k : Nat} (hk : k ≤ l.length) {y : C4} : y ∈ l.take k ↔ ∃ j, j < k ∧ l.getD j c40 = y := by
  constructor
  · intro h
    obtain ⟨j, hj, e⟩ := List.getElem_of_mem h
    have hj' : j < k := by rw [List.length_take] at hj; omega
    refine ⟨j, hj', ?_⟩
    rw [List.getElem_take] at e
    rw [List.getD_eq_getElem?_getD, List.getElem?_eq_getElem (by omega)]
    exact e
  · rintro ⟨j, hj, rfl⟩
    have hj2 : j < (l.take k).length := by rw [List.length_take]; omega
    have : l.getD j c40 = (l.take k)[j] := by rw [List.getElem_take, List.getD_eq_getElem?_getD, List.getElem?_eq_getElem (by omega)]; rfl
    rw [this]
    exact List.getElem_mem hj2
theorem TxI.cond (h : TxI w wr p d F D0 L R pcs aP cP k v ts) (hN : pgN L = R.length) (hk : k ≤ pcs.length) (hpos : ∀ x ∈ pcs, 0 ≤ x.a) {na : Nat} : ((findV ts (na : Int)).isSome = true ∨ rcB (mkR R (pgs (pcs.take k))) (na : Int) = true) ↔ (na < R.length ∧ R.getD na false = false) := by
  constructor
  · rintro (h1 | h1)
    · have : ¬ findV ts (na : Int) = none := fun e => by rw [e] at h1; cases h1
      rw [h.fd] at this
      have h2 : ∃ j, j < k ∧ (pcs.getD j c40).a = (na : Int) := Classical.byContradiction this
      obtain ⟨j, hj, ej⟩ := h2
      obtain ⟨q1, q2⟩ := h.ok j hj
      have := (pcK_in q1).2
      rw [ej, Int.toNat_natCast] at this q2
      exact ⟨by omega, q2⟩
    · obtain ⟨-, r2, r3⟩ := rcB_out h1
      rw [mkR_len] at r2
      rw [Int.toNat_natCast, mkR_at (by omega)] at r3
      simp only [Bool.or_eq_false_iff] at r3
      exact ⟨by omega, r3.1⟩
  · rintro ⟨h1, h2⟩
    cases hf : findV ts (na : Int) with
    | some v => exact .inl rfl
    | none =>
      right
      have hno := (h.fd _).1 hf
      unfold rcB
      rw [mkR_len, Int.toNat_natCast, mkR_at h1, h2, decide_eq_true (show (0 : Int) ≤ (na : Int) by omega), decide_eq_true (show (na : Int) < (R.length : Int) by omega)]
      have : ¬ na ∈ pgs (pcs.take k) := fun e => by
        obtain ⟨y, hy, e2⟩ := List.mem_map.1 e
        obtain ⟨j, hj, rfl⟩ := (mem_take hk).1 hy
        refine hno ⟨j, hj, ?_⟩
        have := hpos _ (getD_mem (show j < pcs.length by omega))
        omega
      rw [decide_eq_false this]
      rfl
theorem TxI.next {wz w5 : World} {ts' : List (Nat × Value)} {n g cap na : Nat} {FD : Nat → Prop} {gr cr m : Nat} (h : TxI w wr p d F D0 L R pcs aP cP k v ts) (hk : k < pcs.length) (hF : ∀ k, F k → k < w.heap.size)
    (hpw : PW wz p d F FD D0 L gr cr m aP cP (mkR R (pgs (pcs.take (k + 1)))) pcs ts') (hch : Ch w.heap.size F w wz) (hov : Own w.heap.size wz v (txs L (pcs.take k)))
    (ho : Own w.heap.size w5 (.slice (some ⟨g, 0, none⟩) n cap) (txs L (pcs.take k) ++ pcT L (pcs.getD k c40))) (hg : wz.grownBy w5 v.ownBlock) (hl : v.ownBlock = some g ∨ g = wz.heap.size)
    (hok : pcR L R (pcs.getD k c40)) (hna : (pcs.getD k c40).a = (na : Int)) (hfd : ∀ n, findV ts' n = none ↔ (findV ts n = none ∧ ¬ n = (na : Int))) (hte : ∀ x ∈ ts', teE (pageOf L x.1) = 0) (htl : ts'.length ≤ ts.length + 1)
    (hdj : ∀ x ∈ ts', ∀ g, x.2.ownBlock = some g → ¬ v.ownBlock = some g) (hhp : wz.heap[p]? = w.heap[p]?) : TxI w w5 p d F D0 L R pcs aP cP (k + 1) (.slice (some ⟨g, 0, none⟩) n cap) ts' where
  pw := ⟨_, _, _, _, hpw.grown hg (fun k hk e => by have := hov.lt' k hk; have := hF k e; omega) hdj⟩
  own := by rw [txs_succ hk]; exact ho
  ch := hch.trans (Ch.of F ((Below.refl w.heap.size wz).grown hg hch.size (fun k hk => hov.lt' k hk)))
  ok := fun j hj => by
    by_cases h2 : j = k
    · rw [h2]; exact hok
    · exact h.ok j (by omega)
  fd := fun n => by
    rw [hfd, h.fd]
    constructor
    · rintro ⟨h1, h2⟩ ⟨j, hj, e⟩
      by_cases h3 : j = k
      · rw [h3, hna] at e
        exact h2 e.symm
      · exact h1 ⟨j, by omega, e⟩
    · intro h1
      refine ⟨fun ⟨j, hj, e⟩ => h1 ⟨j, by omega, e⟩, fun e => h1 ⟨k, by omega, ?_⟩⟩
      rw [hna, e]
  te := hte
  hp := (hg.block p (hpw.lt p hpw.fp) (fun e => by have := hov.lt' p e.symm; have := hF p hpw.fp; omega)).trans hhp
  tl := by have := h.tl; omega
  dj := fun x hx q hq => by
    rcases hl with hl | hl
    · have := hdj x hx q hq
      rw [hl] at this
      exact this
    · obtain ⟨a, c, e, h1, h2⟩ := hpw.row x hx
      rw [e] at hq
      cases a with
      | none => simp [Value.ownBlock] at hq
      | some y =>
        have e2 : y.block = q := by simpa [Value.ownBlock] using hq
        have := (h2 q ⟨y, rfl, e2⟩).2
        intro e3
        have e4 : g = q := by simpa [Value.ownBlock] using e3
        omega
theorem TxI.mk' (h : TxI w wr p d F D0 L R pcs aP cP k v ts) (hk : k ≤ pcs.length) {na : Nat} (hna : (na : Int) = (pcs.getD k c40).a) (hkl : k < pcs.length) : (if (findV ts (na : Int)).isSome = true then mkR R (pgs (pcs.take k)) else (mkR R (pgs (pcs.take k))).set na true) = mkR R (pgs (pcs.take (k + 1))) := by
  have e : (pcs.getD k c40).a.toNat = na := by omega
  rw [pgs_succ hkl, e, ← mkR_app]
  split
  · next h1 =>
    have : ¬ findV ts (na : Int) = none := fun e => by rw [e] at h1; cases h1
    rw [h.fd] at this
    obtain ⟨j, hj, ej⟩ : ∃ j, j < k ∧ (pcs.getD j c40).a = (na : Int) := Classical.byContradiction this
    have hmem : na ∈ pgs (pcs.take k) := List.mem_map.2 ⟨pcs.getD j c40, (mem_take hk).2 ⟨j, hj, rfl⟩, by omega⟩
    refine (getB_ext (by rw [mkR_len, mkR_len, mkR_len]) fun i hi => ?_)
    rw [mkR_at hi]
    by_cases hi2 : i = na
    · subst hi2
      rw [mkR_at (by rw [mkR_len] at hi; exact hi), decide_eq_true hmem]
      simp
    · simp [hi2]
  · rw [set_mkR]
end

section
variable {w w' : World} {p d : Nat} {F : Nat → Prop} {D0 : Dv} {L : List Int} {R : List Bool} {pcs : List C4}

set_option maxHeartbeats 4000000 in
set_option maxRecDepth 20000 in
theorem text_p (h : PWA w p d F D0 L R pcs []) (hpc : ∀ x ∈ pcs, okC false x = true) (hpl : pcs.length ≤ 81920) :
    Calls Tryz.prog 57 #[.pointer (some ⟨p, 0, none⟩)] w fun e w' => TxE w p d F D0 L R pcs e w' := by
  have hrn := h.rn
  obtain ⟨FD, gr, cr, m, aP, cP, h⟩ := h
  have c2 := h.at.2.2.1
  have HI0 : Hid (TxI w w p d F D0 L R pcs aP cP 0 (.slice none 0 0) []) := { pw := ⟨FD, gr, cr, m, by rw [List.take_zero]; show PW _ _ _ _ _ _ _ _ _ _ _ _ (mkR R []) _ _; rw [mkR_nil]; exact h⟩, own := ⟨rfl, .inl ⟨rfl, rfl⟩⟩, ch := Ch.refl _ _ _, ok := fun j hj => by omega, fd := fun n => by simp [findV], te := fun x hx => (by cases hx), tl := Nat.le_refl _, dj := fun x hx => (by cases hx), hp := rfl }
  have HR : Hid (R.length = D0.n ∧ R.length ≤ 4096 ∧ 8 ≤ R.length ∧ L.length = 256 * R.length ∧ Bys L) := hrn
  have HPG : Hid (pgN L = R.length) := by show _ = _; unfold pgN; rw [hrn.2.2.2.1]; omega
  have HPC : Hid (∀ x ∈ pcs, okC false x = true) := hpc
  have HFW : Hid (∀ k, F k → k < w.heap.size) := h.lt
  have HFP : Hid (F p) := h.fp
  have HPOS : Hid (∀ x ∈ pcs, 0 ≤ x.a) := fun x hx => by have := okC_bd (hpc x hx); omega
  obtain ⟨np, hnp⟩ : ∃ np, pcs.length = np := ⟨_, rfl⟩
  have HNP : Hid (pcs.length = np) := hnp
  rw [hnp] at c2 hpl
  clear h hrn hpc hnp
  go_enter Tryz.func57, Tryz.ntmps57
  go_wp2_with fail
  go_loopg [3, 13] np (fun gh v i wr => ∃ (k : Nat) (ts : List (Nat × Value)), k ≤ np ∧ gh = np - k ∧ i = .int .i64 k ∧ Hid (TxI w wr p d F D0 L R pcs aP cP k v ts))
  case atStart => exact ⟨0, [], Nat.zero_le _, rfl, rfl, HI0.out⟩
  case round =>
    clear HI0
    obtain ⟨k, ts, hk, hgk, rfl, HI⟩ := hrel
    have HGK : Hid (gk = np - k) := hgk
    clear hgk
    by_cases hlt : k < np
    · have hkl : k < pcs.length := by rw [HNP.out]; exact hlt
      obtain ⟨FDr, grr, crr, mr, hPW⟩ := HI.out.pw
      have hrow := (OwnC.row' hPW.pc (fun x hx => wfC_ok (HPC.out x hx))).2.1
      obtain ⟨b, off, hab⟩ := hrow.some' (by omega)
      subst hab
      have a4 := hrow.cells k hkl
      have hxo := HPC.out _ (getD_mem hkl)
      have hob := okC_bd hxo
      have hob5 := hob.2.2.2.2 rfl
      obtain ⟨x, hx⟩ : ∃ x, pcs.getD k c40 = x := ⟨_, rfl⟩
      rw [hx] at a4 hob hob5
      have HX : Hid (pcs.getD k c40 = x) := hx
      obtain ⟨xa, xb, xc, xd⟩ := x
      obtain ⟨a40, a41, a42, a43⟩ := a4
      simp only at a40 a41 a42 a43 hob hob5
      obtain ⟨na, rfl⟩ := Int.eq_ofNat_of_zero_le (show 0 ≤ xa by omega)
      obtain ⟨nb, rfl⟩ := Int.eq_ofNat_of_zero_le (show 0 ≤ xb by omega)
      obtain ⟨nc, rfl⟩ := Int.eq_ofNat_of_zero_le (show 0 ≤ xc by omega)
      have hbk := (Below.refl wr.heap.size wr).alloc (Nat.le_refl _) (.cells #[.int .i64 (na : Int), .int .i64 (nb : Int), .int .i64 (nc : Int), .int .i64 xd] 72)
      have htp := textPage_p (⟨_, _, _, _, _, _, hPW.below hbk⟩ : PWA _ p d F D0 L _ pcs ts) na (by omega) HI.out.te (by have := HI.out.tl; omega)
      have hke := heap_alloc_new wr (.cells #[.int .i64 (na : Int), .int .i64 (nb : Int), .int .i64 (nc : Int), .int .i64 xd] 72)
      have HF4 : Hid (∀ k, F k → k < wr.heap.size) := hPW.lt
      have HWR : Hid (∃ FD gr cr m, PW wr p d F FD D0 L gr cr m (some ⟨b, off, none⟩) cP (mkR R (pgs (pcs.take k))) pcs ts) := ⟨_, _, _, _, hPW⟩
      clear hx hrow hPW hxo
      go_upto_region 5 with fail
      obtain ⟨wk, hwk⟩ : ∃ wk, wr.alloc (.cells #[.int .i64 (na : Int), .int .i64 (nb : Int), .int .i64 (nc : Int), .int .i64 xd] 72) = wk := ⟨_, rfl⟩
      rw [hwk] at hbk htp hke ⊢
      obtain ⟨eb, heb⟩ : ∃ eb, wr.heap.size = eb := ⟨_, rfl⟩
      rw [heb] at hke ⊢
      have y0 : wk.cell? ⟨eb, 0, none⟩ = some (.int .i64 (na : Int)) := by rw [cell_of_row wk _ _ _ _ (0, 0) hke]; rfl
      have HKE : Hid (wk.heap[eb]? = some (.cells #[.int .i64 (na : Int), .int .i64 (nb : Int), .int .i64 (nc : Int), .int .i64 xd] 72 (0, 0)) ∧ Below wr.heap.size wr wk ∧ wr.heap.size = eb) := ⟨hke, hbk, heb⟩
      clear hke hbk hwk heb a40 a41 a42 a43
      go_wp2_with fail
      refine htp.mono ?_
      clear htp
      rintro e w3 hE3
      rcases hE3 with ⟨a, ca, ts', rfl, g1, g2, g3, g4, g5, g6, g7, g8, g9, g10, g11, g12⟩ | hbad
      rotate_left
      · have HE : Hid (TxE w p d F D0 L R pcs e w3) := by
          have st : Step F F w wk := (Step.of HI.out.ch).trans (Step.ofB HKE.out.2.1)
          have := hbad.mono (no' := ¬ ∀ x ∈ pcs, pcR L R x) st (fun hno hall => hno ?_)
          · rw [mkR_len] at this
            exact .inr this
          · obtain ⟨q1, q2⟩ := hall _ (getD_mem hkl)
            rw [HX.out] at q1 q2
            have q3 := (pcK_in q1).2
            simp only [Int.toNat_natCast] at q2 q3
            refine ⟨?_, (HI.out.cond HPG.out (by omega) HPOS.out).2 ⟨by rw [← HPG.out]; exact q3, q2⟩⟩
            unfold pcK at q1
            simp only [Bool.and_eq_true, decide_eq_true_eq, Int.toNat_natCast] at q1
            exact q1.2.1
        rcases hbad.is with rfl | rfl
        · unfold thrA at HE ⊢
          clear hbad
          go_wp2
          exact ⟨rfl, HE.out⟩
        · unfold thrA at HE ⊢
          clear hbad
          go_wp2
          exact ⟨rfl, HE.out⟩
      rw [HI.out.mk' (by omega) (by rw [HX.out]) hkl] at g3
      have hcnd := (HI.out.cond HPG.out (by omega) HPOS.out).1 g2
      have hwp : w3.heap[p]? = wr.heap[p]? := g11.trans (HKE.out.2.1.block p (HF4.out p HFP.out))
      have HWP : Hid (w3.heap[p]? = w.heap[p]?) := hwp.trans HI.out.hp
      obtain ⟨T, hT⟩ : ∃ T, teL (pageOf L na) = T := ⟨_, rfl⟩
      rw [hT] at g7 ⊢
      obtain ⟨tl, htl⟩ : ∃ tl, T.length = tl := ⟨_, rfl⟩
      rw [htl]
      have hT0 : 0 < tl := by rw [← htl, ← hT]; exact te_pos (page_bys HR.out.2.2.2.2 _) g1
      have hT2 : tl ≤ 248 := by rw [← htl, ← hT]; exact teL_le (page_bys HR.out.2.2.2.2 _)
      obtain ⟨ba, oa, rfl⟩ := g7.some' (by omega)
      have hca := g7.2.1
      have hca2 := g7.2.2.1
      unfold maxLen at hca2
      rw [htl] at hca
      have hk3 : w3.heap[eb]? = some (.cells #[.int .i64 (na : Int), .int .i64 (nb : Int), .int .i64 (nc : Int), .int .i64 xd] 72 (0, 0)) := (g10.block eb (heap_lt HKE.out.1) (fun e => by have := HF4.out _ e; have := HKE.out.2.2; omega)).trans HKE.out.1
      have z1 : w3.cell? ⟨eb, 1, none⟩ = some (.int .i64 (nb : Int)) := by rw [cell_of_row w3 _ _ _ _ (0, 0) hk3]; rfl
      have z2 : w3.cell? ⟨eb, 2, none⟩ = some (.int .i64 (nc : Int)) := by rw [cell_of_row w3 _ _ _ _ (0, 0) hk3]; rfl
      have z3 : w3.cell? ⟨eb, 3, none⟩ = some (.int .i64 xd) := by rw [cell_of_row w3 _ _ _ _ (0, 0) hk3]; rfl
      have st3 : Step F F w w3 := ((Step.of HI.out.ch).trans (Step.ofB HKE.out.2.1)).trans (Step.of g10)
      have H3 : Hid ((∃ FD gr cr m, PW w3 p d F FD D0 L gr cr m (some ⟨b, off, none⟩) cP (mkR R (pgs (pcs.take (k + 1)))) pcs ts') ∧ Step F F w w3 ∧ Own w.heap.size w3 u3 (txs L (pcs.take k)) ∧ Row w3 (some ⟨ba, oa, none⟩) ca T ∧ w3.heap.size ≤ w3.heap.size ∧ (∀ n, findV ts' n = none ↔ (findV ts n = none ∧ ¬ n = (na : Int))) ∧ (∀ x ∈ ts', teE (pageOf L x.1) = 0) ∧ ts'.length ≤ ts.length + 1 ∧ (na < R.length ∧ R.getD na false = false) ∧ teE (pageOf L na) = 0 ∧ teL (pageOf L na) = T ∧ T.length = tl) := by
        obtain ⟨FD1, gr1, cr1, m1, hPW⟩ := HWR.out
        refine ⟨PWA.same hPW g3 hwp, st3, ?_, g7, Nat.le_refl _, g4, g5, g6, hcnd, g1, hT, htl⟩
        refine owns_keep (own_below HI.out.own HKE.out.2.1) (fun g hg => g10.block g ?_ (fun e => ?_))
        · exact (World.ownsRow.lt (own_below HI.out.own HKE.out.2.1) g hg).2
        · have := HI.out.own.lt' g hg
          have := HFW.out g e
          omega
      have HBAD : Hid (¬ pcR L R ⟨(na : Int), (nb : Int), (nc : Int), xd⟩ → TxE w p d F D0 L R pcs (thrA 8) w3) := fun hno => by
        obtain ⟨FD1, gr1, cr1, m1, hPW3⟩ := H3.out.1
        have := hPW3.bad (no := ¬ ∀ x ∈ pcs, pcR L R x) (fun hall => hno (by have := hall _ (getD_mem hkl); rw [HX.out] at this; exact this)) H3.out.2.1
        rw [mkR_len] at this
        exact .inr this
      have HDJ : Hid (∀ x ∈ ts', ∀ g, x.2.ownBlock = some g → ¬ u3.ownBlock = some g) := fun x hx g hg e => by
        rcases g12 x hx with h1 | h1
        · exact HI.out.dj x h1 g hg e
        · have h2 := h1 g hg
          have h3 := (World.ownsRow.lt HI.out.own g e).2
          have h4 := HKE.out.2.1.size
          omega
      have hdy := demand_yes w3
      have hdn := demand_no w3
      clear g1 g2 g3 g4 g5 g6 g7 g8 g9 g10 g11 g12 hcnd hwp hT htl hk3 st3
      by_cases hfit : nb + nc ≤ tl
      · have hfi : decide ((nb : Int) + (nc : Int) ≤ (tl : Int)) = true := by rw [decide_eq_true_iff]; omega
        clear hdn
        go_upto_region 8 with (go_at_call 54; refine hdy.mono ?_; rintro e w' ⟨rfl, rfl⟩)
        rw [show nb + nc - nb = nc by omega]
        have HPT : Hid (Row w3 (some ⟨ba, oa + nb, none⟩) (ca - nb) (pcT L ⟨(na : Int), (nb : Int), (nc : Int), xd⟩) ∧ (pcT L ⟨(na : Int), (nb : Int), (nc : Int), xd⟩).length = nc) := by
          have e : pcT L ⟨(na : Int), (nb : Int), (nc : Int), xd⟩ = (T.drop nb).take nc := by
            unfold pcT seg
            simp only [Int.toNat_natCast]
            rw [H3.out.2.2.2.2.2.2.2.2.2.2.1]
          rw [e]
          have hl := H3.out.2.2.2.2.2.2.2.2.2.2.2
          have hr := (H3.out.2.2.2.1.drop' nb (by omega)).take' nc (ca - nb) (by rw [List.length_drop]; omega) (by omega) (Nat.le_refl _)
          exact ⟨hr, by rw [List.length_take, List.length_drop]; omega⟩
        obtain ⟨P, hP⟩ : ∃ P, pcT L ⟨(na : Int), (nb : Int), (nc : Int), xd⟩ = P := ⟨_, rfl⟩
        rw [hP] at HPT
        obtain ⟨lp, hlp⟩ : ∃ lp, lin P = lp := ⟨_, rfl⟩
        have HCNT : Hid (∀ (w0 : World), Below w3.heap.size w3 w0 → ∀ B, w0.cell? ⟨B, 0, none⟩ = some (.int .u8 10) → Calls Tryz.prog 90 #[.slice (some ⟨ba, oa + nb, none⟩) nc (ca - nb), .slice (some ⟨B, 0, none⟩) 1 1] w0 fun e w' => e = .returned (.int .i64 lp) ∧ w0 = w') := fun w0 hb B hB => count_v ba (oa + nb) nc (ca - nb) B P w0 (HPT.out.1.below hb) HPT.out.2 hB lp hlp
        have HOKP : Hid ((lp = xd → pcR L R ⟨(na : Int), (nb : Int), (nc : Int), xd⟩) ∧ (¬ lp = xd → ¬ pcR L R ⟨(na : Int), (nb : Int), (nc : Int), xd⟩) ∧ pcT L ⟨(na : Int), (nb : Int), (nc : Int), xd⟩ = P) := by
          have hin : inR (pgN L) (na : Int) = true := by
            unfold inR
            rw [HPG.out, decide_eq_true (show (2 : Int) ≤ (na : Int) by omega), decide_eq_true (show (na : Int) < (R.length : Int) by have := H3.out.2.2.2.2.2.2.2.2.1.1; omega)]
            rfl
          have hl := H3.out.2.2.2.2.2.2.2.2.2.2.2
          have e : pcK L ⟨(na : Int), (nb : Int), (nc : Int), xd⟩ = (lp == xd) := by
            have e2 := hP
            unfold pcT at e2
            simp only [Int.toNat_natCast] at e2
            unfold pcK
            simp only [Int.toNat_natCast]
            have e4 : (lin (seg (teL (pageOf L na)) ⟨(na : Int), (nb : Int), (nc : Int), xd⟩) == xd) = (lp == xd) := by rw [e2, hlp]
            have e5 : decide ((nb : Int) + (nc : Int) ≤ ((teL (pageOf L na)).length : Int)) = true := decide_eq_true (by rw [H3.out.2.2.2.2.2.2.2.2.2.2.1, hl]; omega)
            have e6 : decide (teE (pageOf L na) = 0) = true := decide_eq_true H3.out.2.2.2.2.2.2.2.2.2.1
            rw [hin, e6, e5, e4]
            rfl
          refine ⟨fun h => ⟨by rw [e, beq_iff_eq]; exact h, ?_⟩, fun h h2 => ?_, hP⟩
          · simp only [Int.toNat_natCast]
            exact H3.out.2.2.2.2.2.2.2.2.1.2
          · have h3 := h2.1
            rw [e, beq_iff_eq] at h3
            exact h h3
        clear hP hlp hfi
        refine wp_region_held_drew (S := (fun w' => w'.cell? ⟨eb, 3, none⟩ = some (.int .i64 xd))) (by kernel_rfl) ?_ (fun hHeld => ?_)
        · (first | go_keep | assumption)
        refine wpAnyH_take (i := 0) (v := ?_) rfl (by kernel_rfl) (by kernel_rfl) (by kernel_rfl) (fun _ _ _ h => h) (Or.inl ⟨by rfl, ?_⟩) (by assumption) ?_
        rotate_left
        · (first | (intro w hSw; (try dsimp only at hSw); go_simp; done) | (intro w hSw; (try dsimp only at hSw); go_simp; with_reducible rfl))
        simp only [List.getElem_toArray, List.getElem_cons_zero, Act.put, List.setIfInBounds_toArray, List.set_cons_zero, List.set_cons_succ]
        refine wpAnyH_take (i := 3) (v := ?_) rfl (by kernel_rfl) (by kernel_rfl) (by kernel_rfl) (fun _ _ _ h => h) (Or.inl ⟨by rfl, ?_⟩) (by assumption) ?_
        rotate_left
        · (first | (intro w hSw; (try dsimp only at hSw); go_simp; done) | (intro w hSw; (try dsimp only at hSw); go_simp; with_reducible rfl))
        simp only [List.getElem_toArray, List.getElem_cons_succ, List.getElem_cons_zero, Act.put, List.setIfInBounds_toArray, List.set_cons_zero, List.set_cons_succ]
        refine wpAnyH_take (i := 4) (v := ?_) rfl (by kernel_rfl) (by kernel_rfl) (by kernel_rfl) (fun _ _ _ h => h) (Or.inl ⟨by rfl, ?_⟩) (by assumption) ?_
        rotate_left
        · (first | (intro w hSw; (try dsimp only at hSw); go_simp; done) | (intro w hSw; (try dsimp only at hSw); go_simp; with_reducible rfl))
        simp only [List.getElem_toArray, List.getElem_cons_succ, List.getElem_cons_zero, Act.put, List.setIfInBounds_toArray, List.set_cons_zero, List.set_cons_succ]
        refine wpAnyH_ready (rs := [1]) (by kernel_rfl) (by simp) ?_
        refine AllReadyH.cons rfl (fun K hK => ?_) AllReadyH.nil
        go_simp
        try simp only [List.getElem_toArray, List.getElem_cons_succ, List.getElem_cons_zero, Act.put, List.setIfInBounds_toArray, List.set_cons_zero, List.set_cons_succ]
        refine hK.out _ _ ?_ (fun hHeld2 => ?_)
        · (first | go_keep | assumption)
        clear hK K hHeld
        have hHeld := hHeld2
        clear hHeld2
        refine wpAnyH_ready (rs := [2]) (by kernel_rfl) (by simp) ?_
        refine AllReadyH.cons rfl (fun K hK => ?_) AllReadyH.nil
        go_simp
        refine (HCNT.out (w3.drew.alloc (.cells #[.int .u8 10] 5)) (((Below.refl _ w3).drew).alloc (Nat.le_refl _) _) w3.heap.size (by simp [go_sem])).mono ?_
        rintro e w4 ⟨rfl, rfl⟩
        go_wp2_with fail
        try simp only [List.getElem_toArray, List.getElem_cons_succ, List.getElem_cons_zero, Act.put, List.setIfInBounds_toArray, List.set_cons_zero, List.set_cons_succ]
        refine hK.out _ _ ?_ (fun hHeld2 => ?_)
        · (first | go_keep | assumption)
        clear hK K hHeld
        have hHeld := hHeld2
        clear hHeld2
        obtain ⟨wz, hwz⟩ : ∃ wz, (w3.alloc (.cells #[.int .u8 10] 5)).drew = wz := ⟨_, rfl⟩
        have HBZ : Hid (Below w3.heap.size w3 wz) := by rw [← hwz]; exact ((Below.refl _ w3).alloc (Nat.le_refl _) _).drew
        rw [hwz] at hHeld ⊢
        clear hwz
        by_cases hq : lp = xd
        · subst hq
          refine wpAnyH_take (i := 5) (v := ?_) rfl (by kernel_rfl) (by kernel_rfl) (by kernel_rfl) (fun _ _ _ h => h) (Or.inl ⟨by rfl, ?_⟩) (by assumption) ?_
          rotate_left
          · (first | (intro w hSw; (try dsimp only at hSw); go_simp; done) | (intro w hSw; (try dsimp only at hSw); go_simp; with_reducible rfl))
          simp only [List.getElem_toArray, List.getElem_cons_succ, List.getElem_cons_zero, Act.put, List.setIfInBounds_toArray, List.set_cons_zero, List.set_cons_succ]
          refine wpAnyH_ready (rs := [6]) (by kernel_rfl) (by simp) ?_
          refine AllReadyH.cons rfl (fun K hK => ?_) AllReadyH.nil
          go_simp
          refine (demand_yes wz).mono ?_
          rintro e w' ⟨rfl, rfl⟩
          go_wp2_with fail
          refine hK.out _ _ ?_ (fun hHeld2 => ?_)
          · (first | go_keep | assumption)
          clear hK K hHeld hHeld2
          refine wpAnyH_done (by kernel_rfl) ?_ _
          clear HCNT HBAD
          obtain ⟨hs5, hw5⟩ : wz.heap.size ≤ wz.drew.heap.size ∧ True := ⟨Nat.le_refl _, trivial⟩
          have HBY : Hid (Below w3.heap.size w3 wz ∧ (txs L (pcs.take k)).length + nc ≤ 100000000 ∧ w.heap.size ≤ wz.heap.size ∧ Own w.heap.size wz u3 (txs L (pcs.take k))) := by
            have h1 := txs_take_le (L := L) HPC.out k (by omega)
            have h2 := H3.out.2.1.1.size
            have h3 := HBZ.out.size
            exact ⟨HBZ.out, by omega, by omega, owns_keep H3.out.2.2.1 (fun g hg => HBZ.out.block g (World.ownsRow.lt H3.out.2.2.1 g hg).2)⟩
          clear hs5 hw5
          go_wp2_with (at_builtin; refine append_rowB rfl _ _ rfl w.heap.size u3 (txs L (pcs.take k)) rfl HBY.out.2.2.2 ⟨ba, oa + nb, none⟩ P nc (ca - nb) rfl HPT.out.2 (by omega) (HPT.out.1.below HBY.out.1) HBY.out.2.1 HBY.out.2.2.1 ?_; intro g5 cap5 w5 ho5 hg5 hl5; have H5 : Hid _ := And.intro ho5 (And.intro hg5 hl5); clear ho5 hg5 hl5)
          go_roundg (np - (k + 1))
          case rel =>
            refine ⟨k + 1, ts', by omega, rfl, by go_num, ?_⟩
            obtain ⟨FD3, gr3, cr3, m3, hPW3⟩ := H3.out.1
            refine HI.out.next (na := na) hkl HFW.out (hPW3.below HBY.out.1) (H3.out.2.1.1.trans (Ch.of F (HBY.out.1.mono H3.out.2.1.1.size))) HBY.out.2.2.2 (by rw [HX.out, HOKP.out.2.2]; exact H5.out.1) H5.out.2.1 H5.out.2.2 (by rw [HX.out]; exact HOKP.out.1 (by trivial)) (by rw [HX.out]) H3.out.2.2.2.2.2.1 H3.out.2.2.2.2.2.2.1 H3.out.2.2.2.2.2.2.2.1 HDJ.out ((HBY.out.1.block p (hPW3.lt p hPW3.fp)).trans HWP.out)
          case measure => have := HGK.out; omega
        · have hq2 : (lp == xd) = false := by simpa using hq
          refine wpAnyH_take (i := 5) (v := ?_) rfl (by kernel_rfl) (by kernel_rfl) (by kernel_rfl) (fun _ _ _ h => h) (Or.inl ⟨by rfl, ?_⟩) (by assumption) ?_
          rotate_left
          · (first | (intro w hSw; (try dsimp only at hSw); go_simp; done) | (intro w hSw; (try dsimp only at hSw); go_simp; with_reducible rfl))
          simp only [List.getElem_toArray, List.getElem_cons_succ, List.getElem_cons_zero, Act.put, List.setIfInBounds_toArray, List.set_cons_zero, List.set_cons_succ]
          refine wpAnyH_ready (rs := [6]) (by kernel_rfl) (by simp) ?_
          refine AllReadyH.cons rfl (fun K hK => ?_) AllReadyH.nil
          go_simp
          refine (demand_no wz).mono ?_
          rintro e w' ⟨rfl, rfl⟩
          have HE : Hid (TxE w p d F D0 L R pcs (thrA 8) wz) := by
            obtain ⟨FD1, gr1, cr1, m1, hPW3⟩ := H3.out.1
            have := (hPW3.below HBZ.out).bad (no := ¬ ∀ x ∈ pcs, pcR L R x) (fun hall => HOKP.out.2.1 hq (by have := hall _ (getD_mem hkl); rw [HX.out] at this; exact this)) (H3.out.2.1.trans (Step.ofB HBZ.out))
            rw [mkR_len] at this
            exact .inr this
          unfold thrA at HE ⊢
          clear hHeld H3 HBAD HI HCNT HOKP HPT HWR
          go_wp2
          exact ⟨rfl, HE.out⟩
      · have HE : Hid (TxE w p d F D0 L R pcs (thrA 8) w3) := HBAD.out (fun h => hfit (by
          have h1 := h.1
          unfold pcK at h1
          simp only [Bool.and_eq_true, decide_eq_true_eq, Int.toNat_natCast, H3.out.2.2.2.2.2.2.2.2.2.2.1, H3.out.2.2.2.2.2.2.2.2.2.2.2] at h1
          omega))
        have hfi : decide ((nb : Int) + (nc : Int) ≤ (tl : Int)) = false := by rw [decide_eq_false_iff_not]; omega
        unfold thrA at HE hdn
        clear hdy hfit HBAD
        go_wp2_with (go_at_call 54; refine hdn.mono ?_; rintro e w' ⟨rfl, rfl⟩)
        exact ⟨rfl, HE.out⟩
    · obtain rfl : k = np := by omega
      have hall : pcs.take k = pcs := List.take_of_length_le (by rw [HNP.out]; omega)
      have ho := HI.out.own
      rw [hall] at ho
      obtain ⟨ga, ca, hv, -⟩ := ho.row (txs_bys HR.out.2.2.2.2 _)
      subst hv
      have HE : Hid (TxE w p d F D0 L R pcs (.returned (.slice ga (txs L pcs).length ca)) wr) := by
        obtain ⟨FDr, grr, crr, mr, hPW⟩ := HI.out.pw
        rw [hall] at hPW
        refine .inl ⟨ga, ca, ts, rfl, fun x hx => ?_, ⟨_, _, _, _, _, _, hPW⟩, ho, HI.out.ch, HI.out.hp⟩
        rw [← hall] at hx
        obtain ⟨j, hj, rfl⟩ := (mem_take (by rw [HNP.out]; exact Nat.le_refl _)).1 hx
        exact HI.out.ok j hj
      clear HI ho hall
      obtain ⟨tn, htn⟩ : ∃ tn, (txs L pcs).length = tn := ⟨_, rfl⟩
      rw [htn] at HE ⊢
      clear htn
      go_wp2
      go_ret
      exact HE.out
end
end Go.Proofs.YtjllhcifmfhkmaaGreat.Oct

/-
  The document's walker: tree, an inner page.
-/
namespace Go.Proofs.YtjllhcifmfhkmaaGreat.Oct
open Go.RowKit

theorem sums_new (w : World) (s : S3) (n : Nat) (w6 : World) (h : ((w.alloc (Obj.cells #[Value.int IntKind.i64 s.p, Value.int IntKind.i64 s.b, Value.int IntKind.i64 s.l] 98)).drewN n) = w6) : Below w.heap.size w w6 ∧ At3 w6 w.heap.size s := by
  subst h
  exact ⟨Below.drewN ((Below.refl _ w).alloc (Nat.le_refl _) _) n, heap_alloc_new w _⟩
theorem kdW_no {X : Wk} {x : S3} {y : C4} (h : kdQ x y = false) : kdW (X, x) y = { X with bad := true } := by unfold kdW; simp [h]
theorem kdW_yes {X : Wk} {x : S3} {y : C4} (h : kdQ x y = true) : kdW (X, x) y = X := by unfold kdW; simp [h]
/-- Sums, in memory, one more added. -/
def put3a (w : World) (b : Nat) (s x : S3) : World := ((w.setCell ⟨b, 0, none⟩ (.int .i64 (s.p + x.p))).setCell ⟨b, 1, none⟩ (.int .i64 (s.b + x.b))).setCell ⟨b, 2, none⟩ (.int .i64 (s.l + x.l))
theorem At3.put3a {w : World} {b : Nat} {s : S3} (h : At3 w b s) (x : S3) : At3 (put3a w b s x) b (addS s x) := ((h.set0 _).set1 _).set2 _
theorem put3a_ch (w : World) (b : Nat) (s x : S3) : Ch w.heap.size (fun y => y = b) w (put3a w b s x) :=
  (((Ch.refl _ (fun y => y = b) w).setCell (p := ⟨b, 0, none⟩) (.inr rfl) _).setCell (p := ⟨b, 1, none⟩) (.inr rfl) _).setCell (p := ⟨b, 2, none⟩) (.inr rfl) _
theorem size_put3a (w : World) (b : Nat) (s x : S3) : (put3a w b s x).heap.size = w.heap.size := by unfold put3a; rw [size_setCell, size_setCell, size_setCell]
theorem s30_b' : S3b s30 (1048576 * ((0 : Nat) : Int)) := by
  refine ⟨?_, ?_, ?_⟩ <;> simp [s30]
theorem wpk_ok {W : Wk} (h : WkOk W) (n : Nat) (kd : Int) : WkOk { W with kd := W.kd.set n kd } := h
theorem wpk_bd {W : Wk} (h : WkOk W) (n : Nat) (kd : Int) : WkOk { W with kd := W.kd.set n kd, bad := true } := ⟨h.1, fun e => by cases e⟩
theorem RWA.setBad {w : World} {p ic : Nat} {F : Nat → Prop} {ia : Option Addr} {L : List Int} {q : Nat → Value} {W : Wk} (h : RWA w p F ia ic L q W) (x : Bool) : RWA (w.setCell ⟨p, 16, none⟩ (.bool x)) p F ia ic L q { W with bad := x } := by
  obtain ⟨_, _, _, _, _, _, h⟩ := h; exact ⟨_, _, _, _, _, _, h.setBad x⟩
theorem RowC.keepO {w w' : World} {a : Option Addr} {c : Nat} {l : List C4} (h : RowC w a c l) (k : ∀ g, obl a g → w'.heap[g]? = w.heap[g]?) : RowC w' a c l := by
  obtain ⟨h1, h2, h3, h4⟩ := h
  refine ⟨h1, h2, h3, ?_⟩
  rcases h4 with h4 | ⟨b, off, ha, hc⟩
  · exact .inl h4
  · exact .inr ⟨b, off, ha, fun i hi => (hc i hi).same (k b ⟨_, ha, rfl⟩)⟩
/-- What is known of tree at a level. -/
def TreeC (p : Nat) (ia : Option Addr) (ic : Nat) (L : List Int) (q : Nat → Value) (lv : Nat) : Prop := ∀ (w : World) (F : Nat → Prop) (W : Wk) (n : Int) (root : Bool), RWA w p F ia ic L q W → W.bad = false → WkOk W → 0 < W.kd.length → (-9223372036854775808 ≤ n ∧ n ≤ 9223372036854775807) →
  Calls Tryz.prog 45 #[.pointer (some ⟨p, 0, none⟩), .int .i64 n, .int .i64 (lv : Int), .bool root] w fun e w' => e = .returned (s3V (wtr L lv root n W).2) ∧ ∃ F', RWA w' p F' ia ic L q (wtr L lv root n W).1 ∧ Step F F' w w'

/-- So far as k kids are gone through. -/
structure TrI (w wr : World) (p : Nat) (F F' : Nat → Prop) (ia : Option Addr) (ic : Nat) (L : List Int) (q : Nat → Value) (N lv : Nat) (l : List C4) (g : Option Addr) (rb sb k : Nat) (W' : Wk) (s' : S3) (fin : Wk × S3) : Prop where
  rw : RWA wr p F' ia ic L q W'
  ok : WkOk W'
  kl : W'.kd.length = N
  fin : kdGo (wtr L lv false) (l.drop k) (W', s') = fin
  s : At3 wr sb s'
  r : At3 wr rb s30
  row : ∀ j, j < l.length → ∃ b off, g = some ⟨b, off, none⟩ ∧ ¬ F' b ∧ ¬ b = sb ∧ At4 wr b (off + j * 4) (l.getD j c40)
  ns : ¬ F' sb ∧ ¬ obl ia sb ∧ w.heap.size ≤ sb
  nr : ¬ F' rb ∧ ¬ obl ia rb
  st : Step F F' w wr
  bd : W'.bad = false → S3b s' (1048576 * k)

section
variable {w wr w2 w5 : World} {p ic rb sb k N lv c : Nat} {F F' F2 : Nat → Prop} {ia g : Option Addr} {L : List Int} {q : Nat → Value} {W' : Wk} {l : List C4} {s' : S3} {fin : Wk × S3}
theorem kdQ_add {s x : S3} {y : C4} (hy : okC true y = true) (h : kdQ x y = true) {k : Nat} (hs : S3b s (1048576 * k)) : S3b (addS s x) (1048576 * ((k + 1 : Nat) : Int)) := by
  obtain ⟨b1, b2, b3⟩ := kdQ_bd hy h
  obtain ⟨h1, h2, h3⟩ := hs
  unfold addS
  refine ⟨?_, ?_, ?_⟩ <;> (simp only; omega)
/-- Behind a kid. -/
theorem TrI.next (h : TrI w wr p F F' ia ic L q N lv l g rb sb k W' s' fin) (hk : k < l.length) (hb : W'.bad = false) (hx : okC true (l.getD k c40) = true) {w1 : World} (hb1 : Below wr.heap.size wr w1) (hok2 : WkOk (wtr L lv false (l.getD k c40).a W').1) (st : Step F' F2 w1 w2) (hrs : ¬ rb = sb) :
    (At3 w2 sb s' ∧ ∀ b off, g = some ⟨b, off, none⟩ → At4 w2 b (off + k * 4) (l.getD k c40)) ∧ ∀ w5, RWA w5 p F2 ia ic L q (kdW (wtr L lv false (l.getD k c40).a W') (l.getD k c40)) → Ch w2.heap.size (fun x => x = sb ∨ x = p ∨ wr.heap.size ≤ x) w2 w5 → At3 w5 sb (addS s' (wtr L lv false (l.getD k c40).a W').2) → TrI w w5 p F F2 ia ic L q N lv l g rb sb (k + 1) (kdW (wtr L lv false (l.getD k c40).a W') (l.getD k c40)) (addS s' (wtr L lv false (l.getD k c40).a W').2) fin := by
  have hsb : sb < wr.heap.size := h.s.lt
  have hrb : rb < wr.heap.size := h.r.lt
  have hfp : p < wr.heap.size := h.rw.lt p h.rw.fp
  have st' : Step F' F2 wr w2 := (Step.ofB (F := F') hb1).trans st
  refine ⟨⟨h.s.keep (st'.1.block sb hsb h.ns.1), fun b off hg => ?_⟩, fun w5 h5 hc h35 => ?_⟩
  · obtain ⟨b', off', hg', hnb, -, a4⟩ := h.row k hk
    rw [hg] at hg'
    cases hg'
    exact a4.same (st'.1.block b a4.lt hnb)
  · have hsz := st'.1.size
    have npr : ¬ rb = p := fun e => h.nr.1 (e ▸ h.rw.fp)
    refine { rw := h5, ok := wk_bad hok2 _, kl := ?_, fin := (kdGo_step hk hb).symm.trans h.fin, s := h35, r := ?_, row := fun j hj => ?_, ns := ⟨st'.notin hsb h.ns.1, h.ns.2⟩, nr := ⟨st'.notin hrb h.nr.1, h.nr.2⟩, st := ?_, bd := fun e => ?_ }
    · show (kdW _ _).kd.length = N
      unfold kdW
      simp only
      rw [wtr_len]
      exact h.kl
    · exact (h.r.keep (st'.1.block rb hrb h.nr.1)).keep (hc.block rb (Nat.lt_of_lt_of_le hrb hsz) (fun e => by rcases e with e | e | e; exact hrs e; exact npr e; omega))
    · obtain ⟨b, off, hg, hnb, hbs, a4⟩ := h.row j hj
      exact ⟨b, off, hg, st'.notin a4.lt hnb, hbs, (a4.same (st'.1.block b a4.lt hnb)).same (hc.block b (Nat.lt_of_lt_of_le a4.lt hsz) (fun e => by rcases e with e | e | e; exact hbs e; exact hnb (e ▸ h.rw.fp); have := a4.lt; omega))⟩
    · have h1 : Step F F2 w w2 := h.st.trans st'
      have hws := h.st.1.size
      refine ⟨h1.1.trans (hc.mono h1.1.size (fun k hk e => ?_)), h1.2⟩
      rcases e with e | e | e
      · have := h.ns.2.2; omega
      · have hpF : F' p := h.rw.fp
        rcases h.st.2 p hpF with h3 | h3
        · exact e ▸ h3
        · omega
      · omega
    · unfold kdW at e
      simp only [Bool.or_eq_false_iff, Bool.not_eq_false'] at e
      exact kdQ_add hx e.2 (h.bd hb)
theorem TrI.start {w1 : World} {W0 : Wk} (hR : RWA w1 p F ia ic L q W0) (hok : WkOk W0) (hN : 0 < W0.kd.length) (hc : Ch w.heap.size F w w1) (h3 : At3 w1 rb s30) (hg : ∀ k, obl g k → ¬ F k ∧ k < w1.heap.size) (hrow : RowC w1 g c l) (hnr : ¬ F rb ∧ ¬ obl ia rb) (hfin : kdGo (wtr L lv false) l (W0, s30) = fin) :
    TrI w (w1.alloc (.cells #[.int .i64 0, .int .i64 0, .int .i64 0] 98)) p F F ia ic L q W0.kd.length lv l g rb w1.heap.size 0 W0 s30 fin := by
  have hbl := (Below.refl w1.heap.size w1).alloc (Nat.le_refl _) (.cells #[.int .i64 0, .int .i64 0, .int .i64 0] 98)
  refine { rw := hR.below hN hbl, ok := hok, kl := rfl, fin := by rw [List.drop_zero]; exact hfin, s := heap_alloc_new w1 _, r := h3.keep (hbl.block rb h3.lt), row := fun j hj => ?_, ns := ⟨fun e => ?_, fun e => ?_, hc.size⟩, nr := hnr, st := ⟨hc.trans (Ch.of F (hbl.mono hc.size)), fun k hk => .inl hk⟩, bd := fun _ => s30_b' }
  · obtain ⟨b, off, e⟩ := hrow.some' (by omega)
    obtain ⟨k1, k2⟩ := hg b ⟨_, e, rfl⟩
    refine ⟨b, off, e, k1, by omega, ?_⟩
    subst e
    exact (hrow.cells j hj).below hbl
  · have := hR.lt _ e; omega
  · have := hR.ilt hN _ e; omega
/-- Behind a kid, whatever it was. -/
theorem kid_bad {w6 : World} {F2 : Nat → Prop} {XW : Wk} {s x : S3} {y : C4} {B : Nat} (h : RWA w6 p F2 ia ic L q XW) (h3 : At3 w6 sb s) (hk : 0 < XW.kd.length) (hn : ¬ F2 sb) (hi : ¬ obl ia sb) (np : ¬ sb = p) (hq : kdQ x y = false) (hc : Ch w2.heap.size (fun x => x = sb ∨ x = p ∨ B ≤ x) w2 w6) :
    RWA (put3a (w6.setCell ⟨p, 16, none⟩ (.bool true)) sb s x) p F2 ia ic L q (kdW (XW, x) y) ∧ Ch w2.heap.size (fun x => x = sb ∨ x = p ∨ B ≤ x) w2 (put3a (w6.setCell ⟨p, 16, none⟩ (.bool true)) sb s x) ∧ At3 (put3a (w6.setCell ⟨p, 16, none⟩ (.bool true)) sb s x) sb (addS s x) := by
  rw [kdW_no hq]
  have c1 : Ch w6.heap.size (fun x => x = p) w6 (w6.setCell ⟨p, 16, none⟩ (.bool true)) := (Ch.refl _ (fun x => x = p) w6).setCell (p := ⟨p, 16, none⟩) (.inr rfl) _
  have c2 := put3a_ch (w6.setCell ⟨p, 16, none⟩ (.bool true)) sb s x
  have hsz := hc.size
  refine ⟨(h.setBad true).other c2 hn hi hk, (hc.trans (c1.mono hsz (fun k _ e => .inr (.inl e)))).trans (c2.mono (by rw [size_setCell]; exact hsz) (fun k _ e => .inl e)), (h3.keep (c1.block sb h3.lt np)).put3a x⟩
theorem kid_good {w6 : World} {F2 : Nat → Prop} {XW : Wk} {s x : S3} {y : C4} {B : Nat} (h : RWA w6 p F2 ia ic L q XW) (h3 : At3 w6 sb s) (hk : 0 < XW.kd.length) (hn : ¬ F2 sb) (hi : ¬ obl ia sb) (hq : kdQ x y = true) (hc : Ch w2.heap.size (fun x => x = sb ∨ x = p ∨ B ≤ x) w2 w6) :
    RWA (put3a w6 sb s x) p F2 ia ic L q (kdW (XW, x) y) ∧ Ch w2.heap.size (fun x => x = sb ∨ x = p ∨ B ≤ x) w2 (put3a w6 sb s x) ∧ At3 (put3a w6 sb s x) sb (addS s x) := by
  rw [kdW_yes hq]
  have c2 := put3a_ch w6 sb s x
  exact ⟨h.other c2 hn hi hk, hc.trans (c2.mono hc.size (fun k _ e => .inl e)), h3.put3a x⟩
/-- At the end. -/
theorem TrI.done (h : TrI w wr p F F' ia ic L q N lv l g rb sb k W' s' fin) (hN : 0 < N) (hw : w.heap.size ≤ rb) (he : W'.bad = true ∨ k = l.length) : At3 (put3 wr rb s') rb s' ∧ fin = (W', s') ∧ RWA (put3 wr rb s') p F' ia ic L q W' ∧ Step F F' w (put3 wr rb s') := by
  have hf : fin = (W', s') := by
    rcases he with he | he
    · exact h.fin.symm.trans (kdGo_bad he)
    · have := h.fin.symm
      rw [he, List.drop_length] at this
      exact this
  obtain ⟨h1, h2⟩ := RWA.fin h.rw (by rw [h.kl]; exact hN) h.st hw h.nr.1 h.nr.2 s'
  exact ⟨((h.r.set0 _).set1 _).set2 _, hf, h1, h2⟩
end

section
variable {w w' : World} {p ic : Nat} {F : Nat → Prop} {ia : Option Addr} {L : List Int} {q : Nat → Value} {W : Wk}

set_option maxHeartbeats 4000000 in
set_option maxRecDepth 20000 in
theorem tree_r (hLB : Bys L) (lv : Nat) (hlv : lv ≤ 40) (IH : TreeC p ia ic L q lv) (h : RWA w p F ia ic L q W) (hbad : W.bad = false) (hok : WkOk W) (hk0 : 0 < W.kd.length) (n : Int) (hk : kdB W n 116 = true) (z : List Int) (hz : pageOf L n.toNat = z) (l : List C4) (hL : reL true z = l) (m : Nat) (hm : l.length = m) (lv1 : Nat) (hlv1 : lv + 1 = lv1) (hE : reE true z = 0) (hV : reV true z = (lv1 : Int)) (hmm : 2 ≤ m) :
    Calls Tryz.prog 45 #[.pointer (some ⟨p, 0, none⟩), .int .i64 n, .int .i64 (lv1 : Int), .bool true] w fun e w' => e = .returned (s3V (kdGo (wtr L lv false) l ({ W with kd := W.kd.set n.toNat 116 }, s30)).2) ∧ ∃ F', RWA w' p F' ia ic L q (kdGo (wtr L lv false) l ({ W with kd := W.kd.set n.toNat 116 }, s30)).1 ∧ Step F F' w w' := by
  obtain ⟨gk, ck, aP, aT, cP, cT, h⟩ := h
  have hp := page_yes (h.below hk0 (w' := w.alloc (.cells #[.int .i64 0, .int .i64 0, .int .i64 0] 98)) ((Below.refl _ w).alloc (Nat.le_refl _) _)) n 116 (by omega) hk
  rw [hz] at hp
  have HA : Hid (∀ w1, Ch (w.alloc (.cells #[.int .i64 0, .int .i64 0, .int .i64 0] 98)).heap.size F (w.alloc (.cells #[.int .i64 0, .int .i64 0, .int .i64 0] 98)) w1 → At3 w1 w.heap.size s30 ∧ Step F F w w1) := fun w1 hc => by
    refine ⟨?_, Step.of ((Ch.of F ((Below.refl _ w).alloc (Nat.le_refl _) _)).trans (hc.mono (by simp) (fun _ _ e => e)))⟩
    show w1.heap[w.heap.size]? = _
    rw [hc.block w.heap.size (by simp) (fun e => by have := h.lt _ e; omega)]
    exact heap_alloc_new w _
  have hlb := reL_bd (t := true) (page_bys hLB n.toNat)
  rw [hz, hL] at hlb
  have HOK : Hid ((WkOk W ∧ W.bad = false ∧ 0 < W.kd.length) ∧ (¬ F w.heap.size ∧ ¬ obl ia w.heap.size) ∧ Bys L ∧ (∀ x ∈ l, okC true x = true) ∧ l.length = m ∧ lv + 1 = lv1) := ⟨⟨hok, hbad, hk0⟩, ⟨fun e => by have := h.lt _ e; omega, fun e => by have := h.ilt hk0 _ e; omega⟩, hLB, hlb.2, hm, hlv1⟩
  have HFL : Hid (∀ k, F k → k < w.heap.size) := h.lt
  have HIH : Hid (TreeC p ia ic L q lv) := IH
  obtain ⟨fin, hfin⟩ : ∃ fin, kdGo (wtr L lv false) l ({ W with kd := W.kd.set n.toNat 116 }, s30) = fin := ⟨_, rfl⟩
  have HFIN : Hid (kdGo (wtr L lv false) l ({ W with kd := W.kd.set n.toNat 116 }, s30) = fin) := hfin
  rw [hfin]
  have hm20 : m ≤ 20 := by omega
  have HEV : Hid (reE true z = 0 ∧ reV true z = (lv1 : Int) ∧ reL true z = l) := ⟨hE, hV, hL⟩
  have hlvi : ((lv1 : Int) - 1) = (lv : Int) := by omega
  have hlv0 : 0 < lv1 := by omega
  have hlv2 : lv1 ≤ 50 := by omega
  obtain ⟨rb, hrb⟩ : ∃ rb, w.heap.size = rb := ⟨_, rfl⟩
  have HRB : Hid (w.heap.size = rb) := hrb
  clear h hk hok hbad hk0 hLB hlb hz hL hfin hm IH hlv1 hrb hE hV hlv
  go_enter Tryz.func45, Tryz.ntmps45
  go_wp2_with fail
  refine hp.mono ?_
  clear hp
  rintro e w1 ⟨⟨a', c', rfl, hr1, hl1, -⟩, h1, hc1⟩
  obtain ⟨h3, st⟩ := HA.out w1 hc1
  obtain ⟨-, -, -, -, c16⟩ := h1.at
  have z16 := h1.frz 16
  simp only [HOK.out.1.2.1] at c16
  rw [HRB.out] at h3 ⊢
  have hkd := rkids_v (some a') c' 256 z w1 hr1 hl1 _ HEV.out.1 l HEV.out.2.2 m HOK.out.2.2.2.2.1 _ HEV.out.2.1
  have H1 : Hid (RWA w1 p F ia ic L q { W with kd := W.kd.set n.toNat 116 } ∧ Step F F w w1 ∧ At3 w1 rb s30) := ⟨⟨_, _, _, _, _, _, h1⟩, st, h3⟩
  have hlp : p < w1.heap.size := h1.lt p h1.fp
  clear h1 hc1 h3 st hr1 hl1 HA
  go_wp2_with fail
  refine hkd.mono ?_
  clear hkd
  rintro e w2 ⟨g, c, rfl, hown, hb2⟩
  have d16 := (hb2.cell (p := ⟨p, 16, none⟩) hlp).trans c16
  have y16 := (hb2.frozen (p := ⟨p, 16, none⟩) hlp).trans z16
  have HNK : Hid (0 < (W.kd.set n.toNat 116).length) := by show 0 < _; rw [List.length_set]; exact HOK.out.1.2.2
  have H2 : Hid (RWA w2 p F ia ic L q { W with kd := W.kd.set n.toNat 116 } ∧ Ch w.heap.size F w w2 ∧ At3 w2 rb s30 ∧ RowC w2 g c l ∧ (∀ k, obl g k → ¬ F k ∧ k < w2.heap.size)) := by
    refine ⟨H1.out.1.below HNK.out hb2, H1.out.2.1.1.trans (Ch.of F (hb2.mono H1.out.2.1.1.size)), H1.out.2.2.keep (hb2.block rb H1.out.2.2.lt), (OwnC.row' hown (fun x hx => wfC_ok (HOK.out.2.2.2.1 x hx))).2.1, fun k hk => ?_⟩
    have := World.ownsRow.lt hown k (own_obl hk)
    exact ⟨fun e => by have := H1.out.1.lt k e; omega, this.2⟩
  clear hown hb2 c16 z16 H1 hlp
  go_wp2
  have HI0 : Hid (TrI w (w2.alloc (.cells #[.int .i64 0, .int .i64 0, .int .i64 0] 98)) p F F ia ic L q (W.kd.set n.toNat 116).length lv l g rb w2.heap.size 0 { W with kd := W.kd.set n.toNat 116 } s30 fin) := by
    have := TrI.start (lv := lv) (fin := fin) H2.out.1 (wpk_ok HOK.out.1.1 n.toNat 116) HNK.out H2.out.2.1 H2.out.2.2.1 H2.out.2.2.2.2 H2.out.2.2.2.1 (by rw [← HRB.out]; exact HOK.out.2.1) HFIN.out
    exact this
  obtain ⟨sb, hsb⟩ : ∃ sb, w2.heap.size = sb := ⟨_, rfl⟩
  have HRS : Hid (rb < sb) := by show _ < _; rw [← hsb]; exact H2.out.2.2.1.lt
  rw [hsb] at HI0 ⊢
  obtain ⟨wq, hwq⟩ : ∃ wq, w2 = wq := ⟨_, rfl⟩
  rw [hwq] at HI0 ⊢
  clear hwq
  obtain ⟨w3, hw3⟩ : ∃ w3, wq.alloc (.cells #[.int .i64 0, .int .i64 0, .int .i64 0] 98) = w3 := ⟨_, rfl⟩
  rw [hw3] at HI0 ⊢
  clear hw3 hsb H2 d16 y16 HFIN HEV hmm
  go_loopw [14] (fun i wr => ∃ (k : Nat) (W' : Wk) (s' : S3) (F' : Nat → Prop), k ≤ m ∧ i = .int .i64 k ∧ Hid (TrI w wr p F F' ia ic L q (W.kd.set n.toNat 116).length lv l g rb sb k W' s' fin)) (fun i _ => m - (intOf i).toNat)
  case atStart => exact ⟨0, _, _, _, Nat.zero_le _, rfl, HI0.out⟩
  case round =>
    clear HI0
    obtain ⟨k, W', s', F', hk, rfl, HI⟩ := hrel
    have c16 := HI.out.rw.c16.1
    by_cases hend : W'.bad = true ∨ k = m
    · obtain ⟨x3, hfn, x1, x2⟩ := HI.out.done HNK.out (by have := HRB.out; omega) (by rcases hend with e | e; exact .inl e; exact .inr (e.trans HOK.out.2.2.2.2.1.symm))
      obtain ⟨e0, e1, e2⟩ := HI.out.s.at
      obtain ⟨r0, r1, r2⟩ := HI.out.r.at
      have t0 := HI.out.r.frz 0
      have t1 := HI.out.r.frz 1
      have t2 := HI.out.r.frz 2
      have HX : Hid (At3 (put3 wr rb s') rb s' ∧ fin = (W', s') ∧ RWA (put3 wr rb s') p F' ia ic L q W' ∧ Step F F' w (put3 wr rb s')) := ⟨x3, hfn, x1, x2⟩
      have hrs : ¬ rb = sb := by have := HRS.out; omega
      clear HI x3 hfn x1 x2
      obtain ⟨wb, hwb⟩ : ∃ wb, W'.bad = wb := ⟨_, rfl⟩
      rw [hwb] at c16 hend
      clear hwb
      by_cases hlt : k < m
      · have : wb = true := by rcases hend with e | e; exact e; omega
        subst this
        clear hend
        go_wp2
        refine bodyPost_ret (results_cell_row rfl _ _ rb _ #[.int .i64 s'.p, .int .i64 s'.b, .int .i64 s'.l] (0, 0) _ rfl HX.out.1 Tryz.underlying98 rfl (by kernel_rfl)) rfl ?_
        rw [HX.out.2.1]
        exact ⟨rfl, F', HX.out.2.2⟩
      · clear hend
        go_wp2
        refine bodyPost_ret (results_cell_row rfl _ _ rb _ #[.int .i64 s'.p, .int .i64 s'.b, .int .i64 s'.l] (0, 0) _ rfl HX.out.1 Tryz.underlying98 rfl (by kernel_rfl)) rfl ?_
        rw [HX.out.2.1]
        exact ⟨rfl, F', HX.out.2.2⟩
    · have hb' : W'.bad = false := by cases e : W'.bad with | true => exact absurd (.inl e) hend | false => rfl
      have hlt : k < m := by by_cases e : k = m; exact absurd (.inr e) hend; omega
      clear hend
      rw [hb'] at c16
      have hkl' : k < l.length := by rw [HOK.out.2.2.2.2.1]; exact hlt
      obtain ⟨b, off, hg, -, hbs, a4⟩ := HI.out.row k hkl'
      subst hg
      have hxo := HOK.out.2.2.2.1 _ (getD_mem hkl')
      have hob := okC_bd hxo
      have hk0' : 0 < W'.kd.length := by rw [HI.out.kl]; exact HNK.out
      have HC : Hid (∀ w1, Below wr.heap.size wr w1 → Calls Tryz.prog 45 #[.pointer (some ⟨p, 0, none⟩), .int .i64 (l.getD k c40).a, .int .i64 (lv : Int), .bool false] w1 fun e w' => e = .returned (s3V (wtr L lv false (l.getD k c40).a W').2) ∧ ∃ F2, RWA w' p F2 ia ic L q (wtr L lv false (l.getD k c40).a W').1 ∧ Step F' F2 w1 w') := fun w1 hb1 => HIH.out w1 F' W' (l.getD k c40).a false (HI.out.rw.below hk0' hb1) hb' HI.out.ok hk0' (by omega)
      have hwo := wtr_ok HOK.out.2.2.1 lv false (l.getD k c40).a W' HI.out.ok
      have HNX : Hid (∀ w1 w2 F2, Below wr.heap.size wr w1 → Step F' F2 w1 w2 → _) := fun w1 w2 F2 hb1 st => HI.out.next hkl' hb' hxo hb1 hwo.1 st (by have := HRS.out; omega)
      have hbd := HI.out.bd hb'
      have hlw : sb < wr.heap.size ∧ b < wr.heap.size := ⟨HI.out.s.lt, a4.lt⟩
      have HXL : Hid (0 < (wtr L lv false (l.getD k c40).a W').1.kd.length) := by show 0 < _; rw [wtr_len]; exact hk0'
      have HSN : Hid (∀ F2 w5, Step F' F2 wr w5 → ¬ F2 sb ∧ ¬ obl ia sb) := fun F2 w5 st => ⟨st.notin HI.out.s.lt HI.out.ns.1, HI.out.ns.2.1⟩
      obtain ⟨x, hx⟩ : ∃ x, l.getD k c40 = x := ⟨_, rfl⟩
      rw [hx] at HC HNX a4 hob hwo HXL
      obtain ⟨xa, xb, xc, xd⟩ := x
      obtain ⟨a40, a41, a42, a43⟩ := a4
      simp only at HC HNX a40 a41 a42 a43 hob hwo HXL
      obtain ⟨X, hX⟩ : ∃ X, wtr L lv false xa W' = X := ⟨_, rfl⟩
      rw [hX] at HC HNX hwo HXL
      obtain ⟨XW, Xs⟩ := X
      obtain ⟨xp, xq, xl⟩ := Xs
      unfold s3V at HC
      simp only at HC HNX hwo
      obtain ⟨-, ⟨wp, wb, wl⟩⟩ := hwo
      have hbL : bdL lv ≤ 2000000000 := by unfold bdL; have := HOK.out.2.2.2.2.2; omega
      obtain ⟨bl, hbl⟩ : ∃ bl, bdL lv = bl := ⟨_, rfl⟩
      rw [hbl] at wp wb wl hbL
      obtain ⟨sp, sq, sl⟩ := s'
      obtain ⟨b1, b2, b3⟩ := hbd
      simp only at wp wb wl b1 b2 b3
      clear hx hX hxo hkl' hk0' hbl
      go_wp2_with fail
      refine (HC.out wr (Below.refl _ _)).mono ?_
      rintro e w5 ⟨rfl, F2, h2, st2⟩
      obtain ⟨⟨h3', a4'⟩, hnx⟩ := HNX.out wr w5 F2 (Below.refl _ _) st2
      obtain ⟨v40, v41, v42, v43⟩ := a4' b off rfl
      simp only at v40 v41 v42 v43
      obtain ⟨e0, e1, e2⟩ := h3'.at
      simp only at e0 e1 e2
      have HNX2 : Hid _ := hnx
      have H3P : Hid (At3 w5 sb ⟨sp, sq, sl⟩) := h3'
      have ls5 : sb < w5.heap.size := h3'.lt
      have lb5 : b < w5.heap.size := block_lt_of_cell v40
      have HSN : Hid (¬ F2 sb ∧ ¬ obl ia sb) := HSN.out F2 w5 st2
      have H2 : Hid (RWA w5 p F2 ia ic L q XW ∧ wr.heap.size ≤ w5.heap.size ∧ 0 < XW.kd.length) := ⟨h2, st2.1.size, HXL.out⟩
      clear h2 st2 h3' a4' hnx HNX HC c16 a40 a41 a42 a43
      by_cases q1 : xp = xb
      · subst q1
        by_cases q2 : xq = xc
        · subst q2
          by_cases q3 : xl = xd
          · subst q3
            go_wp2
            go_quiet (fail)
            obtain ⟨w6, hw6⟩ : ∃ w6, ((w5.alloc (Obj.cells #[Value.int IntKind.i64 xp, Value.int IntKind.i64 xq, Value.int IntKind.i64 xl] 98)).drewN nq) = w6 := ⟨_, rfl⟩
            obtain ⟨HB6, hx6⟩ := sums_new w5 ⟨xp, xq, xl⟩ nq w6 hw6
            rw [hw6]
            have H6 : Hid (RWA w6 p F2 ia ic L q XW ∧ At3 w6 sb ⟨sp, sq, sl⟩) := ⟨H2.out.1.below H2.out.2.2 HB6, H3P.out.keep (HB6.block sb ls5)⟩
            obtain ⟨x0, x1, x2⟩ := hx6.at
            simp only at x0 x1 x2
            obtain ⟨d0, d1, d2⟩ := H6.out.2.at
            simp only at d0 d1 d2
            have y0 := H6.out.2.frz 0
            have y1 := H6.out.2.frz 1
            have y2 := H6.out.2.frz 2
            have z16 := H6.out.1.c16
            obtain ⟨g5, hg5⟩ : ∃ g5, w5.heap.size = g5 := ⟨_, rfl⟩
            have HG : Hid (wr.heap.size ≤ g5 ∧ Ch w5.heap.size (fun x => x = sb ∨ x = p ∨ wr.heap.size ≤ x) w5 w6) := ⟨by have := H2.out.2.1; omega, Ch.of _ HB6⟩
            rw [hg5] at x0 x1 x2 ls5 lb5 ⊢
            have np : ¬ sb = p := fun e => HSN.out.1 (e ▸ H6.out.1.fp)
            have ng : ¬ g5 = p := fun e => by have := H2.out.1.lt p H2.out.1.fp; omega
            clear hw6 HB6 hx6 e0 e1 e2 v40 v41 v42 v43 hg5 H3P 
            obtain ⟨c16, z16⟩ := z16
            go_wp2
            obtain ⟨f1, f2, f3⟩ := kid_good (y := ⟨xa, xp, xq, xl⟩) (x := ⟨xp, xq, xl⟩) H6.out.1 H6.out.2 H2.out.2.2 HSN.out.1 HSN.out.2 (by simp [kdQ]) HG.out.2
            exact ⟨⟨k + 1, _, _, F2, by omega, by go_num, HNX2.out _ f1 f2 f3⟩, by simp [intOf]; omega⟩
          · have q3' : (xl == xd) = false := by simpa using q3
            have q3'' : (xl != xd) = true := by simpa using q3
            have HQ : Hid (kdQ ⟨xp, xq, xl⟩ ⟨xa, xp, xq, xd⟩ = false) := by show kdQ _ _ = false; unfold kdQ; simp only; rw [q3']; simp
            go_wp2
            go_quiet (fail)
            obtain ⟨w6, hw6⟩ : ∃ w6, ((w5.alloc (Obj.cells #[Value.int IntKind.i64 xp, Value.int IntKind.i64 xq, Value.int IntKind.i64 xl] 98)).drewN nq) = w6 := ⟨_, rfl⟩
            obtain ⟨HB6, hx6⟩ := sums_new w5 ⟨xp, xq, xl⟩ nq w6 hw6
            rw [hw6]
            have H6 : Hid (RWA w6 p F2 ia ic L q XW ∧ At3 w6 sb ⟨sp, sq, sl⟩) := ⟨H2.out.1.below H2.out.2.2 HB6, H3P.out.keep (HB6.block sb ls5)⟩
            obtain ⟨x0, x1, x2⟩ := hx6.at
            simp only at x0 x1 x2
            obtain ⟨d0, d1, d2⟩ := H6.out.2.at
            simp only at d0 d1 d2
            have y0 := H6.out.2.frz 0
            have y1 := H6.out.2.frz 1
            have y2 := H6.out.2.frz 2
            have z16 := H6.out.1.c16
            obtain ⟨g5, hg5⟩ : ∃ g5, w5.heap.size = g5 := ⟨_, rfl⟩
            have HG : Hid (wr.heap.size ≤ g5 ∧ Ch w5.heap.size (fun x => x = sb ∨ x = p ∨ wr.heap.size ≤ x) w5 w6) := ⟨by have := H2.out.2.1; omega, Ch.of _ HB6⟩
            rw [hg5] at x0 x1 x2 ls5 lb5 ⊢
            have np : ¬ sb = p := fun e => HSN.out.1 (e ▸ H6.out.1.fp)
            have ng : ¬ g5 = p := fun e => by have := H2.out.1.lt p H2.out.1.fp; omega
            clear hw6 HB6 hx6 e0 e1 e2 v40 v41 v42 v43 hg5 H3P q3 q3' q3''
            obtain ⟨c16, z16⟩ := z16
            go_wp2
            obtain ⟨f1, f2, f3⟩ := kid_bad (y := ⟨xa, xp, xq, xd⟩) (x := ⟨xp, xq, xl⟩) H6.out.1 H6.out.2 H2.out.2.2 HSN.out.1 HSN.out.2 np HQ.out HG.out.2
            exact ⟨⟨k + 1, _, _, F2, by omega, by go_num, HNX2.out _ f1 f2 f3⟩, by simp [intOf]; omega⟩
        · have q2' : (xq == xc) = false := by simpa using q2
          have q2'' : (xq != xc) = true := by simpa using q2
          have HQ : Hid (kdQ ⟨xp, xq, xl⟩ ⟨xa, xp, xc, xd⟩ = false) := by show kdQ _ _ = false; unfold kdQ; simp only; rw [q2']; simp
          go_wp2
          go_quiet (fail)
          obtain ⟨w6, hw6⟩ : ∃ w6, ((w5.alloc (Obj.cells #[Value.int IntKind.i64 xp, Value.int IntKind.i64 xq, Value.int IntKind.i64 xl] 98)).drewN nq) = w6 := ⟨_, rfl⟩
          obtain ⟨HB6, hx6⟩ := sums_new w5 ⟨xp, xq, xl⟩ nq w6 hw6
          rw [hw6]
          have H6 : Hid (RWA w6 p F2 ia ic L q XW ∧ At3 w6 sb ⟨sp, sq, sl⟩) := ⟨H2.out.1.below H2.out.2.2 HB6, H3P.out.keep (HB6.block sb ls5)⟩
          obtain ⟨x0, x1, x2⟩ := hx6.at
          simp only at x0 x1 x2
          obtain ⟨d0, d1, d2⟩ := H6.out.2.at
          simp only at d0 d1 d2
          have y0 := H6.out.2.frz 0
          have y1 := H6.out.2.frz 1
          have y2 := H6.out.2.frz 2
          have z16 := H6.out.1.c16
          obtain ⟨g5, hg5⟩ : ∃ g5, w5.heap.size = g5 := ⟨_, rfl⟩
          have HG : Hid (wr.heap.size ≤ g5 ∧ Ch w5.heap.size (fun x => x = sb ∨ x = p ∨ wr.heap.size ≤ x) w5 w6) := ⟨by have := H2.out.2.1; omega, Ch.of _ HB6⟩
          rw [hg5] at x0 x1 x2 ls5 lb5 ⊢
          have np : ¬ sb = p := fun e => HSN.out.1 (e ▸ H6.out.1.fp)
          have ng : ¬ g5 = p := fun e => by have := H2.out.1.lt p H2.out.1.fp; omega
          clear hw6 HB6 hx6 e0 e1 e2 v40 v41 v42 v43 hg5 H3P q2 q2' q2''
          obtain ⟨c16, z16⟩ := z16
          go_wp2
          obtain ⟨f1, f2, f3⟩ := kid_bad (y := ⟨xa, xp, xc, xd⟩) (x := ⟨xp, xq, xl⟩) H6.out.1 H6.out.2 H2.out.2.2 HSN.out.1 HSN.out.2 np HQ.out HG.out.2
          exact ⟨⟨k + 1, _, _, F2, by omega, by go_num, HNX2.out _ f1 f2 f3⟩, by simp [intOf]; omega⟩
      · have q1' : (xp == xb) = false := by simpa using q1
        have q1'' : (xp != xb) = true := by simpa using q1
        have HQ : Hid (kdQ ⟨xp, xq, xl⟩ ⟨xa, xb, xc, xd⟩ = false) := by show kdQ _ _ = false; unfold kdQ; simp only; rw [q1']; simp
        go_wp2
        go_quiet (fail)
        obtain ⟨w6, hw6⟩ : ∃ w6, ((w5.alloc (Obj.cells #[Value.int IntKind.i64 xp, Value.int IntKind.i64 xq, Value.int IntKind.i64 xl] 98)).drewN nq) = w6 := ⟨_, rfl⟩
        obtain ⟨HB6, hx6⟩ := sums_new w5 ⟨xp, xq, xl⟩ nq w6 hw6
        rw [hw6]
        have H6 : Hid (RWA w6 p F2 ia ic L q XW ∧ At3 w6 sb ⟨sp, sq, sl⟩) := ⟨H2.out.1.below H2.out.2.2 HB6, H3P.out.keep (HB6.block sb ls5)⟩
        obtain ⟨x0, x1, x2⟩ := hx6.at
        simp only at x0 x1 x2
        obtain ⟨d0, d1, d2⟩ := H6.out.2.at
        simp only at d0 d1 d2
        have y0 := H6.out.2.frz 0
        have y1 := H6.out.2.frz 1
        have y2 := H6.out.2.frz 2
        have z16 := H6.out.1.c16
        obtain ⟨g5, hg5⟩ : ∃ g5, w5.heap.size = g5 := ⟨_, rfl⟩
        have HG : Hid (wr.heap.size ≤ g5 ∧ Ch w5.heap.size (fun x => x = sb ∨ x = p ∨ wr.heap.size ≤ x) w5 w6) := ⟨by have := H2.out.2.1; omega, Ch.of _ HB6⟩
        rw [hg5] at x0 x1 x2 ls5 lb5 ⊢
        have np : ¬ sb = p := fun e => HSN.out.1 (e ▸ H6.out.1.fp)
        have ng : ¬ g5 = p := fun e => by have := H2.out.1.lt p H2.out.1.fp; omega
        clear hw6 HB6 hx6 e0 e1 e2 v40 v41 v42 v43 hg5 H3P q1 q1' q1''
        obtain ⟨c16, z16⟩ := z16
        go_wp2
        obtain ⟨f1, f2, f3⟩ := kid_bad (y := ⟨xa, xb, xc, xd⟩) (x := ⟨xp, xq, xl⟩) H6.out.1 H6.out.2 H2.out.2.2 HSN.out.1 HSN.out.2 np HQ.out HG.out.2
        exact ⟨⟨k + 1, _, _, F2, by omega, by go_num, HNX2.out _ f1 f2 f3⟩, by simp [intOf]; omega⟩

set_option maxHeartbeats 4000000 in
set_option maxRecDepth 20000 in
theorem tree_n (hLB : Bys L) (lv : Nat) (hlv : lv ≤ 40) (IH : TreeC p ia ic L q lv) (h : RWA w p F ia ic L q W) (hbad : W.bad = false) (hok : WkOk W) (hk0 : 0 < W.kd.length) (n : Int) (hk : kdB W n 116 = true) (z : List Int) (hz : pageOf L n.toNat = z) (l : List C4) (hL : reL true z = l) (m : Nat) (hm : l.length = m) (lv1 : Nat) (hlv1 : lv + 1 = lv1) (hE : reE true z = 0) (hV : reV true z = (lv1 : Int)) (hmm : 6 ≤ m) :
    Calls Tryz.prog 45 #[.pointer (some ⟨p, 0, none⟩), .int .i64 n, .int .i64 (lv1 : Int), .bool false] w fun e w' => e = .returned (s3V (kdGo (wtr L lv false) l ({ W with kd := W.kd.set n.toNat 116 }, s30)).2) ∧ ∃ F', RWA w' p F' ia ic L q (kdGo (wtr L lv false) l ({ W with kd := W.kd.set n.toNat 116 }, s30)).1 ∧ Step F F' w w' := by
  obtain ⟨gk, ck, aP, aT, cP, cT, h⟩ := h
  have hp := page_yes (h.below hk0 (w' := w.alloc (.cells #[.int .i64 0, .int .i64 0, .int .i64 0] 98)) ((Below.refl _ w).alloc (Nat.le_refl _) _)) n 116 (by omega) hk
  rw [hz] at hp
  have HA : Hid (∀ w1, Ch (w.alloc (.cells #[.int .i64 0, .int .i64 0, .int .i64 0] 98)).heap.size F (w.alloc (.cells #[.int .i64 0, .int .i64 0, .int .i64 0] 98)) w1 → At3 w1 w.heap.size s30 ∧ Step F F w w1) := fun w1 hc => by
    refine ⟨?_, Step.of ((Ch.of F ((Below.refl _ w).alloc (Nat.le_refl _) _)).trans (hc.mono (by simp) (fun _ _ e => e)))⟩
    show w1.heap[w.heap.size]? = _
    rw [hc.block w.heap.size (by simp) (fun e => by have := h.lt _ e; omega)]
    exact heap_alloc_new w _
  have hlb := reL_bd (t := true) (page_bys hLB n.toNat)
  rw [hz, hL] at hlb
  have HOK : Hid ((WkOk W ∧ W.bad = false ∧ 0 < W.kd.length) ∧ (¬ F w.heap.size ∧ ¬ obl ia w.heap.size) ∧ Bys L ∧ (∀ x ∈ l, okC true x = true) ∧ l.length = m ∧ lv + 1 = lv1) := ⟨⟨hok, hbad, hk0⟩, ⟨fun e => by have := h.lt _ e; omega, fun e => by have := h.ilt hk0 _ e; omega⟩, hLB, hlb.2, hm, hlv1⟩
  have HFL : Hid (∀ k, F k → k < w.heap.size) := h.lt
  have HIH : Hid (TreeC p ia ic L q lv) := IH
  obtain ⟨fin, hfin⟩ : ∃ fin, kdGo (wtr L lv false) l ({ W with kd := W.kd.set n.toNat 116 }, s30) = fin := ⟨_, rfl⟩
  have HFIN : Hid (kdGo (wtr L lv false) l ({ W with kd := W.kd.set n.toNat 116 }, s30) = fin) := hfin
  rw [hfin]
  have hm20 : m ≤ 20 := by omega
  have HEV : Hid (reE true z = 0 ∧ reV true z = (lv1 : Int) ∧ reL true z = l) := ⟨hE, hV, hL⟩
  have hlvi : ((lv1 : Int) - 1) = (lv : Int) := by omega
  have hlv0 : 0 < lv1 := by omega
  have hlv2 : lv1 ≤ 50 := by omega
  obtain ⟨rb, hrb⟩ : ∃ rb, w.heap.size = rb := ⟨_, rfl⟩
  have HRB : Hid (w.heap.size = rb) := hrb
  clear h hk hok hbad hk0 hLB hlb hz hL hfin hm IH hlv1 hrb hE hV hlv
  go_enter Tryz.func45, Tryz.ntmps45
  go_wp2_with fail
  refine hp.mono ?_
  clear hp
  rintro e w1 ⟨⟨a', c', rfl, hr1, hl1, -⟩, h1, hc1⟩
  obtain ⟨h3, st⟩ := HA.out w1 hc1
  obtain ⟨-, -, -, -, c16⟩ := h1.at
  have z16 := h1.frz 16
  simp only [HOK.out.1.2.1] at c16
  rw [HRB.out] at h3 ⊢
  have hkd := rkids_v (some a') c' 256 z w1 hr1 hl1 _ HEV.out.1 l HEV.out.2.2 m HOK.out.2.2.2.2.1 _ HEV.out.2.1
  have H1 : Hid (RWA w1 p F ia ic L q { W with kd := W.kd.set n.toNat 116 } ∧ Step F F w w1 ∧ At3 w1 rb s30) := ⟨⟨_, _, _, _, _, _, h1⟩, st, h3⟩
  have hlp : p < w1.heap.size := h1.lt p h1.fp
  clear h1 hc1 h3 st hr1 hl1 HA
  go_wp2_with fail
  refine hkd.mono ?_
  clear hkd
  rintro e w2 ⟨g, c, rfl, hown, hb2⟩
  have d16 := (hb2.cell (p := ⟨p, 16, none⟩) hlp).trans c16
  have y16 := (hb2.frozen (p := ⟨p, 16, none⟩) hlp).trans z16
  have HNK : Hid (0 < (W.kd.set n.toNat 116).length) := by show 0 < _; rw [List.length_set]; exact HOK.out.1.2.2
  have H2 : Hid (RWA w2 p F ia ic L q { W with kd := W.kd.set n.toNat 116 } ∧ Ch w.heap.size F w w2 ∧ At3 w2 rb s30 ∧ RowC w2 g c l ∧ (∀ k, obl g k → ¬ F k ∧ k < w2.heap.size)) := by
    refine ⟨H1.out.1.below HNK.out hb2, H1.out.2.1.1.trans (Ch.of F (hb2.mono H1.out.2.1.1.size)), H1.out.2.2.keep (hb2.block rb H1.out.2.2.lt), (OwnC.row' hown (fun x hx => wfC_ok (HOK.out.2.2.2.1 x hx))).2.1, fun k hk => ?_⟩
    have := World.ownsRow.lt hown k (own_obl hk)
    exact ⟨fun e => by have := H1.out.1.lt k e; omega, this.2⟩
  clear hown hb2 c16 z16 H1 hlp
  go_wp2
  have HI0 : Hid (TrI w (w2.alloc (.cells #[.int .i64 0, .int .i64 0, .int .i64 0] 98)) p F F ia ic L q (W.kd.set n.toNat 116).length lv l g rb w2.heap.size 0 { W with kd := W.kd.set n.toNat 116 } s30 fin) := by
    have := TrI.start (lv := lv) (fin := fin) H2.out.1 (wpk_ok HOK.out.1.1 n.toNat 116) HNK.out H2.out.2.1 H2.out.2.2.1 H2.out.2.2.2.2 H2.out.2.2.2.1 (by rw [← HRB.out]; exact HOK.out.2.1) HFIN.out
    exact this
  obtain ⟨sb, hsb⟩ : ∃ sb, w2.heap.size = sb := ⟨_, rfl⟩
  have HRS : Hid (rb < sb) := by show _ < _; rw [← hsb]; exact H2.out.2.2.1.lt
  rw [hsb] at HI0 ⊢
  obtain ⟨wq, hwq⟩ : ∃ wq, w2 = wq := ⟨_, rfl⟩
  rw [hwq] at HI0 ⊢
  clear hwq
  obtain ⟨w3, hw3⟩ : ∃ w3, wq.alloc (.cells #[.int .i64 0, .int .i64 0, .int .i64 0] 98) = w3 := ⟨_, rfl⟩
  rw [hw3] at HI0 ⊢
  clear hw3 hsb H2 d16 y16 HFIN HEV hmm
  go_loopw [14] (fun i wr => ∃ (k : Nat) (W' : Wk) (s' : S3) (F' : Nat → Prop), k ≤ m ∧ i = .int .i64 k ∧ Hid (TrI w wr p F F' ia ic L q (W.kd.set n.toNat 116).length lv l g rb sb k W' s' fin)) (fun i _ => m - (intOf i).toNat)
  case atStart => exact ⟨0, _, _, _, Nat.zero_le _, rfl, HI0.out⟩
  case round =>
    clear HI0
    obtain ⟨k, W', s', F', hk, rfl, HI⟩ := hrel
    have c16 := HI.out.rw.c16.1
    by_cases hend : W'.bad = true ∨ k = m
    · obtain ⟨x3, hfn, x1, x2⟩ := HI.out.done HNK.out (by have := HRB.out; omega) (by rcases hend with e | e; exact .inl e; exact .inr (e.trans HOK.out.2.2.2.2.1.symm))
      obtain ⟨e0, e1, e2⟩ := HI.out.s.at
      obtain ⟨r0, r1, r2⟩ := HI.out.r.at
      have t0 := HI.out.r.frz 0
      have t1 := HI.out.r.frz 1
      have t2 := HI.out.r.frz 2
      have HX : Hid (At3 (put3 wr rb s') rb s' ∧ fin = (W', s') ∧ RWA (put3 wr rb s') p F' ia ic L q W' ∧ Step F F' w (put3 wr rb s')) := ⟨x3, hfn, x1, x2⟩
      have hrs : ¬ rb = sb := by have := HRS.out; omega
      clear HI x3 hfn x1 x2
      obtain ⟨wb, hwb⟩ : ∃ wb, W'.bad = wb := ⟨_, rfl⟩
      rw [hwb] at c16 hend
      clear hwb
      by_cases hlt : k < m
      · have : wb = true := by rcases hend with e | e; exact e; omega
        subst this
        clear hend
        go_wp2
        refine bodyPost_ret (results_cell_row rfl _ _ rb _ #[.int .i64 s'.p, .int .i64 s'.b, .int .i64 s'.l] (0, 0) _ rfl HX.out.1 Tryz.underlying98 rfl (by kernel_rfl)) rfl ?_
        rw [HX.out.2.1]
        exact ⟨rfl, F', HX.out.2.2⟩
      · clear hend
        go_wp2
        refine bodyPost_ret (results_cell_row rfl _ _ rb _ #[.int .i64 s'.p, .int .i64 s'.b, .int .i64 s'.l] (0, 0) _ rfl HX.out.1 Tryz.underlying98 rfl (by kernel_rfl)) rfl ?_
        rw [HX.out.2.1]
        exact ⟨rfl, F', HX.out.2.2⟩
    · have hb' : W'.bad = false := by cases e : W'.bad with | true => exact absurd (.inl e) hend | false => rfl
      have hlt : k < m := by by_cases e : k = m; exact absurd (.inr e) hend; omega
      clear hend
      rw [hb'] at c16
      have hkl' : k < l.length := by rw [HOK.out.2.2.2.2.1]; exact hlt
      obtain ⟨b, off, hg, -, hbs, a4⟩ := HI.out.row k hkl'
      subst hg
      have hxo := HOK.out.2.2.2.1 _ (getD_mem hkl')
      have hob := okC_bd hxo
      have hk0' : 0 < W'.kd.length := by rw [HI.out.kl]; exact HNK.out
      have HC : Hid (∀ w1, Below wr.heap.size wr w1 → Calls Tryz.prog 45 #[.pointer (some ⟨p, 0, none⟩), .int .i64 (l.getD k c40).a, .int .i64 (lv : Int), .bool false] w1 fun e w' => e = .returned (s3V (wtr L lv false (l.getD k c40).a W').2) ∧ ∃ F2, RWA w' p F2 ia ic L q (wtr L lv false (l.getD k c40).a W').1 ∧ Step F' F2 w1 w') := fun w1 hb1 => HIH.out w1 F' W' (l.getD k c40).a false (HI.out.rw.below hk0' hb1) hb' HI.out.ok hk0' (by omega)
      have hwo := wtr_ok HOK.out.2.2.1 lv false (l.getD k c40).a W' HI.out.ok
      have HNX : Hid (∀ w1 w2 F2, Below wr.heap.size wr w1 → Step F' F2 w1 w2 → _) := fun w1 w2 F2 hb1 st => HI.out.next hkl' hb' hxo hb1 hwo.1 st (by have := HRS.out; omega)
      have hbd := HI.out.bd hb'
      have hlw : sb < wr.heap.size ∧ b < wr.heap.size := ⟨HI.out.s.lt, a4.lt⟩
      have HXL : Hid (0 < (wtr L lv false (l.getD k c40).a W').1.kd.length) := by show 0 < _; rw [wtr_len]; exact hk0'
      have HSN : Hid (∀ F2 w5, Step F' F2 wr w5 → ¬ F2 sb ∧ ¬ obl ia sb) := fun F2 w5 st => ⟨st.notin HI.out.s.lt HI.out.ns.1, HI.out.ns.2.1⟩
      obtain ⟨x, hx⟩ : ∃ x, l.getD k c40 = x := ⟨_, rfl⟩
      rw [hx] at HC HNX a4 hob hwo HXL
      obtain ⟨xa, xb, xc, xd⟩ := x
      obtain ⟨a40, a41, a42, a43⟩ := a4
      simp only at HC HNX a40 a41 a42 a43 hob hwo HXL
      obtain ⟨X, hX⟩ : ∃ X, wtr L lv false xa W' = X := ⟨_, rfl⟩
      rw [hX] at HC HNX hwo HXL
      obtain ⟨XW, Xs⟩ := X
      obtain ⟨xp, xq, xl⟩ := Xs
      unfold s3V at HC
      simp only at HC HNX hwo
      obtain ⟨-, ⟨wp, wb, wl⟩⟩ := hwo
      have hbL : bdL lv ≤ 2000000000 := by unfold bdL; have := HOK.out.2.2.2.2.2; omega
      obtain ⟨bl, hbl⟩ : ∃ bl, bdL lv = bl := ⟨_, rfl⟩
      rw [hbl] at wp wb wl hbL
      obtain ⟨sp, sq, sl⟩ := s'
      obtain ⟨b1, b2, b3⟩ := hbd
      simp only at wp wb wl b1 b2 b3
      clear hx hX hxo hkl' hk0' hbl
      go_wp2_with fail
      refine (HC.out wr (Below.refl _ _)).mono ?_
      rintro e w5 ⟨rfl, F2, h2, st2⟩
      obtain ⟨⟨h3', a4'⟩, hnx⟩ := HNX.out wr w5 F2 (Below.refl _ _) st2
      obtain ⟨v40, v41, v42, v43⟩ := a4' b off rfl
      simp only at v40 v41 v42 v43
      obtain ⟨e0, e1, e2⟩ := h3'.at
      simp only at e0 e1 e2
      have HNX2 : Hid _ := hnx
      have H3P : Hid (At3 w5 sb ⟨sp, sq, sl⟩) := h3'
      have ls5 : sb < w5.heap.size := h3'.lt
      have lb5 : b < w5.heap.size := block_lt_of_cell v40
      have HSN : Hid (¬ F2 sb ∧ ¬ obl ia sb) := HSN.out F2 w5 st2
      have H2 : Hid (RWA w5 p F2 ia ic L q XW ∧ wr.heap.size ≤ w5.heap.size ∧ 0 < XW.kd.length) := ⟨h2, st2.1.size, HXL.out⟩
      clear h2 st2 h3' a4' hnx HNX HC c16 a40 a41 a42 a43
      by_cases q1 : xp = xb
      · subst q1
        by_cases q2 : xq = xc
        · subst q2
          by_cases q3 : xl = xd
          · subst q3
            go_wp2
            go_quiet (fail)
            obtain ⟨w6, hw6⟩ : ∃ w6, ((w5.alloc (Obj.cells #[Value.int IntKind.i64 xp, Value.int IntKind.i64 xq, Value.int IntKind.i64 xl] 98)).drewN nq) = w6 := ⟨_, rfl⟩
            obtain ⟨HB6, hx6⟩ := sums_new w5 ⟨xp, xq, xl⟩ nq w6 hw6
            rw [hw6]
            have H6 : Hid (RWA w6 p F2 ia ic L q XW ∧ At3 w6 sb ⟨sp, sq, sl⟩) := ⟨H2.out.1.below H2.out.2.2 HB6, H3P.out.keep (HB6.block sb ls5)⟩
            obtain ⟨x0, x1, x2⟩ := hx6.at
            simp only at x0 x1 x2
            obtain ⟨d0, d1, d2⟩ := H6.out.2.at
            simp only at d0 d1 d2
            have y0 := H6.out.2.frz 0
            have y1 := H6.out.2.frz 1
            have y2 := H6.out.2.frz 2
            have z16 := H6.out.1.c16
            obtain ⟨g5, hg5⟩ : ∃ g5, w5.heap.size = g5 := ⟨_, rfl⟩
            have HG : Hid (wr.heap.size ≤ g5 ∧ Ch w5.heap.size (fun x => x = sb ∨ x = p ∨ wr.heap.size ≤ x) w5 w6) := ⟨by have := H2.out.2.1; omega, Ch.of _ HB6⟩
            rw [hg5] at x0 x1 x2 ls5 lb5 ⊢
            have np : ¬ sb = p := fun e => HSN.out.1 (e ▸ H6.out.1.fp)
            have ng : ¬ g5 = p := fun e => by have := H2.out.1.lt p H2.out.1.fp; omega
            clear hw6 HB6 hx6 e0 e1 e2 v40 v41 v42 v43 hg5 H3P 
            obtain ⟨c16, z16⟩ := z16
            go_wp2
            obtain ⟨f1, f2, f3⟩ := kid_good (y := ⟨xa, xp, xq, xl⟩) (x := ⟨xp, xq, xl⟩) H6.out.1 H6.out.2 H2.out.2.2 HSN.out.1 HSN.out.2 (by simp [kdQ]) HG.out.2
            exact ⟨⟨k + 1, _, _, F2, by omega, by go_num, HNX2.out _ f1 f2 f3⟩, by simp [intOf]; omega⟩
          · have q3' : (xl == xd) = false := by simpa using q3
            have q3'' : (xl != xd) = true := by simpa using q3
            have HQ : Hid (kdQ ⟨xp, xq, xl⟩ ⟨xa, xp, xq, xd⟩ = false) := by show kdQ _ _ = false; unfold kdQ; simp only; rw [q3']; simp
            go_wp2
            go_quiet (fail)
            obtain ⟨w6, hw6⟩ : ∃ w6, ((w5.alloc (Obj.cells #[Value.int IntKind.i64 xp, Value.int IntKind.i64 xq, Value.int IntKind.i64 xl] 98)).drewN nq) = w6 := ⟨_, rfl⟩
            obtain ⟨HB6, hx6⟩ := sums_new w5 ⟨xp, xq, xl⟩ nq w6 hw6
            rw [hw6]
            have H6 : Hid (RWA w6 p F2 ia ic L q XW ∧ At3 w6 sb ⟨sp, sq, sl⟩) := ⟨H2.out.1.below H2.out.2.2 HB6, H3P.out.keep (HB6.block sb ls5)⟩
            obtain ⟨x0, x1, x2⟩ := hx6.at
            simp only at x0 x1 x2
            obtain ⟨d0, d1, d2⟩ := H6.out.2.at
            simp only at d0 d1 d2
            have y0 := H6.out.2.frz 0
            have y1 := H6.out.2.frz 1
            have y2 := H6.out.2.frz 2
            have z16 := H6.out.1.c16
            obtain ⟨g5, hg5⟩ : ∃ g5, w5.heap.size = g5 := ⟨_, rfl⟩
            have HG : Hid (wr.heap.size ≤ g5 ∧ Ch w5.heap.size (fun x => x = sb ∨ x = p ∨ wr.heap.size ≤ x) w5 w6) := ⟨by have := H2.out.2.1; omega, Ch.of _ HB6⟩
            rw [hg5] at x0 x1 x2 ls5 lb5 ⊢
            have np : ¬ sb = p := fun e => HSN.out.1 (e ▸ H6.out.1.fp)
            have ng : ¬ g5 = p := fun e => by have := H2.out.1.lt p H2.out.1.fp; omega
            clear hw6 HB6 hx6 e0 e1 e2 v40 v41 v42 v43 hg5 H3P q3 q3' q3''
            obtain ⟨c16, z16⟩ := z16
            go_wp2
            obtain ⟨f1, f2, f3⟩ := kid_bad (y := ⟨xa, xp, xq, xd⟩) (x := ⟨xp, xq, xl⟩) H6.out.1 H6.out.2 H2.out.2.2 HSN.out.1 HSN.out.2 np HQ.out HG.out.2
            exact ⟨⟨k + 1, _, _, F2, by omega, by go_num, HNX2.out _ f1 f2 f3⟩, by simp [intOf]; omega⟩
        · have q2' : (xq == xc) = false := by simpa using q2
          have q2'' : (xq != xc) = true := by simpa using q2
          have HQ : Hid (kdQ ⟨xp, xq, xl⟩ ⟨xa, xp, xc, xd⟩ = false) := by show kdQ _ _ = false; unfold kdQ; simp only; rw [q2']; simp
          go_wp2
          go_quiet (fail)
          obtain ⟨w6, hw6⟩ : ∃ w6, ((w5.alloc (Obj.cells #[Value.int IntKind.i64 xp, Value.int IntKind.i64 xq, Value.int IntKind.i64 xl] 98)).drewN nq) = w6 := ⟨_, rfl⟩
          obtain ⟨HB6, hx6⟩ := sums_new w5 ⟨xp, xq, xl⟩ nq w6 hw6
          rw [hw6]
          have H6 : Hid (RWA w6 p F2 ia ic L q XW ∧ At3 w6 sb ⟨sp, sq, sl⟩) := ⟨H2.out.1.below H2.out.2.2 HB6, H3P.out.keep (HB6.block sb ls5)⟩
          obtain ⟨x0, x1, x2⟩ := hx6.at
          simp only at x0 x1 x2
          obtain ⟨d0, d1, d2⟩ := H6.out.2.at
          simp only at d0 d1 d2
          have y0 := H6.out.2.frz 0
          have y1 := H6.out.2.frz 1
          have y2 := H6.out.2.frz 2
          have z16 := H6.out.1.c16
          obtain ⟨g5, hg5⟩ : ∃ g5, w5.heap.size = g5 := ⟨_, rfl⟩
          have HG : Hid (wr.heap.size ≤ g5 ∧ Ch w5.heap.size (fun x => x = sb ∨ x = p ∨ wr.heap.size ≤ x) w5 w6) := ⟨by have := H2.out.2.1; omega, Ch.of _ HB6⟩
          rw [hg5] at x0 x1 x2 ls5 lb5 ⊢
          have np : ¬ sb = p := fun e => HSN.out.1 (e ▸ H6.out.1.fp)
          have ng : ¬ g5 = p := fun e => by have := H2.out.1.lt p H2.out.1.fp; omega
          clear hw6 HB6 hx6 e0 e1 e2 v40 v41 v42 v43 hg5 H3P q2 q2' q2''
          obtain ⟨c16, z16⟩ := z16
          go_wp2
          obtain ⟨f1, f2, f3⟩ := kid_bad (y := ⟨xa, xp, xc, xd⟩) (x := ⟨xp, xq, xl⟩) H6.out.1 H6.out.2 H2.out.2.2 HSN.out.1 HSN.out.2 np HQ.out HG.out.2
          exact ⟨⟨k + 1, _, _, F2, by omega, by go_num, HNX2.out _ f1 f2 f3⟩, by simp [intOf]; omega⟩
      · have q1' : (xp == xb) = false := by simpa using q1
        have q1'' : (xp != xb) = true := by simpa using q1
        have HQ : Hid (kdQ ⟨xp, xq, xl⟩ ⟨xa, xb, xc, xd⟩ = false) := by show kdQ _ _ = false; unfold kdQ; simp only; rw [q1']; simp
        go_wp2
        go_quiet (fail)
        obtain ⟨w6, hw6⟩ : ∃ w6, ((w5.alloc (Obj.cells #[Value.int IntKind.i64 xp, Value.int IntKind.i64 xq, Value.int IntKind.i64 xl] 98)).drewN nq) = w6 := ⟨_, rfl⟩
        obtain ⟨HB6, hx6⟩ := sums_new w5 ⟨xp, xq, xl⟩ nq w6 hw6
        rw [hw6]
        have H6 : Hid (RWA w6 p F2 ia ic L q XW ∧ At3 w6 sb ⟨sp, sq, sl⟩) := ⟨H2.out.1.below H2.out.2.2 HB6, H3P.out.keep (HB6.block sb ls5)⟩
        obtain ⟨x0, x1, x2⟩ := hx6.at
        simp only at x0 x1 x2
        obtain ⟨d0, d1, d2⟩ := H6.out.2.at
        simp only at d0 d1 d2
        have y0 := H6.out.2.frz 0
        have y1 := H6.out.2.frz 1
        have y2 := H6.out.2.frz 2
        have z16 := H6.out.1.c16
        obtain ⟨g5, hg5⟩ : ∃ g5, w5.heap.size = g5 := ⟨_, rfl⟩
        have HG : Hid (wr.heap.size ≤ g5 ∧ Ch w5.heap.size (fun x => x = sb ∨ x = p ∨ wr.heap.size ≤ x) w5 w6) := ⟨by have := H2.out.2.1; omega, Ch.of _ HB6⟩
        rw [hg5] at x0 x1 x2 ls5 lb5 ⊢
        have np : ¬ sb = p := fun e => HSN.out.1 (e ▸ H6.out.1.fp)
        have ng : ¬ g5 = p := fun e => by have := H2.out.1.lt p H2.out.1.fp; omega
        clear hw6 HB6 hx6 e0 e1 e2 v40 v41 v42 v43 hg5 H3P q1 q1' q1''
        obtain ⟨c16, z16⟩ := z16
        go_wp2
        obtain ⟨f1, f2, f3⟩ := kid_bad (y := ⟨xa, xb, xc, xd⟩) (x := ⟨xp, xq, xl⟩) H6.out.1 H6.out.2 H2.out.2.2 HSN.out.1 HSN.out.2 np HQ.out HG.out.2
        exact ⟨⟨k + 1, _, _, F2, by omega, by go_num, HNX2.out _ f1 f2 f3⟩, by simp [intOf]; omega⟩

end
end Go.Proofs.YtjllhcifmfhkmaaGreat.Oct

/-
  The document's walker: tree, an inner page, one that may not be.
-/
namespace Go.Proofs.YtjllhcifmfhkmaaGreat.Oct
open Go.RowKit

section
variable {w w' : World} {p ic : Nat} {F : Nat → Prop} {ia : Option Addr} {L : List Int} {q : Nat → Value} {W : Wk}

set_option maxHeartbeats 4000000 in
set_option maxRecDepth 20000 in
theorem tree_e (hLB : Bys L) (lv : Nat) (hlv : lv ≤ 40) (IH : TreeC p ia ic L q lv) (h : RWA w p F ia ic L q W) (hbad : W.bad = false) (hok : WkOk W) (hk0 : 0 < W.kd.length) (n : Int) (hk : kdB W n 116 = true) (root : Bool) (z : List Int) (hz : pageOf L n.toNat = z) (l : List C4) (hL : reL true z = l) (m : Nat) (hm : l.length = m) (lv1 : Nat) (hlv1 : lv + 1 = lv1) (E : Int) (hE : reE true z = E) (hE1 : (E != 0) = true) (V : Int) (hV : reV true z = V) :
    Calls Tryz.prog 45 #[.pointer (some ⟨p, 0, none⟩), .int .i64 n, .int .i64 (lv1 : Int), .bool root] w fun e w' => e = .returned (s3V (kdGo (wtr L lv false) l ({ W with kd := W.kd.set n.toNat 116, bad := true }, s30)).2) ∧ ∃ F', RWA w' p F' ia ic L q (kdGo (wtr L lv false) l ({ W with kd := W.kd.set n.toNat 116, bad := true }, s30)).1 ∧ Step F F' w w' := by
  obtain ⟨gk, ck, aP, aT, cP, cT, h⟩ := h
  have hp := page_yes (h.below hk0 (w' := w.alloc (.cells #[.int .i64 0, .int .i64 0, .int .i64 0] 98)) ((Below.refl _ w).alloc (Nat.le_refl _) _)) n 116 (by omega) hk
  rw [hz] at hp
  have HA : Hid (∀ w1, Ch (w.alloc (.cells #[.int .i64 0, .int .i64 0, .int .i64 0] 98)).heap.size F (w.alloc (.cells #[.int .i64 0, .int .i64 0, .int .i64 0] 98)) w1 → At3 w1 w.heap.size s30 ∧ Step F F w w1) := fun w1 hc => by
    refine ⟨?_, Step.of ((Ch.of F ((Below.refl _ w).alloc (Nat.le_refl _) _)).trans (hc.mono (by simp) (fun _ _ e => e)))⟩
    show w1.heap[w.heap.size]? = _
    rw [hc.block w.heap.size (by simp) (fun e => by have := h.lt _ e; omega)]
    exact heap_alloc_new w _
  have hlb := reL_bd (t := true) (page_bys hLB n.toNat)
  rw [hz, hL] at hlb
  have HOK : Hid ((WkOk W ∧ W.bad = false ∧ 0 < W.kd.length) ∧ (¬ F w.heap.size ∧ ¬ obl ia w.heap.size) ∧ Bys L ∧ (∀ x ∈ l, okC true x = true) ∧ l.length = m ∧ lv + 1 = lv1) := ⟨⟨hok, hbad, hk0⟩, ⟨fun e => by have := h.lt _ e; omega, fun e => by have := h.ilt hk0 _ e; omega⟩, hLB, hlb.2, hm, hlv1⟩
  have HFL : Hid (∀ k, F k → k < w.heap.size) := h.lt
  have HIH : Hid (TreeC p ia ic L q lv) := IH
  obtain ⟨fin, hfin⟩ : ∃ fin, kdGo (wtr L lv false) l ({ W with kd := W.kd.set n.toNat 116, bad := true }, s30) = fin := ⟨_, rfl⟩
  have HFIN : Hid (kdGo (wtr L lv false) l ({ W with kd := W.kd.set n.toNat 116, bad := true }, s30) = fin) := hfin
  rw [hfin]
  have hm20 : m ≤ 20 := by omega
  have HEV : Hid (reE true z = E ∧ reV true z = V ∧ reL true z = l) := ⟨hE, hV, hL⟩
  have hlvi : ((lv1 : Int) - 1) = (lv : Int) := by omega
  have hlv0 : 0 < lv1 := by omega
  have hlv2 : lv1 ≤ 50 := by omega
  obtain ⟨rb, hrb⟩ : ∃ rb, w.heap.size = rb := ⟨_, rfl⟩
  have HRB : Hid (w.heap.size = rb) := hrb
  clear h hk hok hbad hk0 hLB hlb hz hL hfin hm IH hlv1 hrb hE hV hlv
  go_enter Tryz.func45, Tryz.ntmps45
  go_wp2_with fail
  refine hp.mono ?_
  clear hp
  rintro e w1 ⟨⟨a', c', rfl, hr1, hl1, -⟩, h1, hc1⟩
  obtain ⟨h3, st⟩ := HA.out w1 hc1
  obtain ⟨-, -, -, -, c16⟩ := h1.at
  have z16 := h1.frz 16
  simp only [HOK.out.1.2.1] at c16
  rw [HRB.out] at h3 ⊢
  have hkd := rkids_v (some a') c' 256 z w1 hr1 hl1 _ HEV.out.1 l HEV.out.2.2 m HOK.out.2.2.2.2.1 _ HEV.out.2.1
  have H1 : Hid (RWA w1 p F ia ic L q { W with kd := W.kd.set n.toNat 116 } ∧ Step F F w w1 ∧ At3 w1 rb s30) := ⟨⟨_, _, _, _, _, _, h1⟩, st, h3⟩
  have hlp : p < w1.heap.size := h1.lt p h1.fp
  clear h1 hc1 h3 st hr1 hl1 HA
  go_wp2_with fail
  refine hkd.mono ?_
  clear hkd
  rintro e w2 ⟨g, c, rfl, hown, hb2⟩
  have d16 := (hb2.cell (p := ⟨p, 16, none⟩) hlp).trans c16
  have y16 := (hb2.frozen (p := ⟨p, 16, none⟩) hlp).trans z16
  have HNK : Hid (0 < (W.kd.set n.toNat 116).length) := by show 0 < _; rw [List.length_set]; exact HOK.out.1.2.2
  have H2 : Hid (RWA w2 p F ia ic L q { W with kd := W.kd.set n.toNat 116 } ∧ Ch w.heap.size F w w2 ∧ At3 w2 rb s30 ∧ RowC w2 g c l ∧ (∀ k, obl g k → ¬ F k ∧ k < w2.heap.size)) := by
    refine ⟨H1.out.1.below HNK.out hb2, H1.out.2.1.1.trans (Ch.of F (hb2.mono H1.out.2.1.1.size)), H1.out.2.2.keep (hb2.block rb H1.out.2.2.lt), (OwnC.row' hown (fun x hx => wfC_ok (HOK.out.2.2.2.1 x hx))).2.1, fun k hk => ?_⟩
    have := World.ownsRow.lt hown k (own_obl hk)
    exact ⟨fun e => by have := H1.out.1.lt k e; omega, this.2⟩
  clear hown hb2 c16 z16 H1 hlp
  go_wp2
  have HI0 : Hid (TrI w ((w2.setCell ⟨p, 16, none⟩ (.bool true)).alloc (.cells #[.int .i64 0, .int .i64 0, .int .i64 0] 98)) p F F ia ic L q (W.kd.set n.toNat 116).length lv l g rb w2.heap.size 0 { W with kd := W.kd.set n.toNat 116, bad := true } s30 fin) := by
    have hch : Ch w2.heap.size (fun x => x = p) w2 (w2.setCell ⟨p, 16, none⟩ (.bool true)) := (Ch.refl _ (fun x => x = p) w2).setCell (p := ⟨p, 16, none⟩) (.inr rfl) _
    have hnp : ¬ rb = p := fun e => by have := HFL.out p H2.out.1.fp; have := HRB.out; omega
    have := TrI.start (lv := lv) (fin := fin) (H2.out.1.setBad true) (wpk_bd HOK.out.1.1 n.toNat 116) HNK.out (H2.out.2.1.trans (hch.mono H2.out.2.1.size (fun k hk e => e ▸ H2.out.1.fp))) (H2.out.2.2.1.keep (hch.block rb H2.out.2.2.1.lt hnp)) (fun k hk => by rw [size_setCell]; exact H2.out.2.2.2.2 k hk) (H2.out.2.2.2.1.keepO (fun g hg => hch.block g (H2.out.2.2.2.2 g hg).2 (fun e => (H2.out.2.2.2.2 g hg).1 (e ▸ H2.out.1.fp)))) (by rw [← HRB.out]; exact HOK.out.2.1) HFIN.out
    rw [size_setCell] at this
    exact this
  obtain ⟨sb, hsb⟩ : ∃ sb, w2.heap.size = sb := ⟨_, rfl⟩
  have HRS : Hid (rb < sb) := by show _ < _; rw [← hsb]; exact H2.out.2.2.1.lt
  rw [hsb] at HI0 ⊢
  obtain ⟨wq, hwq⟩ : ∃ wq, (w2.setCell ⟨p, 16, none⟩ (.bool true)) = wq := ⟨_, rfl⟩
  rw [hwq] at HI0 ⊢
  clear hwq
  obtain ⟨w3, hw3⟩ : ∃ w3, wq.alloc (.cells #[.int .i64 0, .int .i64 0, .int .i64 0] 98) = w3 := ⟨_, rfl⟩
  rw [hw3] at HI0 ⊢
  clear hw3 hsb H2 d16 y16 HFIN HEV hE1
  go_loopw [14] (fun i wr => ∃ (k : Nat) (W' : Wk) (s' : S3) (F' : Nat → Prop), k ≤ m ∧ i = .int .i64 k ∧ Hid (TrI w wr p F F' ia ic L q (W.kd.set n.toNat 116).length lv l g rb sb k W' s' fin)) (fun i _ => m - (intOf i).toNat)
  case atStart => exact ⟨0, _, _, _, Nat.zero_le _, rfl, HI0.out⟩
  case round =>
    clear HI0
    obtain ⟨k, W', s', F', hk, rfl, HI⟩ := hrel
    have c16 := HI.out.rw.c16.1
    by_cases hend : W'.bad = true ∨ k = m
    · obtain ⟨x3, hfn, x1, x2⟩ := HI.out.done HNK.out (by have := HRB.out; omega) (by rcases hend with e | e; exact .inl e; exact .inr (e.trans HOK.out.2.2.2.2.1.symm))
      obtain ⟨e0, e1, e2⟩ := HI.out.s.at
      obtain ⟨r0, r1, r2⟩ := HI.out.r.at
      have t0 := HI.out.r.frz 0
      have t1 := HI.out.r.frz 1
      have t2 := HI.out.r.frz 2
      have HX : Hid (At3 (put3 wr rb s') rb s' ∧ fin = (W', s') ∧ RWA (put3 wr rb s') p F' ia ic L q W' ∧ Step F F' w (put3 wr rb s')) := ⟨x3, hfn, x1, x2⟩
      have hrs : ¬ rb = sb := by have := HRS.out; omega
      clear HI x3 hfn x1 x2
      obtain ⟨wb, hwb⟩ : ∃ wb, W'.bad = wb := ⟨_, rfl⟩
      rw [hwb] at c16 hend
      clear hwb
      by_cases hlt : k < m
      · have : wb = true := by rcases hend with e | e; exact e; omega
        subst this
        clear hend
        go_wp2
        refine bodyPost_ret (results_cell_row rfl _ _ rb _ #[.int .i64 s'.p, .int .i64 s'.b, .int .i64 s'.l] (0, 0) _ rfl HX.out.1 Tryz.underlying98 rfl (by kernel_rfl)) rfl ?_
        rw [HX.out.2.1]
        exact ⟨rfl, F', HX.out.2.2⟩
      · clear hend
        go_wp2
        refine bodyPost_ret (results_cell_row rfl _ _ rb _ #[.int .i64 s'.p, .int .i64 s'.b, .int .i64 s'.l] (0, 0) _ rfl HX.out.1 Tryz.underlying98 rfl (by kernel_rfl)) rfl ?_
        rw [HX.out.2.1]
        exact ⟨rfl, F', HX.out.2.2⟩
    · have hb' : W'.bad = false := by cases e : W'.bad with | true => exact absurd (.inl e) hend | false => rfl
      have hlt : k < m := by by_cases e : k = m; exact absurd (.inr e) hend; omega
      clear hend
      rw [hb'] at c16
      have hkl' : k < l.length := by rw [HOK.out.2.2.2.2.1]; exact hlt
      obtain ⟨b, off, hg, -, hbs, a4⟩ := HI.out.row k hkl'
      subst hg
      have hxo := HOK.out.2.2.2.1 _ (getD_mem hkl')
      have hob := okC_bd hxo
      have hk0' : 0 < W'.kd.length := by rw [HI.out.kl]; exact HNK.out
      have HC : Hid (∀ w1, Below wr.heap.size wr w1 → Calls Tryz.prog 45 #[.pointer (some ⟨p, 0, none⟩), .int .i64 (l.getD k c40).a, .int .i64 (lv : Int), .bool false] w1 fun e w' => e = .returned (s3V (wtr L lv false (l.getD k c40).a W').2) ∧ ∃ F2, RWA w' p F2 ia ic L q (wtr L lv false (l.getD k c40).a W').1 ∧ Step F' F2 w1 w') := fun w1 hb1 => HIH.out w1 F' W' (l.getD k c40).a false (HI.out.rw.below hk0' hb1) hb' HI.out.ok hk0' (by omega)
      have hwo := wtr_ok HOK.out.2.2.1 lv false (l.getD k c40).a W' HI.out.ok
      have HNX : Hid (∀ w1 w2 F2, Below wr.heap.size wr w1 → Step F' F2 w1 w2 → _) := fun w1 w2 F2 hb1 st => HI.out.next hkl' hb' hxo hb1 hwo.1 st (by have := HRS.out; omega)
      have hbd := HI.out.bd hb'
      have hlw : sb < wr.heap.size ∧ b < wr.heap.size := ⟨HI.out.s.lt, a4.lt⟩
      have HXL : Hid (0 < (wtr L lv false (l.getD k c40).a W').1.kd.length) := by show 0 < _; rw [wtr_len]; exact hk0'
      have HSN : Hid (∀ F2 w5, Step F' F2 wr w5 → ¬ F2 sb ∧ ¬ obl ia sb) := fun F2 w5 st => ⟨st.notin HI.out.s.lt HI.out.ns.1, HI.out.ns.2.1⟩
      obtain ⟨x, hx⟩ : ∃ x, l.getD k c40 = x := ⟨_, rfl⟩
      rw [hx] at HC HNX a4 hob hwo HXL
      obtain ⟨xa, xb, xc, xd⟩ := x
      obtain ⟨a40, a41, a42, a43⟩ := a4
      simp only at HC HNX a40 a41 a42 a43 hob hwo HXL
      obtain ⟨X, hX⟩ : ∃ X, wtr L lv false xa W' = X := ⟨_, rfl⟩
      rw [hX] at HC HNX hwo HXL
      obtain ⟨XW, Xs⟩ := X
      obtain ⟨xp, xq, xl⟩ := Xs
      unfold s3V at HC
      simp only at HC HNX hwo
      obtain ⟨-, ⟨wp, wb, wl⟩⟩ := hwo
      have hbL : bdL lv ≤ 2000000000 := by unfold bdL; have := HOK.out.2.2.2.2.2; omega
      obtain ⟨bl, hbl⟩ : ∃ bl, bdL lv = bl := ⟨_, rfl⟩
      rw [hbl] at wp wb wl hbL
      obtain ⟨sp, sq, sl⟩ := s'
      obtain ⟨b1, b2, b3⟩ := hbd
      simp only at wp wb wl b1 b2 b3
      clear hx hX hxo hkl' hk0' hbl
      go_wp2_with fail
      refine (HC.out wr (Below.refl _ _)).mono ?_
      rintro e w5 ⟨rfl, F2, h2, st2⟩
      obtain ⟨⟨h3', a4'⟩, hnx⟩ := HNX.out wr w5 F2 (Below.refl _ _) st2
      obtain ⟨v40, v41, v42, v43⟩ := a4' b off rfl
      simp only at v40 v41 v42 v43
      obtain ⟨e0, e1, e2⟩ := h3'.at
      simp only at e0 e1 e2
      have HNX2 : Hid _ := hnx
      have H3P : Hid (At3 w5 sb ⟨sp, sq, sl⟩) := h3'
      have ls5 : sb < w5.heap.size := h3'.lt
      have lb5 : b < w5.heap.size := block_lt_of_cell v40
      have HSN : Hid (¬ F2 sb ∧ ¬ obl ia sb) := HSN.out F2 w5 st2
      have H2 : Hid (RWA w5 p F2 ia ic L q XW ∧ wr.heap.size ≤ w5.heap.size ∧ 0 < XW.kd.length) := ⟨h2, st2.1.size, HXL.out⟩
      clear h2 st2 h3' a4' hnx HNX HC c16 a40 a41 a42 a43
      by_cases q1 : xp = xb
      · subst q1
        by_cases q2 : xq = xc
        · subst q2
          by_cases q3 : xl = xd
          · subst q3
            go_wp2
            go_quiet (fail)
            obtain ⟨w6, hw6⟩ : ∃ w6, ((w5.alloc (Obj.cells #[Value.int IntKind.i64 xp, Value.int IntKind.i64 xq, Value.int IntKind.i64 xl] 98)).drewN nq) = w6 := ⟨_, rfl⟩
            obtain ⟨HB6, hx6⟩ := sums_new w5 ⟨xp, xq, xl⟩ nq w6 hw6
            rw [hw6]
            have H6 : Hid (RWA w6 p F2 ia ic L q XW ∧ At3 w6 sb ⟨sp, sq, sl⟩) := ⟨H2.out.1.below H2.out.2.2 HB6, H3P.out.keep (HB6.block sb ls5)⟩
            obtain ⟨x0, x1, x2⟩ := hx6.at
            simp only at x0 x1 x2
            obtain ⟨d0, d1, d2⟩ := H6.out.2.at
            simp only at d0 d1 d2
            have y0 := H6.out.2.frz 0
            have y1 := H6.out.2.frz 1
            have y2 := H6.out.2.frz 2
            have z16 := H6.out.1.c16
            obtain ⟨g5, hg5⟩ : ∃ g5, w5.heap.size = g5 := ⟨_, rfl⟩
            have HG : Hid (wr.heap.size ≤ g5 ∧ Ch w5.heap.size (fun x => x = sb ∨ x = p ∨ wr.heap.size ≤ x) w5 w6) := ⟨by have := H2.out.2.1; omega, Ch.of _ HB6⟩
            rw [hg5] at x0 x1 x2 ls5 lb5 ⊢
            have np : ¬ sb = p := fun e => HSN.out.1 (e ▸ H6.out.1.fp)
            have ng : ¬ g5 = p := fun e => by have := H2.out.1.lt p H2.out.1.fp; omega
            clear hw6 HB6 hx6 e0 e1 e2 v40 v41 v42 v43 hg5 H3P 
            obtain ⟨c16, z16⟩ := z16
            go_wp2
            obtain ⟨f1, f2, f3⟩ := kid_good (y := ⟨xa, xp, xq, xl⟩) (x := ⟨xp, xq, xl⟩) H6.out.1 H6.out.2 H2.out.2.2 HSN.out.1 HSN.out.2 (by simp [kdQ]) HG.out.2
            exact ⟨⟨k + 1, _, _, F2, by omega, by go_num, HNX2.out _ f1 f2 f3⟩, by simp [intOf]; omega⟩
          · have q3' : (xl == xd) = false := by simpa using q3
            have q3'' : (xl != xd) = true := by simpa using q3
            have HQ : Hid (kdQ ⟨xp, xq, xl⟩ ⟨xa, xp, xq, xd⟩ = false) := by show kdQ _ _ = false; unfold kdQ; simp only; rw [q3']; simp
            go_wp2
            go_quiet (fail)
            obtain ⟨w6, hw6⟩ : ∃ w6, ((w5.alloc (Obj.cells #[Value.int IntKind.i64 xp, Value.int IntKind.i64 xq, Value.int IntKind.i64 xl] 98)).drewN nq) = w6 := ⟨_, rfl⟩
            obtain ⟨HB6, hx6⟩ := sums_new w5 ⟨xp, xq, xl⟩ nq w6 hw6
            rw [hw6]
            have H6 : Hid (RWA w6 p F2 ia ic L q XW ∧ At3 w6 sb ⟨sp, sq, sl⟩) := ⟨H2.out.1.below H2.out.2.2 HB6, H3P.out.keep (HB6.block sb ls5)⟩
            obtain ⟨x0, x1, x2⟩ := hx6.at
            simp only at x0 x1 x2
            obtain ⟨d0, d1, d2⟩ := H6.out.2.at
            simp only at d0 d1 d2
            have y0 := H6.out.2.frz 0
            have y1 := H6.out.2.frz 1
            have y2 := H6.out.2.frz 2
            have z16 := H6.out.1.c16
            obtain ⟨g5, hg5⟩ : ∃ g5, w5.heap.size = g5 := ⟨_, rfl⟩
            have HG : Hid (wr.heap.size ≤ g5 ∧ Ch w5.heap.size (fun x => x = sb ∨ x = p ∨ wr.heap.size ≤ x) w5 w6) := ⟨by have := H2.out.2.1; omega, Ch.of _ HB6⟩
            rw [hg5] at x0 x1 x2 ls5 lb5 ⊢
            have np : ¬ sb = p := fun e => HSN.out.1 (e ▸ H6.out.1.fp)
            have ng : ¬ g5 = p := fun e => by have := H2.out.1.lt p H2.out.1.fp; omega
            clear hw6 HB6 hx6 e0 e1 e2 v40 v41 v42 v43 hg5 H3P q3 q3' q3''
            obtain ⟨c16, z16⟩ := z16
            go_wp2
            obtain ⟨f1, f2, f3⟩ := kid_bad (y := ⟨xa, xp, xq, xd⟩) (x := ⟨xp, xq, xl⟩) H6.out.1 H6.out.2 H2.out.2.2 HSN.out.1 HSN.out.2 np HQ.out HG.out.2
            exact ⟨⟨k + 1, _, _, F2, by omega, by go_num, HNX2.out _ f1 f2 f3⟩, by simp [intOf]; omega⟩
        · have q2' : (xq == xc) = false := by simpa using q2
          have q2'' : (xq != xc) = true := by simpa using q2
          have HQ : Hid (kdQ ⟨xp, xq, xl⟩ ⟨xa, xp, xc, xd⟩ = false) := by show kdQ _ _ = false; unfold kdQ; simp only; rw [q2']; simp
          go_wp2
          go_quiet (fail)
          obtain ⟨w6, hw6⟩ : ∃ w6, ((w5.alloc (Obj.cells #[Value.int IntKind.i64 xp, Value.int IntKind.i64 xq, Value.int IntKind.i64 xl] 98)).drewN nq) = w6 := ⟨_, rfl⟩
          obtain ⟨HB6, hx6⟩ := sums_new w5 ⟨xp, xq, xl⟩ nq w6 hw6
          rw [hw6]
          have H6 : Hid (RWA w6 p F2 ia ic L q XW ∧ At3 w6 sb ⟨sp, sq, sl⟩) := ⟨H2.out.1.below H2.out.2.2 HB6, H3P.out.keep (HB6.block sb ls5)⟩
          obtain ⟨x0, x1, x2⟩ := hx6.at
          simp only at x0 x1 x2
          obtain ⟨d0, d1, d2⟩ := H6.out.2.at
          simp only at d0 d1 d2
          have y0 := H6.out.2.frz 0
          have y1 := H6.out.2.frz 1
          have y2 := H6.out.2.frz 2
          have z16 := H6.out.1.c16
          obtain ⟨g5, hg5⟩ : ∃ g5, w5.heap.size = g5 := ⟨_, rfl⟩
          have HG : Hid (wr.heap.size ≤ g5 ∧ Ch w5.heap.size (fun x => x = sb ∨ x = p ∨ wr.heap.size ≤ x) w5 w6) := ⟨by have := H2.out.2.1; omega, Ch.of _ HB6⟩
          rw [hg5] at x0 x1 x2 ls5 lb5 ⊢
          have np : ¬ sb = p := fun e => HSN.out.1 (e ▸ H6.out.1.fp)
          have ng : ¬ g5 = p := fun e => by have := H2.out.1.lt p H2.out.1.fp; omega
          clear hw6 HB6 hx6 e0 e1 e2 v40 v41 v42 v43 hg5 H3P q2 q2' q2''
          obtain ⟨c16, z16⟩ := z16
          go_wp2
          obtain ⟨f1, f2, f3⟩ := kid_bad (y := ⟨xa, xp, xc, xd⟩) (x := ⟨xp, xq, xl⟩) H6.out.1 H6.out.2 H2.out.2.2 HSN.out.1 HSN.out.2 np HQ.out HG.out.2
          exact ⟨⟨k + 1, _, _, F2, by omega, by go_num, HNX2.out _ f1 f2 f3⟩, by simp [intOf]; omega⟩
      · have q1' : (xp == xb) = false := by simpa using q1
        have q1'' : (xp != xb) = true := by simpa using q1
        have HQ : Hid (kdQ ⟨xp, xq, xl⟩ ⟨xa, xb, xc, xd⟩ = false) := by show kdQ _ _ = false; unfold kdQ; simp only; rw [q1']; simp
        go_wp2
        go_quiet (fail)
        obtain ⟨w6, hw6⟩ : ∃ w6, ((w5.alloc (Obj.cells #[Value.int IntKind.i64 xp, Value.int IntKind.i64 xq, Value.int IntKind.i64 xl] 98)).drewN nq) = w6 := ⟨_, rfl⟩
        obtain ⟨HB6, hx6⟩ := sums_new w5 ⟨xp, xq, xl⟩ nq w6 hw6
        rw [hw6]
        have H6 : Hid (RWA w6 p F2 ia ic L q XW ∧ At3 w6 sb ⟨sp, sq, sl⟩) := ⟨H2.out.1.below H2.out.2.2 HB6, H3P.out.keep (HB6.block sb ls5)⟩
        obtain ⟨x0, x1, x2⟩ := hx6.at
        simp only at x0 x1 x2
        obtain ⟨d0, d1, d2⟩ := H6.out.2.at
        simp only at d0 d1 d2
        have y0 := H6.out.2.frz 0
        have y1 := H6.out.2.frz 1
        have y2 := H6.out.2.frz 2
        have z16 := H6.out.1.c16
        obtain ⟨g5, hg5⟩ : ∃ g5, w5.heap.size = g5 := ⟨_, rfl⟩
        have HG : Hid (wr.heap.size ≤ g5 ∧ Ch w5.heap.size (fun x => x = sb ∨ x = p ∨ wr.heap.size ≤ x) w5 w6) := ⟨by have := H2.out.2.1; omega, Ch.of _ HB6⟩
        rw [hg5] at x0 x1 x2 ls5 lb5 ⊢
        have np : ¬ sb = p := fun e => HSN.out.1 (e ▸ H6.out.1.fp)
        have ng : ¬ g5 = p := fun e => by have := H2.out.1.lt p H2.out.1.fp; omega
        clear hw6 HB6 hx6 e0 e1 e2 v40 v41 v42 v43 hg5 H3P q1 q1' q1''
        obtain ⟨c16, z16⟩ := z16
        go_wp2
        obtain ⟨f1, f2, f3⟩ := kid_bad (y := ⟨xa, xb, xc, xd⟩) (x := ⟨xp, xq, xl⟩) H6.out.1 H6.out.2 H2.out.2.2 HSN.out.1 HSN.out.2 np HQ.out HG.out.2
        exact ⟨⟨k + 1, _, _, F2, by omega, by go_num, HNX2.out _ f1 f2 f3⟩, by simp [intOf]; omega⟩

set_option maxHeartbeats 4000000 in
set_option maxRecDepth 20000 in
theorem tree_v (hLB : Bys L) (lv : Nat) (hlv : lv ≤ 40) (IH : TreeC p ia ic L q lv) (h : RWA w p F ia ic L q W) (hbad : W.bad = false) (hok : WkOk W) (hk0 : 0 < W.kd.length) (n : Int) (hk : kdB W n 116 = true) (root : Bool) (z : List Int) (hz : pageOf L n.toNat = z) (l : List C4) (hL : reL true z = l) (m : Nat) (hm : l.length = m) (lv1 : Nat) (hlv1 : lv + 1 = lv1) (hE : reE true z = 0) (V : Int) (hV : reV true z = V) (hV1 : (V != (lv1 : Int)) = true) :
    Calls Tryz.prog 45 #[.pointer (some ⟨p, 0, none⟩), .int .i64 n, .int .i64 (lv1 : Int), .bool root] w fun e w' => e = .returned (s3V (kdGo (wtr L lv false) l ({ W with kd := W.kd.set n.toNat 116, bad := true }, s30)).2) ∧ ∃ F', RWA w' p F' ia ic L q (kdGo (wtr L lv false) l ({ W with kd := W.kd.set n.toNat 116, bad := true }, s30)).1 ∧ Step F F' w w' := by
  obtain ⟨gk, ck, aP, aT, cP, cT, h⟩ := h
  have hp := page_yes (h.below hk0 (w' := w.alloc (.cells #[.int .i64 0, .int .i64 0, .int .i64 0] 98)) ((Below.refl _ w).alloc (Nat.le_refl _) _)) n 116 (by omega) hk
  rw [hz] at hp
  have HA : Hid (∀ w1, Ch (w.alloc (.cells #[.int .i64 0, .int .i64 0, .int .i64 0] 98)).heap.size F (w.alloc (.cells #[.int .i64 0, .int .i64 0, .int .i64 0] 98)) w1 → At3 w1 w.heap.size s30 ∧ Step F F w w1) := fun w1 hc => by
    refine ⟨?_, Step.of ((Ch.of F ((Below.refl _ w).alloc (Nat.le_refl _) _)).trans (hc.mono (by simp) (fun _ _ e => e)))⟩
    show w1.heap[w.heap.size]? = _
    rw [hc.block w.heap.size (by simp) (fun e => by have := h.lt _ e; omega)]
    exact heap_alloc_new w _
  have hlb := reL_bd (t := true) (page_bys hLB n.toNat)
  rw [hz, hL] at hlb
  have HOK : Hid ((WkOk W ∧ W.bad = false ∧ 0 < W.kd.length) ∧ (¬ F w.heap.size ∧ ¬ obl ia w.heap.size) ∧ Bys L ∧ (∀ x ∈ l, okC true x = true) ∧ l.length = m ∧ lv + 1 = lv1) := ⟨⟨hok, hbad, hk0⟩, ⟨fun e => by have := h.lt _ e; omega, fun e => by have := h.ilt hk0 _ e; omega⟩, hLB, hlb.2, hm, hlv1⟩
  have HFL : Hid (∀ k, F k → k < w.heap.size) := h.lt
  have HIH : Hid (TreeC p ia ic L q lv) := IH
  obtain ⟨fin, hfin⟩ : ∃ fin, kdGo (wtr L lv false) l ({ W with kd := W.kd.set n.toNat 116, bad := true }, s30) = fin := ⟨_, rfl⟩
  have HFIN : Hid (kdGo (wtr L lv false) l ({ W with kd := W.kd.set n.toNat 116, bad := true }, s30) = fin) := hfin
  rw [hfin]
  have hm20 : m ≤ 20 := by omega
  have HEV : Hid (reE true z = 0 ∧ reV true z = V ∧ reL true z = l) := ⟨hE, hV, hL⟩
  have hlvi : ((lv1 : Int) - 1) = (lv : Int) := by omega
  have hlv0 : 0 < lv1 := by omega
  have hlv2 : lv1 ≤ 50 := by omega
  obtain ⟨rb, hrb⟩ : ∃ rb, w.heap.size = rb := ⟨_, rfl⟩
  have HRB : Hid (w.heap.size = rb) := hrb
  clear h hk hok hbad hk0 hLB hlb hz hL hfin hm IH hlv1 hrb hE hV hlv
  go_enter Tryz.func45, Tryz.ntmps45
  go_wp2_with fail
  refine hp.mono ?_
  clear hp
  rintro e w1 ⟨⟨a', c', rfl, hr1, hl1, -⟩, h1, hc1⟩
  obtain ⟨h3, st⟩ := HA.out w1 hc1
  obtain ⟨-, -, -, -, c16⟩ := h1.at
  have z16 := h1.frz 16
  simp only [HOK.out.1.2.1] at c16
  rw [HRB.out] at h3 ⊢
  have hkd := rkids_v (some a') c' 256 z w1 hr1 hl1 _ HEV.out.1 l HEV.out.2.2 m HOK.out.2.2.2.2.1 _ HEV.out.2.1
  have H1 : Hid (RWA w1 p F ia ic L q { W with kd := W.kd.set n.toNat 116 } ∧ Step F F w w1 ∧ At3 w1 rb s30) := ⟨⟨_, _, _, _, _, _, h1⟩, st, h3⟩
  have hlp : p < w1.heap.size := h1.lt p h1.fp
  clear h1 hc1 h3 st hr1 hl1 HA
  go_wp2_with fail
  refine hkd.mono ?_
  clear hkd
  rintro e w2 ⟨g, c, rfl, hown, hb2⟩
  have d16 := (hb2.cell (p := ⟨p, 16, none⟩) hlp).trans c16
  have y16 := (hb2.frozen (p := ⟨p, 16, none⟩) hlp).trans z16
  have HNK : Hid (0 < (W.kd.set n.toNat 116).length) := by show 0 < _; rw [List.length_set]; exact HOK.out.1.2.2
  have H2 : Hid (RWA w2 p F ia ic L q { W with kd := W.kd.set n.toNat 116 } ∧ Ch w.heap.size F w w2 ∧ At3 w2 rb s30 ∧ RowC w2 g c l ∧ (∀ k, obl g k → ¬ F k ∧ k < w2.heap.size)) := by
    refine ⟨H1.out.1.below HNK.out hb2, H1.out.2.1.1.trans (Ch.of F (hb2.mono H1.out.2.1.1.size)), H1.out.2.2.keep (hb2.block rb H1.out.2.2.lt), (OwnC.row' hown (fun x hx => wfC_ok (HOK.out.2.2.2.1 x hx))).2.1, fun k hk => ?_⟩
    have := World.ownsRow.lt hown k (own_obl hk)
    exact ⟨fun e => by have := H1.out.1.lt k e; omega, this.2⟩
  clear hown hb2 c16 z16 H1 hlp
  go_wp2
  have HI0 : Hid (TrI w ((w2.setCell ⟨p, 16, none⟩ (.bool true)).alloc (.cells #[.int .i64 0, .int .i64 0, .int .i64 0] 98)) p F F ia ic L q (W.kd.set n.toNat 116).length lv l g rb w2.heap.size 0 { W with kd := W.kd.set n.toNat 116, bad := true } s30 fin) := by
    have hch : Ch w2.heap.size (fun x => x = p) w2 (w2.setCell ⟨p, 16, none⟩ (.bool true)) := (Ch.refl _ (fun x => x = p) w2).setCell (p := ⟨p, 16, none⟩) (.inr rfl) _
    have hnp : ¬ rb = p := fun e => by have := HFL.out p H2.out.1.fp; have := HRB.out; omega
    have := TrI.start (lv := lv) (fin := fin) (H2.out.1.setBad true) (wpk_bd HOK.out.1.1 n.toNat 116) HNK.out (H2.out.2.1.trans (hch.mono H2.out.2.1.size (fun k hk e => e ▸ H2.out.1.fp))) (H2.out.2.2.1.keep (hch.block rb H2.out.2.2.1.lt hnp)) (fun k hk => by rw [size_setCell]; exact H2.out.2.2.2.2 k hk) (H2.out.2.2.2.1.keepO (fun g hg => hch.block g (H2.out.2.2.2.2 g hg).2 (fun e => (H2.out.2.2.2.2 g hg).1 (e ▸ H2.out.1.fp)))) (by rw [← HRB.out]; exact HOK.out.2.1) HFIN.out
    rw [size_setCell] at this
    exact this
  obtain ⟨sb, hsb⟩ : ∃ sb, w2.heap.size = sb := ⟨_, rfl⟩
  have HRS : Hid (rb < sb) := by show _ < _; rw [← hsb]; exact H2.out.2.2.1.lt
  rw [hsb] at HI0 ⊢
  obtain ⟨wq, hwq⟩ : ∃ wq, (w2.setCell ⟨p, 16, none⟩ (.bool true)) = wq := ⟨_, rfl⟩
  rw [hwq] at HI0 ⊢
  clear hwq
  obtain ⟨w3, hw3⟩ : ∃ w3, wq.alloc (.cells #[.int .i64 0, .int .i64 0, .int .i64 0] 98) = w3 := ⟨_, rfl⟩
  rw [hw3] at HI0 ⊢
  clear hw3 hsb H2 d16 y16 HFIN HEV hV1
  go_loopw [14] (fun i wr => ∃ (k : Nat) (W' : Wk) (s' : S3) (F' : Nat → Prop), k ≤ m ∧ i = .int .i64 k ∧ Hid (TrI w wr p F F' ia ic L q (W.kd.set n.toNat 116).length lv l g rb sb k W' s' fin)) (fun i _ => m - (intOf i).toNat)
  case atStart => exact ⟨0, _, _, _, Nat.zero_le _, rfl, HI0.out⟩
  case round =>
    clear HI0
    obtain ⟨k, W', s', F', hk, rfl, HI⟩ := hrel
    have c16 := HI.out.rw.c16.1
    by_cases hend : W'.bad = true ∨ k = m
    · obtain ⟨x3, hfn, x1, x2⟩ := HI.out.done HNK.out (by have := HRB.out; omega) (by rcases hend with e | e; exact .inl e; exact .inr (e.trans HOK.out.2.2.2.2.1.symm))
      obtain ⟨e0, e1, e2⟩ := HI.out.s.at
      obtain ⟨r0, r1, r2⟩ := HI.out.r.at
      have t0 := HI.out.r.frz 0
      have t1 := HI.out.r.frz 1
      have t2 := HI.out.r.frz 2
      have HX : Hid (At3 (put3 wr rb s') rb s' ∧ fin = (W', s') ∧ RWA (put3 wr rb s') p F' ia ic L q W' ∧ Step F F' w (put3 wr rb s')) := ⟨x3, hfn, x1, x2⟩
      have hrs : ¬ rb = sb := by have := HRS.out; omega
      clear HI x3 hfn x1 x2
      obtain ⟨wb, hwb⟩ : ∃ wb, W'.bad = wb := ⟨_, rfl⟩
      rw [hwb] at c16 hend
      clear hwb
      by_cases hlt : k < m
      · have : wb = true := by rcases hend with e | e; exact e; omega
        subst this
        clear hend
        go_wp2
        refine bodyPost_ret (results_cell_row rfl _ _ rb _ #[.int .i64 s'.p, .int .i64 s'.b, .int .i64 s'.l] (0, 0) _ rfl HX.out.1 Tryz.underlying98 rfl (by kernel_rfl)) rfl ?_
        rw [HX.out.2.1]
        exact ⟨rfl, F', HX.out.2.2⟩
      · clear hend
        go_wp2
        refine bodyPost_ret (results_cell_row rfl _ _ rb _ #[.int .i64 s'.p, .int .i64 s'.b, .int .i64 s'.l] (0, 0) _ rfl HX.out.1 Tryz.underlying98 rfl (by kernel_rfl)) rfl ?_
        rw [HX.out.2.1]
        exact ⟨rfl, F', HX.out.2.2⟩
    · have hb' : W'.bad = false := by cases e : W'.bad with | true => exact absurd (.inl e) hend | false => rfl
      have hlt : k < m := by by_cases e : k = m; exact absurd (.inr e) hend; omega
      clear hend
      rw [hb'] at c16
      have hkl' : k < l.length := by rw [HOK.out.2.2.2.2.1]; exact hlt
      obtain ⟨b, off, hg, -, hbs, a4⟩ := HI.out.row k hkl'
      subst hg
      have hxo := HOK.out.2.2.2.1 _ (getD_mem hkl')
      have hob := okC_bd hxo
      have hk0' : 0 < W'.kd.length := by rw [HI.out.kl]; exact HNK.out
      have HC : Hid (∀ w1, Below wr.heap.size wr w1 → Calls Tryz.prog 45 #[.pointer (some ⟨p, 0, none⟩), .int .i64 (l.getD k c40).a, .int .i64 (lv : Int), .bool false] w1 fun e w' => e = .returned (s3V (wtr L lv false (l.getD k c40).a W').2) ∧ ∃ F2, RWA w' p F2 ia ic L q (wtr L lv false (l.getD k c40).a W').1 ∧ Step F' F2 w1 w') := fun w1 hb1 => HIH.out w1 F' W' (l.getD k c40).a false (HI.out.rw.below hk0' hb1) hb' HI.out.ok hk0' (by omega)
      have hwo := wtr_ok HOK.out.2.2.1 lv false (l.getD k c40).a W' HI.out.ok
      have HNX : Hid (∀ w1 w2 F2, Below wr.heap.size wr w1 → Step F' F2 w1 w2 → _) := fun w1 w2 F2 hb1 st => HI.out.next hkl' hb' hxo hb1 hwo.1 st (by have := HRS.out; omega)
      have hbd := HI.out.bd hb'
      have hlw : sb < wr.heap.size ∧ b < wr.heap.size := ⟨HI.out.s.lt, a4.lt⟩
      have HXL : Hid (0 < (wtr L lv false (l.getD k c40).a W').1.kd.length) := by show 0 < _; rw [wtr_len]; exact hk0'
      have HSN : Hid (∀ F2 w5, Step F' F2 wr w5 → ¬ F2 sb ∧ ¬ obl ia sb) := fun F2 w5 st => ⟨st.notin HI.out.s.lt HI.out.ns.1, HI.out.ns.2.1⟩
      obtain ⟨x, hx⟩ : ∃ x, l.getD k c40 = x := ⟨_, rfl⟩
      rw [hx] at HC HNX a4 hob hwo HXL
      obtain ⟨xa, xb, xc, xd⟩ := x
      obtain ⟨a40, a41, a42, a43⟩ := a4
      simp only at HC HNX a40 a41 a42 a43 hob hwo HXL
      obtain ⟨X, hX⟩ : ∃ X, wtr L lv false xa W' = X := ⟨_, rfl⟩
      rw [hX] at HC HNX hwo HXL
      obtain ⟨XW, Xs⟩ := X
      obtain ⟨xp, xq, xl⟩ := Xs
      unfold s3V at HC
      simp only at HC HNX hwo
      obtain ⟨-, ⟨wp, wb, wl⟩⟩ := hwo
      have hbL : bdL lv ≤ 2000000000 := by unfold bdL; have := HOK.out.2.2.2.2.2; omega
      obtain ⟨bl, hbl⟩ : ∃ bl, bdL lv = bl := ⟨_, rfl⟩
      rw [hbl] at wp wb wl hbL
      obtain ⟨sp, sq, sl⟩ := s'
      obtain ⟨b1, b2, b3⟩ := hbd
      simp only at wp wb wl b1 b2 b3
      clear hx hX hxo hkl' hk0' hbl
      go_wp2_with fail
      refine (HC.out wr (Below.refl _ _)).mono ?_
      rintro e w5 ⟨rfl, F2, h2, st2⟩
      obtain ⟨⟨h3', a4'⟩, hnx⟩ := HNX.out wr w5 F2 (Below.refl _ _) st2
      obtain ⟨v40, v41, v42, v43⟩ := a4' b off rfl
      simp only at v40 v41 v42 v43
      obtain ⟨e0, e1, e2⟩ := h3'.at
      simp only at e0 e1 e2
      have HNX2 : Hid _ := hnx
      have H3P : Hid (At3 w5 sb ⟨sp, sq, sl⟩) := h3'
      have ls5 : sb < w5.heap.size := h3'.lt
      have lb5 : b < w5.heap.size := block_lt_of_cell v40
      have HSN : Hid (¬ F2 sb ∧ ¬ obl ia sb) := HSN.out F2 w5 st2
      have H2 : Hid (RWA w5 p F2 ia ic L q XW ∧ wr.heap.size ≤ w5.heap.size ∧ 0 < XW.kd.length) := ⟨h2, st2.1.size, HXL.out⟩
      clear h2 st2 h3' a4' hnx HNX HC c16 a40 a41 a42 a43
      by_cases q1 : xp = xb
      · subst q1
        by_cases q2 : xq = xc
        · subst q2
          by_cases q3 : xl = xd
          · subst q3
            go_wp2
            go_quiet (fail)
            obtain ⟨w6, hw6⟩ : ∃ w6, ((w5.alloc (Obj.cells #[Value.int IntKind.i64 xp, Value.int IntKind.i64 xq, Value.int IntKind.i64 xl] 98)).drewN nq) = w6 := ⟨_, rfl⟩
            obtain ⟨HB6, hx6⟩ := sums_new w5 ⟨xp, xq, xl⟩ nq w6 hw6
            rw [hw6]
            have H6 : Hid (RWA w6 p F2 ia ic L q XW ∧ At3 w6 sb ⟨sp, sq, sl⟩) := ⟨H2.out.1.below H2.out.2.2 HB6, H3P.out.keep (HB6.block sb ls5)⟩
            obtain ⟨x0, x1, x2⟩ := hx6.at
            simp only at x0 x1 x2
            obtain ⟨d0, d1, d2⟩ := H6.out.2.at
            simp only at d0 d1 d2
            have y0 := H6.out.2.frz 0
            have y1 := H6.out.2.frz 1
            have y2 := H6.out.2.frz 2
            have z16 := H6.out.1.c16
            obtain ⟨g5, hg5⟩ : ∃ g5, w5.heap.size = g5 := ⟨_, rfl⟩
            have HG : Hid (wr.heap.size ≤ g5 ∧ Ch w5.heap.size (fun x => x = sb ∨ x = p ∨ wr.heap.size ≤ x) w5 w6) := ⟨by have := H2.out.2.1; omega, Ch.of _ HB6⟩
            rw [hg5] at x0 x1 x2 ls5 lb5 ⊢
            have np : ¬ sb = p := fun e => HSN.out.1 (e ▸ H6.out.1.fp)
            have ng : ¬ g5 = p := fun e => by have := H2.out.1.lt p H2.out.1.fp; omega
            clear hw6 HB6 hx6 e0 e1 e2 v40 v41 v42 v43 hg5 H3P 
            obtain ⟨c16, z16⟩ := z16
            go_wp2
            obtain ⟨f1, f2, f3⟩ := kid_good (y := ⟨xa, xp, xq, xl⟩) (x := ⟨xp, xq, xl⟩) H6.out.1 H6.out.2 H2.out.2.2 HSN.out.1 HSN.out.2 (by simp [kdQ]) HG.out.2
            exact ⟨⟨k + 1, _, _, F2, by omega, by go_num, HNX2.out _ f1 f2 f3⟩, by simp [intOf]; omega⟩
          · have q3' : (xl == xd) = false := by simpa using q3
            have q3'' : (xl != xd) = true := by simpa using q3
            have HQ : Hid (kdQ ⟨xp, xq, xl⟩ ⟨xa, xp, xq, xd⟩ = false) := by show kdQ _ _ = false; unfold kdQ; simp only; rw [q3']; simp
            go_wp2
            go_quiet (fail)
            obtain ⟨w6, hw6⟩ : ∃ w6, ((w5.alloc (Obj.cells #[Value.int IntKind.i64 xp, Value.int IntKind.i64 xq, Value.int IntKind.i64 xl] 98)).drewN nq) = w6 := ⟨_, rfl⟩
            obtain ⟨HB6, hx6⟩ := sums_new w5 ⟨xp, xq, xl⟩ nq w6 hw6
            rw [hw6]
            have H6 : Hid (RWA w6 p F2 ia ic L q XW ∧ At3 w6 sb ⟨sp, sq, sl⟩) := ⟨H2.out.1.below H2.out.2.2 HB6, H3P.out.keep (HB6.block sb ls5)⟩
            obtain ⟨x0, x1, x2⟩ := hx6.at
            simp only at x0 x1 x2
            obtain ⟨d0, d1, d2⟩ := H6.out.2.at
            simp only at d0 d1 d2
            have y0 := H6.out.2.frz 0
            have y1 := H6.out.2.frz 1
            have y2 := H6.out.2.frz 2
            have z16 := H6.out.1.c16
            obtain ⟨g5, hg5⟩ : ∃ g5, w5.heap.size = g5 := ⟨_, rfl⟩
            have HG : Hid (wr.heap.size ≤ g5 ∧ Ch w5.heap.size (fun x => x = sb ∨ x = p ∨ wr.heap.size ≤ x) w5 w6) := ⟨by have := H2.out.2.1; omega, Ch.of _ HB6⟩
            rw [hg5] at x0 x1 x2 ls5 lb5 ⊢
            have np : ¬ sb = p := fun e => HSN.out.1 (e ▸ H6.out.1.fp)
            have ng : ¬ g5 = p := fun e => by have := H2.out.1.lt p H2.out.1.fp; omega
            clear hw6 HB6 hx6 e0 e1 e2 v40 v41 v42 v43 hg5 H3P q3 q3' q3''
            obtain ⟨c16, z16⟩ := z16
            go_wp2
            obtain ⟨f1, f2, f3⟩ := kid_bad (y := ⟨xa, xp, xq, xd⟩) (x := ⟨xp, xq, xl⟩) H6.out.1 H6.out.2 H2.out.2.2 HSN.out.1 HSN.out.2 np HQ.out HG.out.2
            exact ⟨⟨k + 1, _, _, F2, by omega, by go_num, HNX2.out _ f1 f2 f3⟩, by simp [intOf]; omega⟩
        · have q2' : (xq == xc) = false := by simpa using q2
          have q2'' : (xq != xc) = true := by simpa using q2
          have HQ : Hid (kdQ ⟨xp, xq, xl⟩ ⟨xa, xp, xc, xd⟩ = false) := by show kdQ _ _ = false; unfold kdQ; simp only; rw [q2']; simp
          go_wp2
          go_quiet (fail)
          obtain ⟨w6, hw6⟩ : ∃ w6, ((w5.alloc (Obj.cells #[Value.int IntKind.i64 xp, Value.int IntKind.i64 xq, Value.int IntKind.i64 xl] 98)).drewN nq) = w6 := ⟨_, rfl⟩
          obtain ⟨HB6, hx6⟩ := sums_new w5 ⟨xp, xq, xl⟩ nq w6 hw6
          rw [hw6]
          have H6 : Hid (RWA w6 p F2 ia ic L q XW ∧ At3 w6 sb ⟨sp, sq, sl⟩) := ⟨H2.out.1.below H2.out.2.2 HB6, H3P.out.keep (HB6.block sb ls5)⟩
          obtain ⟨x0, x1, x2⟩ := hx6.at
          simp only at x0 x1 x2
          obtain ⟨d0, d1, d2⟩ := H6.out.2.at
          simp only at d0 d1 d2
          have y0 := H6.out.2.frz 0
          have y1 := H6.out.2.frz 1
          have y2 := H6.out.2.frz 2
          have z16 := H6.out.1.c16
          obtain ⟨g5, hg5⟩ : ∃ g5, w5.heap.size = g5 := ⟨_, rfl⟩
          have HG : Hid (wr.heap.size ≤ g5 ∧ Ch w5.heap.size (fun x => x = sb ∨ x = p ∨ wr.heap.size ≤ x) w5 w6) := ⟨by have := H2.out.2.1; omega, Ch.of _ HB6⟩
          rw [hg5] at x0 x1 x2 ls5 lb5 ⊢
          have np : ¬ sb = p := fun e => HSN.out.1 (e ▸ H6.out.1.fp)
          have ng : ¬ g5 = p := fun e => by have := H2.out.1.lt p H2.out.1.fp; omega
          clear hw6 HB6 hx6 e0 e1 e2 v40 v41 v42 v43 hg5 H3P q2 q2' q2''
          obtain ⟨c16, z16⟩ := z16
          go_wp2
          obtain ⟨f1, f2, f3⟩ := kid_bad (y := ⟨xa, xp, xc, xd⟩) (x := ⟨xp, xq, xl⟩) H6.out.1 H6.out.2 H2.out.2.2 HSN.out.1 HSN.out.2 np HQ.out HG.out.2
          exact ⟨⟨k + 1, _, _, F2, by omega, by go_num, HNX2.out _ f1 f2 f3⟩, by simp [intOf]; omega⟩
      · have q1' : (xp == xb) = false := by simpa using q1
        have q1'' : (xp != xb) = true := by simpa using q1
        have HQ : Hid (kdQ ⟨xp, xq, xl⟩ ⟨xa, xb, xc, xd⟩ = false) := by show kdQ _ _ = false; unfold kdQ; simp only; rw [q1']; simp
        go_wp2
        go_quiet (fail)
        obtain ⟨w6, hw6⟩ : ∃ w6, ((w5.alloc (Obj.cells #[Value.int IntKind.i64 xp, Value.int IntKind.i64 xq, Value.int IntKind.i64 xl] 98)).drewN nq) = w6 := ⟨_, rfl⟩
        obtain ⟨HB6, hx6⟩ := sums_new w5 ⟨xp, xq, xl⟩ nq w6 hw6
        rw [hw6]
        have H6 : Hid (RWA w6 p F2 ia ic L q XW ∧ At3 w6 sb ⟨sp, sq, sl⟩) := ⟨H2.out.1.below H2.out.2.2 HB6, H3P.out.keep (HB6.block sb ls5)⟩
        obtain ⟨x0, x1, x2⟩ := hx6.at
        simp only at x0 x1 x2
        obtain ⟨d0, d1, d2⟩ := H6.out.2.at
        simp only at d0 d1 d2
        have y0 := H6.out.2.frz 0
        have y1 := H6.out.2.frz 1
        have y2 := H6.out.2.frz 2
        have z16 := H6.out.1.c16
        obtain ⟨g5, hg5⟩ : ∃ g5, w5.heap.size = g5 := ⟨_, rfl⟩
        have HG : Hid (wr.heap.size ≤ g5 ∧ Ch w5.heap.size (fun x => x = sb ∨ x = p ∨ wr.heap.size ≤ x) w5 w6) := ⟨by have := H2.out.2.1; omega, Ch.of _ HB6⟩
        rw [hg5] at x0 x1 x2 ls5 lb5 ⊢
        have np : ¬ sb = p := fun e => HSN.out.1 (e ▸ H6.out.1.fp)
        have ng : ¬ g5 = p := fun e => by have := H2.out.1.lt p H2.out.1.fp; omega
        clear hw6 HB6 hx6 e0 e1 e2 v40 v41 v42 v43 hg5 H3P q1 q1' q1''
        obtain ⟨c16, z16⟩ := z16
        go_wp2
        obtain ⟨f1, f2, f3⟩ := kid_bad (y := ⟨xa, xb, xc, xd⟩) (x := ⟨xp, xq, xl⟩) H6.out.1 H6.out.2 H2.out.2.2 HSN.out.1 HSN.out.2 np HQ.out HG.out.2
        exact ⟨⟨k + 1, _, _, F2, by omega, by go_num, HNX2.out _ f1 f2 f3⟩, by simp [intOf]; omega⟩

end
end Go.Proofs.YtjllhcifmfhkmaaGreat.Oct
