/-
  pool: leavers; who leaves.
-/
import Derived.Test.YtojckbhbnalkeaaGreatId
import Derived.Deep.LoopGhost
import Derived.LaidEqlPtr
import Derived.Lib.Builder
namespace Go.Proofs.YtojckbhbnalkeaaGreat.Oct
open Go.RowKit

/-- The first frame without a pin from a place on. -/
def nuP (L : List Fr) (j : Nat) : Nat := j + (L.drop j).findIdx (fun f => decide (f.pins = 0))

theorem nuP_hit {L : List Fr} {j : Nat} (hj : j < L.length) (h : (L.getD j fr0).pins = 0) : nuP L j = j := by
  unfold nuP
  rw [List.drop_eq_getElem_cons hj, List.findIdx_cons]
  rw [List.getD_eq_getElem?_getD, List.getElem?_eq_getElem hj, Option.getD_some] at h
  simp [h]
theorem nuP_skip {L : List Fr} {j : Nat} (hj : j < L.length) (h : (L.getD j fr0).pins ≠ 0) : nuP L j = nuP L (j + 1) := by
  unfold nuP
  rw [List.drop_eq_getElem_cons hj, List.findIdx_cons]
  rw [List.getD_eq_getElem?_getD, List.getElem?_eq_getElem hj, Option.getD_some] at h
  simp [h]
  omega
theorem nuP_end (L : List Fr) : nuP L L.length = L.length := by simp [nuP]
theorem nuP_le {L : List Fr} {j : Nat} (hj : j ≤ L.length) : j ≤ nuP L j ∧ nuP L j ≤ L.length := by
  unfold nuP
  have := List.findIdx_le_length (xs := L.drop j) (p := fun f => decide (f.pins = 0))
  simp at this
  omega

theorem infF : (Tryz.prog.info? 69).map (·.size) = some 261 := by kernel_rfl
theorem infoF : ∃ j, Tryz.prog.info? 69 = some j ∧ j.size ≠ 0 := by
  have h := infF
  cases hi : Tryz.prog.info? 69 with
  | none => rw [hi] at h; simp at h
  | some j => rw [hi] at h; simp at h; exact ⟨j, rfl, by omega⟩

theorem neq_same (w : World) (a : Addr) : (binOp .neq 66 (.pointer (some a)) (.pointer (some a))).run Tryz.prog w = .ok (.bool false) w := by
  obtain ⟨j, hj, _⟩ := infoF
  exact Lib.run_neq_ptr_same w a Tryz.underlying66 hj

theorem neq_other (w : World) {a b : Addr} {ca cb : Array Value} {ta tb : TypeId} (hne : a ≠ b) (ha : w.heap[a.block]? = some (.cells ca ta (0, 0))) (hb : w.heap[b.block]? = some (.cells cb tb (0, 0))) :
    (binOp .neq 66 (.pointer (some a)) (.pointer (some b))).run Tryz.prog w = .ok (.bool true) w := by
  obtain ⟨j, hj, hsz⟩ := infoF
  have h : ∀ d : Nat, (Op.equalIn (d + 1) 66 (.pointer (some a)) (.pointer (some b))).run Tryz.prog w = .ok false w := fun d => by
    simp [Op.equalIn, run_underlying Tryz.underlying66, sizeOf, typeInfo, hj, hsz, run_sameAddr_other w hne ha hb]
  simp only [binOp]
  simp [Op.equal, Op.maxDepth, h 9999]

/-- A cell that points. -/
def PtrAt (w : World) (q x : Nat) (t : TypeId) : Prop := w.heap[q]? = some (.cells #[.pointer (some ⟨x, 0, none⟩)] t (0, 0))

theorem PtrAt.at {w : World} {q x : Nat} {t : TypeId} (h : PtrAt w q x t) : w.cell? ⟨q, 0, none⟩ = some (.pointer (some ⟨x, 0, none⟩)) ∧ w.frozen? ⟨q, 0, none⟩ = false := by
  unfold PtrAt at h
  refine ⟨?_, ?_⟩
  · rw [cell_of_row w q _ _ _ (0, 0) h]; rfl
  · unfold World.frozen?
    rw [h]
    simp
theorem PtrAt.set {w : World} {q x : Nat} {t : TypeId} (h : PtrAt w q x t) (y : Nat) : PtrAt (w.setCell ⟨q, 0, none⟩ (.pointer (some ⟨y, 0, none⟩))) q y t := by
  unfold PtrAt at h ⊢
  rw [setCell_heap w q 0 _ _ _ _ h]
  rfl
theorem PtrAt.keep {w w' : World} {q x : Nat} {t : TypeId} (h : PtrAt w q x t) (k : w'.heap[q]? = w.heap[q]?) : PtrAt w' q x t := k.trans h

/-- Who leaves next. -/
def lvO (bs : List Nat) (fr : Nat → Fr) (e j : Nat) : Option Nat := if nuP (bs.map fr) j < bs.length then some (bs.getD (nuP (bs.map fr) j) e) else none
/-- Where the search stands behind it. -/
def lvX (bs : List Nat) (fr : Nat → Fr) (e j : Nat) : Nat := cyc e bs (min (nuP (bs.map fr) j + 2) (bs.length + 1))

section
variable {w : World} {p d m e N : Nat} {Fd F : Nat → Prop} {D : Dv} {bs : List Nat} {fr : Nat → Fr} {ol nw : Nat → Nat}

set_option maxHeartbeats 1000000 in
theorem leavers_any (h : PD w p d m e N Fd F D bs fr ol nw) :
    Calls Tryz.prog 62 #[.pointer (some ⟨p, 0, none⟩)] w fun x w' => x = .returned (.func (.func 82) #[] #[.pointer (some ⟨w.heap.size + 1, 0, none⟩), .pointer (some ⟨w.heap.size, 0, none⟩)]) ∧
      w' = (w.alloc (.cells #[.pointer (some ⟨p, 0, none⟩)] 32)).alloc (.cells #[.pointer (some ⟨cyc e bs 1, 0, none⟩)] 66) := by
  obtain ⟨c0, c1, c2, c3⟩ := h.pool.at
  have hmf : ∀ (fn : Fn) (first cap : Array Value) (w : World), (Instr.makeFunc fn first cap).run Tryz.prog w = .ok (.func fn first cap) w := fun _ _ _ _ => rfl
  obtain ⟨_, _, _, _, e4, _⟩ := (h.pool.node e (by simp)).at (h.pool.ok e (by simp))
  have hnw : nw e = cyc e bs 1 := (h.pool.ring 0 (by omega)).1
  rw [hnw] at e4
  have lp := h.pool.lt p (.inl rfl)
  have le := h.pool.lt e (.inr (.inr (by simp)))
  clear h hnw
  go_enter Tryz.func62, Tryz.ntmps62
  go_wp2
  go_ret
  exact ⟨rfl, rfl⟩

set_option maxRecDepth 20000 in
set_option maxHeartbeats 4000000 in
theorem leaver_any (h : PD w p d m e N Fd F D bs fr ol nw) (q r j : Nat) (hj : j ≤ bs.length) (hq : PtrAt w q (cyc e bs (j + 1)) 66) (hr : PtrAt w r p 32) (hqF : ¬ F q) (hqr : q ≠ r) :
    Calls Tryz.prog 82 #[.pointer (some ⟨q, 0, none⟩), .pointer (some ⟨r, 0, none⟩)] w fun x w' => x = .returned (mkP (lvO bs fr e j)) ∧ Ch w.heap.size (fun k => k = q) w w' ∧ PtrAt w' q (lvX bs fr e j) 66 := by
  have HP : Hid (PD w p d m e N Fd F D bs fr ol nw) := h
  have HR : Hid (PtrAt w r p 32) := hr
  have hql : q < w.heap.size := heap_lt hq
  go_enter Tryz.func82, Tryz.ntmps82
  go_wp2
  go_loopg [3] (bs.length + 1 - j) (fun k _ wr => ∃ i : Nat, k = bs.length + 1 - i ∧ i ≤ bs.length ∧ nuP (bs.map fr) i = nuP (bs.map fr) j ∧ Ch w.heap.size (fun k => k = q) w wr ∧ PtrAt wr q (cyc e bs (i + 1)) 66)
  case atStart => exact ⟨j, rfl, hj, rfl, Ch.refl _ _ _, hq⟩
  case round =>
    obtain ⟨i, hk, hi, hnu, hc, hqi⟩ := hrel
    have hpd : PD wr p d m e N Fd F D bs fr ol nw := HP.out.ch hc (fun k hk e1 => hqF (e1 ▸ hk))
    have hr1 : PtrAt wr r p 32 := HR.out.keep (hc.block r (heap_lt HR.out) (fun e1 => hqr e1.symm))
    obtain ⟨q1, q2⟩ := hqi.at
    obtain ⟨r1, _⟩ := hr1.at
    obtain ⟨_, _, _, c3⟩ := hpd.pool.at
    have hce := cyc_mem e bs (i + 1)
    have HC : Hid (Ch w.heap.size (fun k => k = q) w wr) := hc
    have HQ : Hid (PtrAt wr q (cyc e bs (i + 1)) 66) := hqi
    have HN : Hid (nuP (bs.map fr) i = nuP (bs.map fr) j) := hnu
    by_cases hlt : i < bs.length
    · have hcy := cyc_succ e bs i hlt
      have hgm : bs.getD i e ∈ bs := getD_mem hlt
      have hne : cyc e bs (i + 1) ≠ e := by
        rw [hcy]; exact fun e1 => hpd.pool.apart.2.2.2.2.1 (e1 ▸ hgm)
      have hneq := neq_other wr.drew (a := ⟨cyc e bs (i + 1), 0, none⟩) (b := ⟨e, 0, none⟩) (fun e1 => hne (congrArg Addr.block e1)) (hpd.pool.node _ hce) (hpd.pool.node e (by simp))
      have hgm' : bs.getD i e ∈ e :: bs := List.mem_cons_of_mem _ hgm
      obtain ⟨_, _, x2, _, x4, _⟩ := (hpd.pool.node _ hgm').at (hpd.pool.ok _ hgm')
      have hnx : nw (bs.getD i e) = cyc e bs (i + 2) := by rw [← hcy]; exact (hpd.pool.ring (i + 1) (by omega)).1
      rw [hnx] at x4
      rw [hcy] at q1 hneq HQ
      have hxq : bs.getD i e ≠ q := fun e1 => hqF (e1 ▸ hpd.fp _ (.inr (.inr hgm')))
      have hpn := fun (W : World) hW => pinned_any W (bs.getD i e) (fr (bs.getD i e)).pins hW
      have hLi : ((bs.map fr).getD i fr0) = fr (bs.getD i e) := by
        simp [List.getD_eq_getElem?_getD, List.getElem?_eq_getElem hlt]
      have hll : i < (bs.map fr).length := by simpa using hlt
      obtain ⟨x, hx⟩ : ∃ x, bs.getD i e = x := ⟨_, rfl⟩
      obtain ⟨y, hy⟩ : ∃ y, cyc e bs (i + 2) = y := ⟨_, rfl⟩
      obtain ⟨z, hz⟩ : ∃ z, (fr x).pins = z := ⟨_, rfl⟩
      have HX : Hid (bs.getD i e = x) := hx
      have HY : Hid (cyc e bs (i + 2) = y) := hy
      rw [hx] at q1 hneq HQ x2 x4 hxq hpn hLi
      rw [hz] at x2 hpn
      rw [hy] at x4
      have HS : Hid (PtrAt (wr.setCell ⟨q, 0, none⟩ (.pointer (some ⟨y, 0, none⟩))) q y 66) := HQ.out.set y
      have HS2 : Hid (Ch w.heap.size (fun k => k = q) w (wr.setCell ⟨q, 0, none⟩ (.pointer (some ⟨y, 0, none⟩)))) := HC.out.setCell (p := ⟨q, 0, none⟩) (.inr rfl) _
      have HK : Hid (gk = bs.length + 1 - i) := hk
      have hpn1 := hpn ((wr.setCell ⟨q, 0, none⟩ (.pointer (some ⟨y, 0, none⟩))).drew) (by go_simp)
      by_cases hz0 : z = 0
      · have HU : Hid (nuP (bs.map fr) j = i) := by
          show nuP (bs.map fr) j = i
          rw [← HN.out]
          exact nuP_hit hll (by rw [hLi, hz, hz0])
        have hz1 : decide (0 < z) = false := by simp [hz0]
        rw [hz1] at hpn1
        clear hpd hr1 hcy hgm hne hce hgm' hnx hLi hll hx hy hz hqi hc hnu hk h hq hr hpn hz0 hz1 HQ HC HN
        go_wp2_with fail
        go_still_tail 5, (by kernel_rfl)
        go_wp2_with (go_at_call 53; refine hpn1.mono ?_; rintro x w2 ⟨rfl, rfl⟩)
        go_ret
        refine ⟨?_, HS2.out.drew, ?_⟩
        · rw [show lvO bs fr e j = some x by unfold lvO; rw [HU.out, if_pos hlt, HX.out]]; rfl
        · rw [show lvX bs fr e j = y by unfold lvX; rw [HU.out, Nat.min_eq_left (by omega), HY.out]]; exact HS.out
      · have HU : Hid (nuP (bs.map fr) (i + 1) = nuP (bs.map fr) j) := by
          show nuP (bs.map fr) (i + 1) = nuP (bs.map fr) j
          rw [← HN.out]
          exact (nuP_skip hll (by rw [hLi, hz]; exact hz0)).symm
        have hz1 : decide (0 < z) = true := by simp; omega
        rw [hz1] at hpn1
        clear hpd hr1 hcy hgm hne hce hgm' hnx hLi hll hx hy hz hqi hc hnu hk h hq hr hpn hz0 hz1 HQ HC HN
        go_wp2_with fail
        go_still_tail 5, (by kernel_rfl)
        go_wp2_with (go_at_call 53; refine hpn1.mono ?_; rintro x w2 ⟨rfl, rfl⟩)
        go_roundg (bs.length + 1 - (i + 1))
        case measure => rw [HK.out]; omega
        case rel => exact ⟨i + 1, rfl, by omega, HU.out, HS2.out.drew, by rw [HY.out]; exact HS.out⟩
    · have hie : i = bs.length := by omega
      subst hie
      have hcy := cyc_end e bs
      have hneq := neq_same wr.drew ⟨e, 0, none⟩
      rw [hcy] at q1
      have HU : Hid (nuP (bs.map fr) j = bs.length) := by
        show nuP (bs.map fr) j = bs.length
        rw [← HN.out]
        have := nuP_end (bs.map fr)
        simpa using this
      clear hpd hr1 hce hqi hc hnu hk h hq hr HN hcy
      go_wp2_with fail
      go_still_tail 5, (by kernel_rfl)
      go_wp2
      go_ret
      refine ⟨?_, HC.out.drew, ?_⟩
      · rw [show lvO bs fr e j = none by unfold lvO; rw [HU.out, if_neg (by omega)]]; rfl
      · rw [show lvX bs fr e j = cyc e bs (bs.length + 1) by unfold lvX; rw [HU.out, Nat.min_eq_right (by omega)]]; exact HQ.out
end
end Go.Proofs.YtojckbhbnalkeaaGreat.Oct
