/-
  The document's pool: rising, Resident, Dirty.
-/
import Derived.Test.YtojckbhbnalkeaaGreatJf
import Derived.Test.YtojckbhbnalkeaaGreatIt
import Derived.Test.YtojckbhbnalkeaaGreatRi
namespace Go.Proofs.YtojckbhbnalkeaaGreat.Oct
open Go.RowKit

def rsB (L : List Fr) (fit : Fr → Bool) (n : Nat) : Bool := decide (fiP L (n : Int) < L.length) && fit (L.getD (fiP L (n : Int)) fr0)
def rsP (L : List Fr) (fit : Fr → Bool) (k : Nat) : List Int := ((List.range k).filter (rsB L fit)).map (fun n : Nat => (n : Int))

theorem rsP_yes {L : List Fr} {fit : Fr → Bool} {k : Nat} (h : rsB L fit k = true) : rsP L fit (k + 1) = rsP L fit k ++ [(k : Int)] := by
  unfold rsP
  rw [List.range_succ, List.filter_append, List.filter_cons_of_pos h, List.map_append]
  rfl
theorem rsP_no {L : List Fr} {fit : Fr → Bool} {k : Nat} (h : rsB L fit k = false) : rsP L fit (k + 1) = rsP L fit k := by
  unfold rsP
  rw [List.range_succ, List.filter_append, List.filter_cons_of_neg (by rw [h]; simp), List.filter_nil, List.append_nil]
theorem rsP_le (L : List Fr) (fit : Fr → Bool) (k : Nat) : (rsP L fit k).length ≤ k := by
  unfold rsP
  rw [List.length_map]
  exact Nat.le_trans (List.length_filter_le _ _) (by simp)

theorem rsP_all {L : List Fr} {fit : Fr → Bool} {n : Nat} (hn : (L.map (·.page)).Nodup) (hp : ∀ f ∈ L, f.page < n) : rsP L fit n = pgsP L fit := by
  have tr : ∀ a b c : Int, decide (a ≤ b) = true → decide (b ≤ c) = true → decide (a ≤ c) = true := fun a b c h1 h2 => by simp at h1 h2 ⊢; omega
  have to : ∀ a b : Int, (decide (a ≤ b) || decide (b ≤ a)) = true := fun a b => by simp; omega
  have hnd : (((L.filter fit).map fun f => (f.page : Int))).Nodup := by
    have h1 : ((L.filter fit).map (·.page)).Nodup := hn.sublist ((List.filter_sublist).map _)
    have e : ((L.filter fit).map fun f => (f.page : Int)) = ((L.filter fit).map (·.page)).map (fun n : Nat => (n : Int)) := by rw [List.map_map]; rfl
    rw [e]
    exact List.Pairwise.map _ (fun a b (h : a ≠ b) => by omega) h1
  have hnd2 : (rsP L fit n).Nodup := by
    unfold rsP
    exact List.Pairwise.map _ (fun a b (h : a ≠ b) => by omega) (List.nodup_range.sublist List.filter_sublist)
  have hperm : (rsP L fit n).Perm (pgsP L fit) := by
    unfold pgsP
    refine ((List.perm_ext_iff_of_nodup hnd2 hnd).2 fun x => ?_).trans (srt_perm _).symm
    unfold rsP
    rw [List.mem_map, List.mem_map]
    constructor
    · rintro ⟨k, hk, rfl⟩
      rw [List.mem_filter] at hk
      obtain ⟨_, hk2⟩ := hk
      unfold rsB at hk2
      rw [Bool.and_eq_true] at hk2
      have hlt := of_decide_eq_true hk2.1
      refine ⟨L.getD (fiP L k) fr0, List.mem_filter.2 ⟨getD_memF hlt, hk2.2⟩, ?_⟩
      have := List.findIdx_getElem (w := hlt)
      simp only [decide_eq_true_eq] at this
      rw [List.getD_eq_getElem?_getD, List.getElem?_eq_getElem hlt, Option.getD_some]
      exact this
    · rintro ⟨f, hf, rfl⟩
      rw [List.mem_filter] at hf
      refine ⟨f.page, List.mem_filter.2 ⟨List.mem_range.2 (hp f hf.1), ?_⟩, rfl⟩
      obtain ⟨h1, h2⟩ := fiP_some (L := L) (x := (f.page : Int)) ⟨f, hf.1, rfl⟩
      have : L.getD (fiP L f.page) fr0 = f := one_page hn (getD_memF h1) hf.1 (by omega)
      unfold rsB
      rw [this, decide_eq_true h1, hf.2]
      rfl
  refine List.Perm.eq_of_pairwise (le := fun a b : Int => decide (a ≤ b) = true) (fun a b _ _ h1 h2 => by simp at h1 h2; omega) ?_ (List.pairwise_mergeSort tr to _) hperm
  unfold rsP
  have : (List.range n).Pairwise (· < ·) := List.pairwise_lt_range
  exact List.Pairwise.map _ (fun a b (h : a < b) => by simp; omega) (this.sublist List.filter_sublist)
end Go.Proofs.YtojckbhbnalkeaaGreat.Oct

/-
  The document's pool: rising, Resident, Dirty, walked.
-/
namespace Go.Proofs.YtojckbhbnalkeaaGreat.Oct
open Go.RowKit

def fitR (all : Bool) : Fr → Bool := fun f => all || f.dirty

section
variable {w : World} {p q : Nat} {F : Nat → Prop} {D : Dv} {N : Nat} {L : List Fr}

theorem RP.dev (h : RP w p q F D N L) : ∃ Fd, RD w q Fd D ∧ ∀ k, Fd k → F k := by
  obtain ⟨hF, Fd, vL, K, h, rfl, hfo⟩ := h
  exact ⟨Fd, h.dev, fun k hk => hfo k (.inr (.inl hk))⟩

set_option maxHeartbeats 2000000 in
set_option maxRecDepth 20000 in
theorem rrising_any (h : RP w p q F D N L) (all : Bool) :
    Calls Tryz.prog 68 #[.pointer (some ⟨p, 0, none⟩), .bool all] w fun e w' => ∃ a c, e = .returned (.slice a (rsP L (fitR all) D.n).length c) ∧ OwnI w.heap.size w' (.slice a (rsP L (fitR all) D.n).length c) (rsP L (fitR all) D.n) ∧ Below w.heap.size w w' := by
  obtain ⟨Fd, hd, -⟩ := h.dev
  obtain ⟨gN, cN, e1⟩ := hd.now
  have hq := hd.q.2
  have n4 := hd.1.n4
  obtain ⟨a0, cap0, c0, -, c2, hle, hmx, hlook⟩ := h.look
  unfold maxLen at hmx
  have hpl : p < w.heap.size := block_lt_of_cell c0
  obtain ⟨i0, hi, hz0, hz1, hz2⟩ := info_parts info3
  have HLK : Hid _ := hlook
  have HP : Hid (RP w p q F D N L) := h
  clear h hd hlook
  go_enter Tryz.func68, Tryz.ntmps68
  go_wp2
  go_loopw [5, 6] (fun v i wr => ∃ (k : Nat) (a : Option Addr) (c m : Nat), k ≤ D.n ∧ i = .int .i64 k ∧ v = .slice a m c ∧ m ≤ k ∧ Hid (m = (rsP L (fitR all) k).length) ∧ Hid (OwnI w.heap.size wr (.slice a m c) (rsP L (fitR all) k)) ∧ Hid (Below w.heap.size w wr)) (fun _ i _ => D.n - (intOf i).toNat)
  case atStart => exact ⟨0, none, 0, 0, Nat.zero_le _, rfl, rfl, Nat.le_refl _, rfl, World.ownsRow_nil _ _ _ _, Below.refl _ _⟩
  case round =>
    obtain ⟨k, a, c, m, hk, rfl, rfl, hmk, HM, HO, HB⟩ := hrel
    have f0 := (HB.out.cell (p := ⟨p, 0, none⟩) hpl).trans c0
    have f2 := (HB.out.cell (p := ⟨p, 2, none⟩) hpl).trans c2
    have g1 := (HB.out.cell (p := ⟨q, 1, none⟩) hq).trans e1
    have hws := HB.out.size
    by_cases hlt : k < D.n
    · have hfi := rfind_all (HP.out.below HB.out) (k : Int)
      have HAPP : Hid (∀ (w2 : World) (v' : Value) (o : Obj), rsB L (fitR all) k = true → w2.ownsRow w.heap.size 3 1 v' (m + 1) ((rsP L (fitR all) k).map (Value.int .i64) ++ [.int .i64 k]) → (wr.alloc o).grownBy w2 (Value.slice a m c).ownBlock → ∃ a' c', v' = .slice a' (m + 1) c' ∧ m + 1 = (rsP L (fitR all) (k + 1)).length ∧ OwnI w.heap.size w2 (.slice a' (m + 1) c') (rsP L (fitR all) (k + 1)) ∧ Below w.heap.size w w2) := fun w2 v' o hr hown hgrow => by
        have R := ownI_step (w := w) (xs := rsP L (fitR all) k) HM.out.symm hws HO.out HB.out hown hgrow
        rw [rsP_yes hr]
        obtain ⟨a', c', hv', _⟩ := R.1.row
        have hl : (rsP L (fitR all) k ++ [(k : Int)]).length = m + 1 := by rw [List.length_append, ← HM.out]; rfl
        rw [hl] at hv'
        exact ⟨a', c', hv', hl.symm, by rw [← hv']; exact R.1, R.2⟩
      by_cases hf : fiP L (k : Int) < L.length
      · rw [fdV_yes hf] at hfi
        obtain ⟨g, rfl, -, -, d2⟩ := HLK.out _ hf
        have hgl : g < w.heap.size := block_lt_of_cell d2
        have d2' := (HB.out.cell (p := ⟨g, fiP L k * 4 + 2, none⟩) hgl).trans d2
        have HRB : Hid (rsB L (fitR all) k = (all || (L.getD (fiP L k) fr0).dirty)) := by show _ = _; unfold rsB; rw [decide_eq_true hf]; rfl
        obtain ⟨dt, hdt⟩ : ∃ dt, (L.getD (fiP L (k : Int)) fr0).dirty = dt := ⟨_, rfl⟩
        obtain ⟨i, hie⟩ : ∃ i, fiP L (k : Int) = i := ⟨_, rfl⟩
        rw [hdt] at d2' HRB
        rw [hie] at d2' hfi hf
        clear d2 hdt hie
        have hall : all = true ∨ (all = false ∧ dt = true) ∨ (all = false ∧ dt = false) := by cases all <;> cases dt <;> simp
        rcases hall with rfl | ⟨rfl, rfl⟩ | ⟨rfl, rfl⟩
        · have hr : rsB L (fitR true) k = true := HRB.out
          have HRR : Hid (rsB L (fitR true) k = true) := hr
          have HO' : Hid (wr.ownsRow w.heap.size 3 1 (.slice a m c) m ((rsP L (fitR true) k).map (Value.int .i64))) := by
            have := HO.out
            unfold OwnI at this
            rw [← HM.out] at this
            exact this
          clear hr HRB
          go_wp2_with fail
          refine hfi.mono ?_
          clear hfi
          rintro e w1 ⟨rfl, rfl⟩
          go_wp2_with (at_builtin; refine wpList_append_own _ rfl _ _ 61 rfl w.heap.size 3 i0 (.int .i64 0) 1 8 Tryz.underlying61 hi hz0 hz1 hz2 rfl (by decide) (.slice a m c) m _ rfl (World.ownsRow.alloc HO'.out _) ⟨wr.heap.size, 0, none⟩ 1 1 [.int .i64 k] rfl rfl (cell_one_new _ _ _) (by simp [Value.oneCell']) (by unfold maxLen; omega) (by omega) (by simp; omega) ?_; intro v' w7 hown' hgrow hnil; obtain ⟨a', c', hv', e1', e2', e3'⟩ := HAPP.out w7 v' _ HRR.out hown' hgrow; subst hv'; have G1 : Hid (m + 1 = (rsP L (fitR true) (k + 1)).length) := e1'; have G2 : Hid (OwnI w.heap.size w7 (.slice a' (m + 1) c') (rsP L (fitR true) (k + 1))) := e2'; have G3 : Hid (Below w.heap.size w w7) := e3'; clear e1' e2' e3' hown' hgrow hnil)
          go_roundw
          case rel => exact ⟨k + 1, a', c', m + 1, by omega, by go_num, rfl, by omega, G1.out, G2.out, G3.out⟩
          case measure => simp [intOf]; omega
        · have hr : rsB L (fitR false) k = true := HRB.out
          have HRR : Hid (rsB L (fitR false) k = true) := hr
          have HO' : Hid (wr.ownsRow w.heap.size 3 1 (.slice a m c) m ((rsP L (fitR false) k).map (Value.int .i64))) := by
            have := HO.out
            unfold OwnI at this
            rw [← HM.out] at this
            exact this
          clear hr HRB
          go_wp2_with fail
          refine hfi.mono ?_
          clear hfi
          rintro e w1 ⟨rfl, rfl⟩
          go_wp2_with (at_builtin; refine wpList_append_own _ rfl _ _ 61 rfl w.heap.size 3 i0 (.int .i64 0) 1 8 Tryz.underlying61 hi hz0 hz1 hz2 rfl (by decide) (.slice a m c) m _ rfl (World.ownsRow.alloc HO'.out _) ⟨wr.heap.size, 0, none⟩ 1 1 [.int .i64 k] rfl rfl (cell_one_new _ _ _) (by simp [Value.oneCell']) (by unfold maxLen; omega) (by omega) (by simp; omega) ?_; intro v' w7 hown' hgrow hnil; obtain ⟨a', c', hv', e1', e2', e3'⟩ := HAPP.out w7 v' _ HRR.out hown' hgrow; subst hv'; have G1 : Hid (m + 1 = (rsP L (fitR false) (k + 1)).length) := e1'; have G2 : Hid (OwnI w.heap.size w7 (.slice a' (m + 1) c') (rsP L (fitR false) (k + 1))) := e2'; have G3 : Hid (Below w.heap.size w w7) := e3'; clear e1' e2' e3' hown' hgrow hnil)
          go_roundw
          case rel => exact ⟨k + 1, a', c', m + 1, by omega, by go_num, rfl, by omega, G1.out, G2.out, G3.out⟩
          case measure => simp [intOf]; omega
        · have HN : Hid (rsP L (fitR false) (k + 1) = rsP L (fitR false) k) := rsP_no HRB.out
          clear HAPP HRB
          go_wp2_with fail
          refine hfi.mono ?_
          clear hfi
          rintro e w1 ⟨rfl, rfl⟩
          go_wp2
          go_roundw
          case rel => exact ⟨k + 1, a, c, m, by omega, by go_num, rfl, by omega, by show _ = _; rw [HN.out]; exact HM.out, by show OwnI _ _ _ _; rw [HN.out]; exact HO.out, HB.out⟩
          case measure => simp [intOf]; omega
      · rw [fdV_no hf] at hfi
        have HN : Hid (rsP L (fitR all) (k + 1) = rsP L (fitR all) k) := rsP_no (by unfold rsB; rw [decide_eq_false hf]; rfl)
        clear HAPP hf
        go_wp2_with fail
        refine hfi.mono ?_
        clear hfi
        rintro e w1 ⟨rfl, rfl⟩
        go_wp2
        go_roundw
        case rel => exact ⟨k + 1, a, c, m, by omega, by go_num, rfl, by omega, by show _ = _; rw [HN.out]; exact HM.out, by show OwnI _ _ _ _; rw [HN.out]; exact HO.out, HB.out⟩
        case measure => simp [intOf]; omega
    · have hkn : k = D.n := by omega
      subst hkn
      go_wp2
      go_ret
      have := HM.out
      exact ⟨a, c, by rw [← this]; rfl, by rw [← this]; exact HO.out, HB.out⟩

theorem rResident_any (h : RP w p q F D N L) (hn : (L.map (·.page)).Nodup) (hp : ∀ f ∈ L, f.page < D.n) : Calls Tryz.prog 29 #[.pointer (some ⟨p, 0, none⟩)] w fun x w' => ∃ a c, x = .returned (.slice a (pgsP L fitA).length c) ∧ OwnI w.heap.size w' (.slice a (pgsP L fitA).length c) (pgsP L fitA) ∧ Below w.heap.size w w' := by
  have hr := rrising_any h true
  rw [show fitR true = fitA from rfl, rsP_all hn hp] at hr
  clear h
  go_enter Tryz.func29, Tryz.ntmps29
  go_wp2_with fail
  refine hr.mono ?_
  clear hr
  rintro x w1 ⟨a, c, rfl, h1, h2⟩
  have H1 : Hid _ := h1
  have H2 : Hid _ := h2
  clear h1 h2
  go_wp2
  go_ret
  exact ⟨a, c, rfl, H1.out, H2.out⟩

theorem rDirty_any (h : RP w p q F D N L) (hn : (L.map (·.page)).Nodup) (hp : ∀ f ∈ L, f.page < D.n) : Calls Tryz.prog 31 #[.pointer (some ⟨p, 0, none⟩)] w fun x w' => ∃ a c, x = .returned (.slice a (pgsP L fitD).length c) ∧ OwnI w.heap.size w' (.slice a (pgsP L fitD).length c) (pgsP L fitD) ∧ Below w.heap.size w w' := by
  have hr := rrising_any h false
  rw [show fitR false = fitD from rfl, rsP_all hn hp] at hr
  clear h
  go_enter Tryz.func31, Tryz.ntmps31
  go_wp2_with fail
  refine hr.mono ?_
  clear hr
  rintro x w1 ⟨a, c, rfl, h1, h2⟩
  have H1 : Hid _ := h1
  have H2 : Hid _ := h2
  clear h1 h2
  go_wp2
  go_ret
  exact ⟨a, c, rfl, H1.out, H2.out⟩
end
end Go.Proofs.YtojckbhbnalkeaaGreat.Oct
