/-
  pool: Evict.
-/
import Derived.Test.YtojckbhbnalkeaaIn
namespace Go.Proofs.Ytojckbhbnalkeaa.Oct
open Go.RowKit

/-- Up to n frames leave. -/
def evS : Nat → Dv → List Fr → Int × Dv × List Fr
  | 0, D, L => (0, D, L)
  | n + 1, D, L => if nuP L 0 < L.length then (if evE D (L.getD (nuP L 0) fr0) = 0 then evS n (evD D (L.getD (nuP L 0) fr0)) (L.eraseIdx (nuP L 0)) else (evE D (L.getD (nuP L 0) fr0), evD D (L.getD (nuP L 0) fr0), L)) else (0, D, L)

theorem nuP_min {L : List Fr} {j : Nat} : ∀ {i : Nat}, j ≤ i → i < nuP L j → (L.getD i fr0).pins ≠ 0 := by
  intro i h1 h2
  unfold nuP at h2
  have hlt : i - j < (L.drop j).findIdx (fun f => decide (f.pins = 0)) := by omega
  have hl : i - j < (L.drop j).length := Nat.lt_of_lt_of_le hlt List.findIdx_le_length
  have := List.not_of_lt_findIdx hlt
  simp only [List.getElem_drop] at this
  have hil : i < L.length := by simp at hl; omega
  rw [List.getD_eq_getElem?_getD, List.getElem?_eq_getElem hil, Option.getD_some]
  have e : j + (i - j) = i := by omega
  simp only [e] at this
  simpa using this

theorem nuP_from {L : List Fr} {j : Nat} (hj : j ≤ L.length) (h : ∀ i, i < j → (L.getD i fr0).pins ≠ 0) : nuP L 0 = nuP L j := by
  induction j with
  | zero => rfl
  | succ j ih =>
    rw [ih (by omega) (fun i hi => h i (by omega))]
    exact nuP_skip (by omega) (h j (by omega))

theorem getD_eraseF (L : List Fr) (i j : Nat) (h : j < i) : (L.eraseIdx i).getD j fr0 = L.getD j fr0 := by
  simp only [List.getD_eq_getElem?_getD, List.getElem?_eraseIdx, if_pos h]

section
variable {w : World} {p d m e N : Nat} {Fd F : Nat → Prop} {D : Dv} {bs : List Nat} {fr : Nat → Fr} {ol nw : Nat → Nat}

/-- What Evict's inner function leaves. -/
def Ev1R (p d N : Nat) (F : Nat → Prop) (R : Int × Dv × List Fr) (w : World) (k : Int) (w' : World) : Prop :=
  k = R.1 ∧ (∃ F', Pool w' p d F' R.2.1 N R.2.2 ∧ ∀ j, F' j → F j ∨ w.heap.size ≤ j) ∧ Ch w.heap.size F w w'

/-- The loop's state. -/
def EvI (p d m e N : Nat) (F : Nat → Prop) (R : Int × Dv × List Fr) (B : Nat) (w : World) (left : Nat) (wr : World) : Prop :=
  ∃ (Fd' F' : Nat → Prop) (D' : Dv) (bs' : List Nat) (fr' : Nat → Fr) (ol' nw' : Nat → Nat) (j : Nat), PD wr p d m e N Fd' F' D' bs' fr' ol' nw' ∧ (∀ k, F' k → F k ∨ w.heap.size + 2 ≤ k) ∧ Ch w.heap.size F w wr ∧ w.heap.size + 2 ≤ wr.heap.size ∧ R = evS left D' (bs'.map fr') ∧ D'.ops + bs'.length ≤ B ∧ D'.since.length + bs'.length ≤ 1000000 ∧
    j ≤ bs'.length ∧ (∀ i, i < j → ((bs'.map fr').getD i fr0).pins ≠ 0) ∧ PtrAt wr (w.heap.size + 1) (cyc e bs' (j + 1)) 50 ∧ PtrAt wr w.heap.size p 27

/-- One step: who leaves, and what stands behind it. -/
def EvStep (p d m e N : Nat) (F : Nat → Prop) (R : Int × Dv × List Fr) (B : Nat) (w : World) (left : Nat) (x : Ending) (w1 : World) : Prop :=
  (x = .returned (.pointer none) ∧ Ev1R p d N F R w 0 w1) ∨ ∃ g, x = .returned (.pointer (some ⟨g, 0, none⟩)) ∧ Ch w.heap.size F w w1 ∧ Calls Try.prog 47 #[.pointer (some ⟨p, 0, none⟩), .pointer (some ⟨g, 0, none⟩)] w1 fun x2 w2 => (x2 = .returned (.tuple #[]) ∧ EvI p d m e N F R B w left w2) ∨ (∃ k, ¬ k = 0 ∧ x2 = thrown k ∧ Ev1R p d N F R w k w2)

theorem ev_step {R : Int × Dv × List Fr} {B left : Nat} {wr : World} (hB : B ≤ 1000005000) (hF : ∀ k, F k → k < w.heap.size) (h : EvI p d m e N F R B w (left + 1) wr) :
    Calls Try.prog 60 #[.pointer (some ⟨w.heap.size + 1, 0, none⟩), .pointer (some ⟨w.heap.size, 0, none⟩)] wr fun x w1 => EvStep p d m e N F R B w left x w1 := by
  obtain ⟨Fd', F', D', bs', fr', ol', nw', j, h1, h2, h3, h4, h5, h6, h7, h8, h9, hq, hr⟩ := h
  have hF' : ∀ k, F' k → k ≠ w.heap.size + 1 ∧ k ≠ w.heap.size := fun k hk => by
    rcases h2 k hk with e1 | e1
    · have := hF k e1; omega
    · omega
  have hLL : (bs'.map fr').length = bs'.length := by simp
  refine (leaver_any h1 (w.heap.size + 1) w.heap.size j h8 hq hr (fun e1 => (hF' _ e1).1 rfl) (by omega)).mono ?_
  rintro x w1 ⟨rfl, hc, hq1⟩
  have p1 : PD w1 p d m e N Fd' F' D' bs' fr' ol' nw' := h1.ch hc (fun k hk e1 => (hF' k hk).1 e1)
  have hr1 : PtrAt w1 w.heap.size p 27 := hr.keep (hc.block _ (heap_lt hr) (fun e1 => by omega))
  have c1 : Ch w.heap.size F w w1 := h3.trans (hc.mono (by omega) (fun k hk e1 => by omega))
  have hs1 := hc.size
  have hnu := nuP_from (by rw [hLL]; exact h8) h9
  by_cases hn : nuP (bs'.map fr') j < bs'.length
  · have ho : lvO bs' fr' e j = some (bs'.getD (nuP (bs'.map fr') j) e) := by unfold lvO; rw [if_pos hn]
    have hx : lvX bs' fr' e j = cyc e bs' (nuP (bs'.map fr') j + 2) := by unfold lvX; rw [Nat.min_eq_left (by omega)]
    rw [ho]
    rw [hx] at hq1
    obtain ⟨i, hi⟩ : ∃ i, nuP (bs'.map fr') j = i := ⟨_, rfl⟩
    have hmin : ∀ i', i' < i → ((bs'.map fr').getD i' fr0).pins ≠ 0 := fun i' hi' => by
      by_cases hj : i' < j
      · exact h9 i' hj
      · exact nuP_min (j := j) (by omega) (by omega)
    rw [hi] at hn hq1 hnu ⊢
    refine .inr ⟨bs'.getD i e, rfl, c1, ?_⟩
    have hLg := getD_map (bs := bs') (fr := fr') (e := e) hn
    refine (evict_any p1 (by omega) (by omega) i hn).mono ?_
    rintro x2 w2 ⟨hx2, Fd2, F2, fr2, ol2, nw2, p2, s2, k2⟩
    have hn0 : nuP (bs'.map fr') 0 < (bs'.map fr').length := by rw [hnu, hLL]; exact hn
    have hF2 : ∀ k, F2 k → F k ∨ w.heap.size + 2 ≤ k := fun k hk => by
      rcases s2.2 k hk with e1 | e1
      · exact h2 k e1
      · exact .inr (by omega)
    have hkeep : ∀ k, k = w.heap.size ∨ k = w.heap.size + 1 → w2.heap[k]? = w1.heap[k]? := fun k hk => s2.1.block k (by omega) (fun e1 => by have := hF' k e1; omega)
    have c2 : Ch w.heap.size F w w2 := c1.trans (s2.1.mono (by omega) (fun k hk e1 => by
      rcases h2 k e1 with e2 | e2
      · exact e2
      · omega))
    have ho2 := evD_ops D' (fr' (bs'.getD i e))
    by_cases hE : evE D' (fr' (bs'.getD i e)) = 0
    · left
      refine ⟨?_, Fd2, F2, evD D' (fr' (bs'.getD i e)), bs'.eraseIdx i, fr2, ol2, nw2, i, ?_, hF2, c2, by have := s2.1.size; omega, ?_, ?_, ?_, ?_, ?_, ?_, ?_⟩
      · rcases hx2 with e1 | e1
        · exact e1.2
        · exact absurd hE e1.1
      · unfold evB at p2
        rw [if_pos hE] at p2
        exact p2
      · rw [h5]
        have em : (bs'.eraseIdx i).map fr2 = (bs'.map fr').eraseIdx i := by
          rw [← map_erase]
          refine List.map_congr_left (fun y hy => k2 y ?_)
          unfold evB; rw [if_pos hE]; exact hy
        rw [em]
        show (if nuP (bs'.map fr') 0 < (bs'.map fr').length then _ else _) = _
        rw [if_pos hn0, hnu, hLg, if_pos hE]
      · rw [List.length_eraseIdx_of_lt hn]; omega
      · rw [List.length_eraseIdx_of_lt hn]; omega
      · rw [List.length_eraseIdx_of_lt hn]; omega
      · intro i' hi'
        have em : (bs'.eraseIdx i).map fr2 = (bs'.map fr').eraseIdx i := by
          rw [← map_erase]
          refine List.map_congr_left (fun y hy => k2 y ?_)
          unfold evB; rw [if_pos hE]; exact hy
        rw [em, getD_eraseF _ _ _ hi']
        exact hmin i' hi'
      · have e1 := cyc_erase e bs' i (i + 1) hn (by omega)
        rw [if_neg (by omega)] at e1
        rw [e1]
        exact hq1.keep (hkeep _ (.inr rfl))
      · exact hr1.keep (hkeep _ (.inl rfl))
    · right
      refine ⟨evE D' (fr' (bs'.getD i e)), hE, ?_, ?_, ⟨F2, ⟨Fd2, m, e, bs', fr2, ol2, nw2, ?_, ?_⟩, fun k hk => ?_⟩, c2⟩
      · rcases hx2 with e1 | e1
        · exact absurd e1.1 hE
        · exact e1.2
      · rw [h5]
        show _ = (if nuP (bs'.map fr') 0 < (bs'.map fr').length then _ else _ : Int × Dv × List Fr).1
        rw [if_pos hn0, hnu, hLg, if_neg hE]
      · rw [h5]
        show PD w2 p d m e N Fd2 F2 (if nuP (bs'.map fr') 0 < (bs'.map fr').length then _ else _ : Int × Dv × List Fr).2.1 bs' fr2 ol2 nw2
        rw [if_pos hn0, hnu, hLg, if_neg hE]
        unfold evB at p2
        rw [if_neg hE] at p2
        exact p2
      · rw [h5]
        show (if nuP (bs'.map fr') 0 < (bs'.map fr').length then _ else _ : Int × Dv × List Fr).2.2 = _
        rw [if_pos hn0, hnu, hLg, if_neg hE]
        refine List.map_congr_left (fun y hy => (k2 y ?_).symm)
        unfold evB; rw [if_neg hE]; exact hy
      · rcases hF2 k hk with e1 | e1
        · exact .inl e1
        · exact .inr (by omega)
  · have ho : lvO bs' fr' e j = none := by unfold lvO; rw [if_neg hn]
    rw [ho]
    have hn0 : ¬ nuP (bs'.map fr') 0 < (bs'.map fr').length := by rw [hnu, hLL]; exact hn
    have hR : R = (0, D', bs'.map fr') := by
      rw [h5]
      show (if nuP (bs'.map fr') 0 < (bs'.map fr').length then _ else _) = _
      rw [if_neg hn0]
    refine .inl ⟨rfl, by rw [hR], ⟨F', ⟨Fd', m, e, bs', fr', ol', nw', by rw [hR]; exact p1, by rw [hR]⟩, fun k hk => ?_⟩, c1⟩
    rcases h2 k hk with e1 | e1
    · exact .inl e1
    · exact .inr (by omega)

theorem ev_done {R : Int × Dv × List Fr} {B : Nat} {wr : World} (h : EvI p d m e N F R B w 0 wr) : Ev1R p d N F R w 0 wr := by
  obtain ⟨Fd', F', D', bs', fr', ol', nw', j, h1, h2, h3, h4, h5, _⟩ := h
  refine ⟨by rw [h5]; rfl, ⟨F', ⟨Fd', m, e, bs', fr', ol', nw', by rw [h5]; exact h1, by rw [h5]; rfl⟩, fun k hk => ?_⟩, h3⟩
  rcases h2 k hk with e1 | e1
  · exact .inl e1
  · exact .inr (by omega)

theorem evS_zero {n : Nat} {D : Dv} {L : List Fr} (h : n = 0) : evS n D L = (0, D, L) := by subst h; rfl

set_option maxHeartbeats 4000000 in
theorem ev1_any (h : PD w p d m e N Fd F D bs fr ol nw) (hops : D.ops ≤ 1000000000) (hs : D.since.length ≤ 900000) (n : Int) (hn : n ≤ 1048576) (rp rn : Nat)
    (hp : CellAt w rp (.pointer (some ⟨p, 0, none⟩)) 27) (hg : CellAt w rn (.int .i64 n) 3) (hpF : ¬ F rp) :
    Calls Try.prog 45 #[.pointer (some ⟨rp, 0, none⟩), .pointer (some ⟨rn, 0, none⟩)] w fun x w' => ∃ k, CEnd k x ∧ Ev1R p d N F (evS n.toNat D (bs.map fr)) w k w' := by
  obtain ⟨R, hR⟩ : ∃ R, evS n.toNat D (bs.map fr) = R := ⟨_, rfl⟩
  rw [hR]
  have hF := h.flt
  obtain ⟨p1, _⟩ := hp.at
  obtain ⟨g1, _⟩ := hg.at
  have hlv := leavers_any h
  have hb : Below w.heap.size w ((w.alloc (.cells #[.pointer (some ⟨p, 0, none⟩)] 27)).alloc (.cells #[.pointer (some ⟨cyc e bs 1, 0, none⟩)] 50)) := ((Below.refl _ w).alloc (Nat.le_refl _) _).alloc (by simp) _
  have hq : PtrAt ((w.alloc (.cells #[.pointer (some ⟨p, 0, none⟩)] 27)).alloc (.cells #[.pointer (some ⟨cyc e bs 1, 0, none⟩)] 50)) (w.heap.size + 1) (cyc e bs (0 + 1)) 50 := by
    have := heap_alloc_new (w.alloc (.cells #[.pointer (some ⟨p, 0, none⟩)] 27)) (.cells #[.pointer (some ⟨cyc e bs 1, 0, none⟩)] 50)
    simpa [PtrAt] using this
  have hr : PtrAt ((w.alloc (.cells #[.pointer (some ⟨p, 0, none⟩)] 27)).alloc (.cells #[.pointer (some ⟨cyc e bs 1, 0, none⟩)] 50)) w.heap.size p 27 := by
    unfold PtrAt
    rw [Below.heap_alloc _ _ _ (by simp)]
    exact heap_alloc_new w _
  have hl := h.pool.len
  have hn4 := h.pool.n4
  have hI : EvI p d m e N F R 1000005000 w n.toNat ((w.alloc (.cells #[.pointer (some ⟨p, 0, none⟩)] 27)).alloc (.cells #[.pointer (some ⟨cyc e bs 1, 0, none⟩)] 50)) :=
    ⟨Fd, F, D, bs, fr, ol, nw, 0, h.below hb, fun k hk => .inl hk, Ch.of F hb, by simp, hR.symm, by omega, by omega, by omega, fun i hi => by omega, hq, hr⟩
  have hstep := fun (left : Nat) (wr : World) hE => ev_step (p := p) (d := d) (m := m) (e := e) (N := N) (F := F) (R := R) (B := 1000005000) (w := w) (left := left) (wr := wr) (Nat.le_refl _) hF hE
  have hcell : ∀ wr, Ch w.heap.size F w wr → wr.cell? ⟨rp, 0, none⟩ = some (.pointer (some ⟨p, 0, none⟩)) := fun wr hc => (hp.keep (hc.block rp hp.lt hpF)).at.1
  have HI : Hid (EvI p d m e N F R 1000005000 w n.toNat ((w.alloc (.cells #[.pointer (some ⟨p, 0, none⟩)] 27)).alloc (.cells #[.pointer (some ⟨cyc e bs 1, 0, none⟩)] 50))) := hI
  have HS : Hid (∀ (left : Nat) (wr : World), EvI p d m e N F R 1000005000 w (left + 1) wr → Calls Try.prog 60 #[.pointer (some ⟨w.heap.size + 1, 0, none⟩), .pointer (some ⟨w.heap.size, 0, none⟩)] wr fun x w1 => EvStep p d m e N F R 1000005000 w left x w1) := hstep
  have HC : Hid (∀ wr, Ch w.heap.size F w wr → wr.cell? ⟨rp, 0, none⟩ = some (.pointer (some ⟨p, 0, none⟩))) := hcell
  have lrn := hg.lt
  clear h hp hg hq hr hI hstep hcell hR hb hl hn4 hops hs
  go_enter Try.func45, Try.ntmps45
  go_wp2_with fail
  refine hlv.mono ?_
  clear hlv
  rintro x w1 ⟨rfl, rfl⟩
  go_wp2_with fail
  go_loopw [7] (fun i wr => ∃ k : Nat, k ≤ n.toNat ∧ i = .int .i64 k ∧ Hid (EvI p d m e N F R 1000005000 w (n.toNat - k) wr)) (fun i _ => n.toNat - (intOf i).toNat)
  case atStart => exact ⟨0, by omega, rfl, HI.out⟩
  case round =>
    obtain ⟨k, hk, rfl, HK⟩ := hrel
    by_cases hlt : (k : Int) < n
    · have he : n.toNat - k = (n.toNat - (k + 1)) + 1 := by omega
      rw [he] at HK
      have hst := HS.out _ _ HK.out
      clear he HK
      go_wp2_with fail
      refine hst.mono ?_
      clear hst
      rintro x w1 hx
      rcases hx with ⟨rfl, hE⟩ | ⟨g, rfl, hch, hev⟩
      · have HE : Hid (Ev1R p d N F R w 0 w1) := hE
        clear hE HS HC HI
        go_wp2
        refine bodyPost_ret (results_none rfl _ _ _) rfl ?_
        exact ⟨0, .inl ⟨rfl, rfl⟩, HE.out⟩
      · have c1 := HC.out w1 hch
        clear hch
        go_wp2_with fail
        refine hev.mono ?_
        clear hev
        rintro x w2 hx
        rcases hx with ⟨rfl, hE⟩ | ⟨kk, hkk, rfl, hE⟩
        · have HE : Hid (EvI p d m e N F R 1000005000 w (n.toNat - (k + 1)) w2) := hE
          clear hE
          go_wp2
          go_roundw
          case rel => exact ⟨k + 1, by omega, by go_num, HE.out⟩
          case measure => simp [intOf]; omega
        · have HE : Hid (Ev1R p d N F R w kk w2) := hE
          have HK : Hid (¬ kk = 0) := hkk
          clear hE hkk HS HC HI
          unfold thrown
          go_wp2
          exact ⟨rfl, kk, .inr ⟨HK.out, rfl⟩, HE.out⟩
    · have he : n.toNat - k = 0 := by omega
      rw [he] at HK
      have HE : Hid (Ev1R p d N F R w 0 wr) := ev_done HK.out
      clear HS HC HI HK he
      go_wp2
      go_end0
      exact ⟨0, .inl ⟨rfl, rfl⟩, HE.out⟩
end
end Go.Proofs.Ytojckbhbnalkeaa.Oct
