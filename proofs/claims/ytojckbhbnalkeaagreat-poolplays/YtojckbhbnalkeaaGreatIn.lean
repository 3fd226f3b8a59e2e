/-
  pool: Put; Pin and Put of what is not there; Unpin, Forget.
-/
import Derived.Test.YtojckbhbnalkeaaGreatIl
namespace Go.Proofs.YtojckbhbnalkeaaGreat.Oct
open Go.RowKit

section
variable {w : World} {p d N : Nat} {F : Nat → Prop} {D : Dv} {L : List Fr}

set_option maxHeartbeats 4000000 in
theorem Put_any (h : Pool w p d F D N L) (hops : D.ops ≤ 1000000000) (hs : D.since.length ≤ 1000000) (pg : Nat) (hpg : pg < D.n) (ab ao cap : Nat) (b : List Int) (hbl : b.length = 256) (hrow : Row w (some ⟨ab, ao, none⟩) cap b) (haF : ¬ F ab) :
    Calls Tryz.prog 16 #[.pointer (some ⟨p, 0, none⟩), .int .i64 pg, .slice (some ⟨ab, ao, none⟩) 256 cap] w fun x w' => x = .returned (.int .i64 (usE D N L pg false)) ∧ ∃ F', Pool w' p d F' (usD D N L pg false) N (ptL D N L pg b) ∧ Step F F' w w' := by
  obtain ⟨Fd, m, e, bs, fr, ol, nw, h, rfl⟩ := h
  have hmf : ∀ (fn : Fn) (first cap : Array Value) (w : World), (Instr.makeFunc fn first cap).run Tryz.prog w = .ok (.func fn first cap) w := fun _ _ _ _ => rfl
  have hF := h.flt
  have hb0 : Below w.heap.size w (((w.alloc (.cells #[.pointer (some ⟨p, 0, none⟩)] 32)).alloc (.cells #[.int .i64 pg] 3)).alloc (.cells #[.slice (some ⟨ab, ao, none⟩) 256 cap] 38)) := (((Below.refl _ w).alloc (Nat.le_refl _) _).alloc (by simp) _).alloc (by simp; omega) _
  have h0 := h.below hb0
  have k1 : CellAt (((w.alloc (.cells #[.pointer (some ⟨p, 0, none⟩)] 32)).alloc (.cells #[.int .i64 pg] 3)).alloc (.cells #[.slice (some ⟨ab, ao, none⟩) 256 cap] 38)) w.heap.size (.pointer (some ⟨p, 0, none⟩)) 32 := ((cell_new _ _ _).alloc _).alloc _
  have k2 : CellAt (((w.alloc (.cells #[.pointer (some ⟨p, 0, none⟩)] 32)).alloc (.cells #[.int .i64 pg] 3)).alloc (.cells #[.slice (some ⟨ab, ao, none⟩) 256 cap] 38)) (w.heap.size + 1) (.int .i64 pg) 3 := by
    have := (cell_new (w.alloc (.cells #[.pointer (some ⟨p, 0, none⟩)] 32)) (.int .i64 pg) 3).alloc (.cells #[.slice (some ⟨ab, ao, none⟩) 256 cap] 38)
    simpa using this
  have k3 : CellAt (((w.alloc (.cells #[.pointer (some ⟨p, 0, none⟩)] 32)).alloc (.cells #[.int .i64 pg] 3)).alloc (.cells #[.slice (some ⟨ab, ao, none⟩) 256 cap] 38)) (w.heap.size + 2) (.slice (some ⟨ab, ao, none⟩) 256 cap) 38 := by
    have := cell_new ((w.alloc (.cells #[.pointer (some ⟨p, 0, none⟩)] 32)).alloc (.cells #[.int .i64 pg] 3)) (.slice (some ⟨ab, ao, none⟩) 256 cap) 38
    simpa using this
  have hm := poolMade_any h0
  have hh := poolHas_any h0 pg
  rw [show hasB D pg = true by simp [hasB]; omega] at hh
  have hsz : (((w.alloc (.cells #[.pointer (some ⟨p, 0, none⟩)] 32)).alloc (.cells #[.int .i64 pg] 3)).alloc (.cells #[.slice (some ⟨ab, ao, none⟩) 256 cap] 38)).heap.size = w.heap.size + 3 := by simp
  obtain ⟨W, hW⟩ : ∃ W, ((w.alloc (.cells #[.pointer (some ⟨p, 0, none⟩)] 32)).alloc (.cells #[.int .i64 pg] 3)).alloc (.cells #[.slice (some ⟨ab, ao, none⟩) 256 cap] 38) = W := ⟨_, rfl⟩
  rw [hW] at hb0 h0 k1 k2 k3 hm hh hsz
  have hbe : Below W.heap.size W (W.alloc (.cells #[.int .i64 0] 26)) := (Below.refl _ W).alloc (Nat.le_refl _) _
  have hput := put1_any (h0.below hbe) hops hs pg hpg w.heap.size (w.heap.size + 1) (w.heap.size + 2) ab ao cap b (k1.alloc _) (k2.alloc _) (k3.alloc _) (fun e1 => by have := hF _ e1; omega) hbl ((hrow.below hb0).below hbe) haF
  have hca := caught_Put W #[.pointer (some ⟨w.heap.size, 0, none⟩), .pointer (some ⟨w.heap.size + 1, 0, none⟩), .pointer (some ⟨w.heap.size + 2, 0, none⟩)] (Put1R p d N F D (bs.map fr) pg b (W.alloc (.cells #[.int .i64 0] 26))) (hput.mono (by
    rintro x w1 ⟨k, hx, hr⟩
    refine ⟨k, hx, hr, (hr.2.2.block W.heap.size (by simp) (fun e1 => ?_)).trans (err_new W)⟩
    have := hF _ e1; omega))
  have hfin : Calls Tryz.prog 42 #[.func (.func 54) #[] #[.pointer (some ⟨w.heap.size, 0, none⟩), .pointer (some ⟨w.heap.size + 1, 0, none⟩), .pointer (some ⟨w.heap.size + 2, 0, none⟩)]] W fun x w' => x = .returned (.int .i64 (usE D N (bs.map fr) pg false)) ∧
      ∃ F', Pool w' p d F' (usD D N (bs.map fr) pg false) N (ptL D N (bs.map fr) pg b) ∧ Step F F' w w' := hca.mono (by
    rintro x w' ⟨k, w1, rfl, hr, he, rfl⟩
    obtain ⟨r1, ⟨F', r2, r3⟩, r4⟩ := hr
    have hs1 : W.heap.size + 1 ≤ w1.heap.size := by have := r4.size; simpa using this
    refine ⟨by rw [r1], F', r2.keep (by rw [size_setCell]; exact Nat.le_refl _) (fun j hj => Below.heap_setCell w1 ⟨W.heap.size, 0, none⟩ _ j (fun e1 => ?_)), ?_, fun j hj => ?_⟩
    · have e1' : j = W.heap.size := e1
      rcases r3 j hj with e2 | e2
      · have := hF _ e2; omega
      · simp at e2; omega
    · have c1 : Ch w.heap.size F w w1 := (Ch.of F hb0).trans (((Ch.of F hbe).mono (by omega) (fun _ _ e => e)).trans (r4.mono (by simp; omega) (fun j hj e1 => e1)))
      exact c1.setCell (p := ⟨W.heap.size, 0, none⟩) (.inl (by show w.heap.size ≤ W.heap.size; omega)) _
    · rcases r3 j hj with e3 | e3
      · exact .inl e3
      · exact .inr (by simp at e3; omega))
  clear hca hput h0 h k1 k2 k3 hF hbe hb0 hsz hrow
  rw [← hW] at hm hh hfin
  clear hW
  obtain ⟨E, hE⟩ : ∃ E, usE D N (bs.map fr) pg false = E := ⟨_, rfl⟩
  rw [hE] at hfin ⊢
  clear hE
  go_enter Tryz.func16, Tryz.ntmps16
  go_wp2_with (first | (go_at_call 40; refine hm.mono ?_; rintro x w' ⟨rfl, rfl⟩) | (go_at_call 41; refine hh.mono ?_; rintro x w' ⟨rfl, rfl⟩))
  refine hfin.mono ?_
  clear hfin hm hh
  rintro x w2 ⟨rfl, hres⟩
  have HR : Hid (∃ F', Pool w2 p d F' (usD D N (bs.map fr) pg false) N (ptL D N (bs.map fr) pg b) ∧ Step F F' w w2) := hres
  clear hres
  go_wp2
  go_ret
  exact ⟨rfl, HR.out⟩

theorem Put_bad (h : Pool w p d F D N L) (pg : Int) (a : Option Addr) (n cap : Nat) (hb : (hasB D pg && decide (n = 256)) = false) :
    Calls Tryz.prog 16 #[.pointer (some ⟨p, 0, none⟩), .int .i64 pg, .slice a n cap] w fun x w' => x = .returned (.int .i64 1) ∧ Below w.heap.size w w' := by
  obtain ⟨Fd, m, e, bs, fr, ol, nw, h, rfl⟩ := h
  have hb0 : Below w.heap.size w (((w.alloc (.cells #[.pointer (some ⟨p, 0, none⟩)] 32)).alloc (.cells #[.int .i64 pg] 3)).alloc (.cells #[.slice a n cap] 38)) := (((Below.refl _ w).alloc (Nat.le_refl _) _).alloc (by simp) _).alloc (by simp; omega) _
  have h0 := h.below hb0
  have hm := poolMade_any h0
  have hh := poolHas_any h0 pg
  have HB : Hid (Below w.heap.size w (((w.alloc (.cells #[.pointer (some ⟨p, 0, none⟩)] 32)).alloc (.cells #[.int .i64 pg] 3)).alloc (.cells #[.slice a n cap] 38))) := hb0
  clear h h0 hb0
  cases hhas : hasB D pg with
  | false =>
    rw [hhas] at hh
    clear hb
    go_enter Tryz.func16, Tryz.ntmps16
    go_wp2_with (first | (go_at_call 40; refine hm.mono ?_; rintro x w' ⟨rfl, rfl⟩) | (go_at_call 41; refine hh.mono ?_; rintro x w' ⟨rfl, rfl⟩))
    go_ret
    exact ⟨rfl, HB.out⟩
  | true =>
    rw [hhas] at hh hb
    have hl : ((n : Int) != 256) = true := by
      have : ¬ n = 256 := by simpa using hb
      simp; omega
    clear hb
    go_enter Tryz.func16, Tryz.ntmps16
    go_wp2_with (first | (go_at_call 40; refine hm.mono ?_; rintro x w' ⟨rfl, rfl⟩) | (go_at_call 41; refine hh.mono ?_; rintro x w' ⟨rfl, rfl⟩))
    go_ret
    exact ⟨rfl, HB.out⟩

theorem Pin_bad (h : Pool w p d F D N L) (pg : Int) (hb : hasB D pg = false) :
    Calls Tryz.prog 10 #[.pointer (some ⟨p, 0, none⟩), .int .i64 pg] w fun x w' => x = .returned (.tuple #[.slice none 0 0, .int .i64 1]) ∧ Below w.heap.size w w' := by
  obtain ⟨Fd, m, e, bs, fr, ol, nw, h, rfl⟩ := h
  have hb0 : Below w.heap.size w (((w.alloc (.cells #[.pointer (some ⟨p, 0, none⟩)] 32)).alloc (.cells #[.int .i64 pg] 3)).alloc (.cells #[.slice none 0 0] 38)) := (((Below.refl _ w).alloc (Nat.le_refl _) _).alloc (by simp) _).alloc (by simp; omega) _
  have h0 := h.below hb0
  have hm := poolMade_any h0
  have hh := poolHas_any h0 pg
  rw [hb] at hh
  have HB : Hid (Below w.heap.size w (((w.alloc (.cells #[.pointer (some ⟨p, 0, none⟩)] 32)).alloc (.cells #[.int .i64 pg] 3)).alloc (.cells #[.slice none 0 0] 38))) := hb0
  clear h h0 hb0 hb
  go_enter Tryz.func10, Tryz.ntmps10
  go_wp2_with (first | (go_at_call 40; refine hm.mono ?_; rintro x w' ⟨rfl, rfl⟩) | (go_at_call 41; refine hh.mono ?_; rintro x w' ⟨rfl, rfl⟩))
  refine bodyPost_ret (v := .tuple #[.slice none 0 0, .int .i64 1]) (by simp [results, Tryz.results10, go_sem]) rfl ?_
  exact ⟨rfl, HB.out⟩

/-- Has a page a frame with a pin? -/
def pinB (L : List Fr) (pg : Int) : Bool := decide (fiP L pg < L.length) && decide (0 < (L.getD (fiP L pg) fr0).pins)
def unL (L : List Fr) (pg : Int) : List Fr := if pinB L pg = true then L.set (fiP L pg) { L.getD (fiP L pg) fr0 with pins := (L.getD (fiP L pg) fr0).pins - 1 } else L
def unE (L : List Fr) (pg : Int) : Int := if pinB L pg = true then 0 else 10
/-- May a page be forgotten? -/
def fgB (L : List Fr) (pg : Int) : Bool := decide (fiP L pg < L.length) && decide ((L.getD (fiP L pg) fr0).pins = 0)
def fgL (L : List Fr) (pg : Int) : List Fr := if fgB L pg = true then L.eraseIdx (fiP L pg) else L

theorem map_up {bs : List Nat} {fr : Nat → Fr} {i e : Nat} (hn : bs.Nodup) (hi : i < bs.length) (f : Fr) : bs.map (upF fr (bs.getD i e) f) = (bs.map fr).set i f := by
  induction bs generalizing i with
  | nil => simp at hi
  | cons b r ih =>
    rw [List.nodup_cons] at hn
    cases i with
    | zero =>
      simp only [List.getD_cons_zero, List.map_cons, List.set_cons_zero, upF_same]
      congr 1
      exact List.map_congr_left (fun x hx => upF_other _ _ (fun e1 => hn.1 (e1 ▸ hx)))
    | succ i =>
      have hi' : i < r.length := by simpa using hi
      simp only [List.getD_cons_succ, List.map_cons, List.set_cons_succ]
      rw [ih hn.2 hi', upF_other _ _ (fun e1 => hn.1 (by rw [e1]; exact getD_mem hi'))]

set_option maxHeartbeats 2000000 in
theorem Unpin_any (h : Pool w p d F D N L) (hpn : ∀ f ∈ L, f.pins ≤ 1000001) (pg : Int) (hw : (Lit.int .i64 pg).wf = true) :
    Calls Tryz.prog 13 #[.pointer (some ⟨p, 0, none⟩), .int .i64 pg] w fun x w' => x = .returned (.int .i64 (unE L pg)) ∧ Pool w' p d F D N (unL L pg) ∧ Ch w.heap.size F w w' := by
  obtain ⟨Fd, m, e, bs, fr, ol, nw, h, rfl⟩ := h
  have hm := poolMade_any h
  obtain ⟨c0, c1, c2, c3⟩ := h.pool.at
  have hlook := h.pool.held.look pg hw
  rw [find_idx (bs := bs) (fr := fr) pg e] at hlook
  have hLL : (bs.map fr).length = bs.length := by simp
  by_cases hf : fiP (bs.map fr) pg < bs.length
  · rw [if_pos hf] at hlook
    have hgm : bs.getD (fiP (bs.map fr) pg) e ∈ bs := getD_mem hf
    have hgm' : bs.getD (fiP (bs.map fr) pg) e ∈ e :: bs := List.mem_cons_of_mem _ hgm
    obtain ⟨_, _, x2, _, _, xz⟩ := (h.pool.node _ hgm').at (h.pool.ok _ hgm')
    have hz := xz 258
    have hLg := getD_map (bs := bs) (fr := fr) (e := e) hf
    have hup := map_up (fr := fr) (e := e) h.pool.apart.2.2.2.2.2 hf
    have hgF := h.fp _ (.inr (.inr hgm'))
    have hpi := pinned_any w _ _ x2
    obtain ⟨i, hi⟩ : ∃ i, fiP (bs.map fr) pg = i := ⟨_, rfl⟩
    rw [hi] at hlook hgm hgm' x2 hz hLg hup hgF hpi hf
    have hset := h.setPins hgm
    obtain ⟨g, hg⟩ : ∃ g, bs.getD i e = g := ⟨_, rfl⟩
    rw [hg] at hlook x2 hz hLg hup hgF hpi hset hgm
    have hn := hpn (fr g) (List.mem_map_of_mem hgm)
    have hlook' : (Instr.lookup 70 (.map (some m)) (.int .i64 pg) false).run Tryz.prog w = .ok (.pointer (some ⟨g, 0, none⟩)) w := hlook
    obtain ⟨n, hnn⟩ : ∃ n, (fr g).pins = n := ⟨_, rfl⟩
    by_cases h0 : 0 < n
    · have hpb : pinB (bs.map fr) pg = true := by unfold pinB; rw [hi, hLL, hLg, hnn]; simp [hf, h0]
      have eE : unE (bs.map fr) pg = 0 := by unfold unE; rw [if_pos hpb]
      have eL : unL (bs.map fr) pg = bs.map (upF fr g { fr g with pins := n - 1 }) := by unfold unL; rw [if_pos hpb, hi, hLg, hnn, hup]
      have HP : Hid (Pool (w.setCell ⟨g, 258, none⟩ (.int .i64 (n - 1 : Nat))) p d F D N (unL (bs.map fr) pg)) := ⟨Fd, m, e, bs, _, ol, nw, hset (n - 1), eL⟩
      have HC : Hid (Ch w.heap.size F w (w.setCell ⟨g, 258, none⟩ (.int .i64 (n - 1 : Nat)))) := (Ch.refl _ _ _).setCell (p := ⟨g, 258, none⟩) (.inr hgF) _
      rw [show ((n - 1 : Nat) : Int) = (n : Int) - 1 by omega] at HP HC
      rw [hnn] at x2 hpi hn
      rw [decide_eq_true h0] at hpi
      rw [eE]
      clear hset hlook hLg hup hgF hgm hgm' hnn hi hpb eE eL h xz hpn hf hLL
      go_enter Tryz.func13, Tryz.ntmps13
      go_wp2_with (first | (go_at_call 40; refine hm.mono ?_; rintro x w' ⟨rfl, rfl⟩) | (go_at_call 53; refine hpi.mono ?_; rintro x w' ⟨rfl, rfl⟩))
      go_ret
      exact ⟨rfl, HP.out, HC.out⟩
    · have hpb : pinB (bs.map fr) pg = false := by unfold pinB; rw [hi, hLL, hLg, hnn]; simp [h0]
      have eE : unE (bs.map fr) pg = 10 := by unfold unE; rw [if_neg (by rw [hpb]; simp)]
      have eL : unL (bs.map fr) pg = bs.map fr := by unfold unL; rw [if_neg (by rw [hpb]; simp)]
      have HP : Hid (Pool w p d F D N (bs.map fr)) := ⟨Fd, m, e, bs, fr, ol, nw, h, rfl⟩
      rw [hnn] at x2 hpi
      rw [decide_eq_false h0] at hpi
      rw [eE, eL]
      clear hset hlook hLg hup hgF hgm hgm' hnn hi hpb eE eL h xz hpn hn hf hLL
      go_enter Tryz.func13, Tryz.ntmps13
      go_wp2_with (first | (go_at_call 40; refine hm.mono ?_; rintro x w' ⟨rfl, rfl⟩) | (go_at_call 53; refine hpi.mono ?_; rintro x w' ⟨rfl, rfl⟩))
      go_ret
      exact ⟨rfl, HP.out, Ch.refl _ _ _⟩
  · rw [if_neg hf] at hlook
    have hlook' : (Instr.lookup 70 (.map (some m)) (.int .i64 pg) false).run Tryz.prog w = .ok (.pointer none) w := hlook
    have hpb : pinB (bs.map fr) pg = false := by unfold pinB; rw [hLL]; simp [hf]
    have eE : unE (bs.map fr) pg = 10 := by unfold unE; rw [if_neg (by rw [hpb]; simp)]
    have eL : unL (bs.map fr) pg = bs.map fr := by unfold unL; rw [if_neg (by rw [hpb]; simp)]
    have HP : Hid (Pool w p d F D N (bs.map fr)) := ⟨Fd, m, e, bs, fr, ol, nw, h, rfl⟩
    rw [eE, eL]
    clear hlook hpb eE eL h hpn hf hLL
    go_enter Tryz.func13, Tryz.ntmps13
    go_wp2_with (first | (go_at_call 40; refine hm.mono ?_; rintro x w' ⟨rfl, rfl⟩))
    go_ret
    exact ⟨rfl, HP.out, Ch.refl _ _ _⟩

set_option maxHeartbeats 2000000 in
theorem Forget_any (h : Pool w p d F D N L) (pg : Int) (hw : (Lit.int .i64 pg).wf = true) :
    Calls Tryz.prog 18 #[.pointer (some ⟨p, 0, none⟩), .int .i64 pg] w fun x w' => x = .returned (.bool (fgB L pg)) ∧ Pool w' p d F D N (fgL L pg) ∧ Ch w.heap.size F w w' := by
  obtain ⟨Fd, m, e, bs, fr, ol, nw, h, rfl⟩ := h
  have hm := poolMade_any h
  obtain ⟨c0, c1, c2, c3⟩ := h.pool.at
  have hlook := h.pool.held.look pg hw
  rw [find_idx (bs := bs) (fr := fr) pg e] at hlook
  have hLL : (bs.map fr).length = bs.length := by simp
  by_cases hf : fiP (bs.map fr) pg < bs.length
  · rw [if_pos hf] at hlook
    have hgm : bs.getD (fiP (bs.map fr) pg) e ∈ bs := getD_mem hf
    have hgm' : bs.getD (fiP (bs.map fr) pg) e ∈ e :: bs := List.mem_cons_of_mem _ hgm
    obtain ⟨_, _, x2, _, _, _⟩ := (h.pool.node _ hgm').at (h.pool.ok _ hgm')
    have hLg := getD_map (bs := bs) (fr := fr) (e := e) hf
    have hpi := pinned_any w _ _ x2
    have hlv := leave_any h _ hf
    obtain ⟨i, hi⟩ : ∃ i, fiP (bs.map fr) pg = i := ⟨_, rfl⟩
    rw [hi] at hlook hgm hgm' x2 hLg hpi hf hlv
    obtain ⟨g, hg⟩ : ∃ g, bs.getD i e = g := ⟨_, rfl⟩
    rw [hg] at hlook x2 hLg hpi hlv
    have hlook' : (Instr.lookup 70 (.map (some m)) (.int .i64 pg) false).run Tryz.prog w = .ok (.pointer (some ⟨g, 0, none⟩)) w := hlook
    obtain ⟨n, hnn⟩ : ∃ n, (fr g).pins = n := ⟨_, rfl⟩
    rw [hnn] at x2 hpi
    by_cases h0 : n = 0
    · have hpb : fgB (bs.map fr) pg = true := by unfold fgB; rw [hi, hLL, hLg, hnn]; simp [hf, h0]
      have eL : fgL (bs.map fr) pg = (bs.eraseIdx i).map fr := by unfold fgL; rw [if_pos hpb, hi, map_erase]
      rw [decide_eq_false (show ¬ 0 < n by omega)] at hpi
      have hlv' : Calls Tryz.prog 56 #[.pointer (some ⟨p, 0, none⟩), .pointer (some ⟨g, 0, none⟩)] w fun x w' => x = .returned (.tuple #[]) ∧ Hid (Pool w' p d F D N (fgL (bs.map fr) pg)) ∧ Hid (Ch w.heap.size F w w') := hlv.mono (by
        rintro x w' ⟨rfl, ⟨ol', nw', h1⟩, h2⟩
        exact ⟨rfl, ⟨Fd, m, e, _, fr, ol', nw', h1, eL⟩, h2⟩)
      rw [hpb]
      clear hlook hLg hgm hgm' hnn hi hpb eL h hf hLL hlv
      go_enter Tryz.func18, Tryz.ntmps18
      go_wp2_with (first | (go_at_call 40; refine hm.mono ?_; rintro x w' ⟨rfl, rfl⟩) | (go_at_call 53; refine hpi.mono ?_; rintro x w' ⟨rfl, rfl⟩) | (go_at_call 56; refine hlv'.mono ?_; rintro x w2 ⟨rfl, HP, HC⟩))
      go_ret
      exact ⟨rfl, HP.out, HC.out⟩
    · have hpb : fgB (bs.map fr) pg = false := by unfold fgB; rw [hi, hLL, hLg, hnn]; simp [h0]
      have eL : fgL (bs.map fr) pg = bs.map fr := by unfold fgL; rw [if_neg (by rw [hpb]; simp)]
      have HP : Hid (Pool w p d F D N (bs.map fr)) := ⟨Fd, m, e, bs, fr, ol, nw, h, rfl⟩
      rw [decide_eq_true (show 0 < n by omega)] at hpi
      rw [hpb, eL]
      clear hlook hLg hgm hgm' hnn hi hpb eL h hf hLL hlv
      go_enter Tryz.func18, Tryz.ntmps18
      go_wp2_with (first | (go_at_call 40; refine hm.mono ?_; rintro x w' ⟨rfl, rfl⟩) | (go_at_call 53; refine hpi.mono ?_; rintro x w' ⟨rfl, rfl⟩))
      go_ret
      exact ⟨rfl, HP.out, Ch.refl _ _ _⟩
  · rw [if_neg hf] at hlook
    have hlook' : (Instr.lookup 70 (.map (some m)) (.int .i64 pg) false).run Tryz.prog w = .ok (.pointer none) w := hlook
    have hpb : fgB (bs.map fr) pg = false := by unfold fgB; rw [hLL]; simp [hf]
    have eL : fgL (bs.map fr) pg = bs.map fr := by unfold fgL; rw [if_neg (by rw [hpb]; simp)]
    have HP : Hid (Pool w p d F D N (bs.map fr)) := ⟨Fd, m, e, bs, fr, ol, nw, h, rfl⟩
    rw [hpb, eL]
    clear hlook hpb eL h hf hLL
    go_enter Tryz.func18, Tryz.ntmps18
    go_wp2_with (first | (go_at_call 40; refine hm.mono ?_; rintro x w' ⟨rfl, rfl⟩))
    go_ret
    exact ⟨rfl, HP.out, Ch.refl _ _ _⟩
end
end Go.Proofs.YtojckbhbnalkeaaGreat.Oct

/-
  pool: Evict.
-/
namespace Go.Proofs.YtojckbhbnalkeaaGreat.Oct
open Go.RowKit

/-- Up to n frames leave. -/
def evS : Nat → Dv → List Fr → Int × Dv × List Fr
  | 0, D, L => (0, D, L)
  | n + 1, D, L => if nuP L 0 < L.length then (if evE D (L.getD (nuP L 0) fr0) = 0 then evS n (evD D (L.getD (nuP L 0) fr0)) (L.eraseIdx (nuP L 0)) else (evE D (L.getD (nuP L 0) fr0), evD D (L.getD (nuP L 0) fr0), L)) else (0, D, L)

theorem nuP_min {L : List Fr} {j : Nat} : ∀ {i : Nat}, j ≤ i → i < nuP L j → (L.getD i fr0).pins ≠ 0 := by
  intro i h1 h2
  unfold nuP at h2
  have hlt : i - j < (L.drop j).findIdx (fun f => decide (f.pins = 0)) := by omega
  have hl : i - j < (L.drop j).length := Nat.lt_of_lt_of_le hlt List.findIdx_le_length
  have := List.not_of_lt_findIdx hlt
  simp only [List.getElem_drop] at this
  have hil : i < L.length := by simp at hl; omega
  rw [List.getD_eq_getElem?_getD, List.getElem?_eq_getElem hil, Option.getD_some]
  have e : j + (i - j) = i := by omega
  simp only [e] at this
  simpa using this

theorem nuP_from {L : List Fr} {j : Nat} (hj : j ≤ L.length) (h : ∀ i, i < j → (L.getD i fr0).pins ≠ 0) : nuP L 0 = nuP L j := by
  induction j with
  | zero => rfl
  | succ j ih =>
    rw [ih (by omega) (fun i hi => h i (by omega))]
    exact nuP_skip (by omega) (h j (by omega))

theorem getD_eraseF (L : List Fr) (i j : Nat) (h : j < i) : (L.eraseIdx i).getD j fr0 = L.getD j fr0 := by
  simp only [List.getD_eq_getElem?_getD, List.getElem?_eraseIdx, if_pos h]

section
variable {w : World} {p d m e N : Nat} {Fd F : Nat → Prop} {D : Dv} {bs : List Nat} {fr : Nat → Fr} {ol nw : Nat → Nat}

/-- What Evict's inner function leaves. -/
def Ev1R (p d N : Nat) (F : Nat → Prop) (R : Int × Dv × List Fr) (w : World) (k : Int) (w' : World) : Prop :=
  k = R.1 ∧ (∃ F', Pool w' p d F' R.2.1 N R.2.2 ∧ ∀ j, F' j → F j ∨ w.heap.size ≤ j) ∧ Ch w.heap.size F w w'

/-- The loop's state. -/
def EvI (p d m e N : Nat) (F : Nat → Prop) (R : Int × Dv × List Fr) (B : Nat) (w : World) (left : Nat) (wr : World) : Prop :=
  ∃ (Fd' F' : Nat → Prop) (D' : Dv) (bs' : List Nat) (fr' : Nat → Fr) (ol' nw' : Nat → Nat) (j : Nat), PD wr p d m e N Fd' F' D' bs' fr' ol' nw' ∧ (∀ k, F' k → F k ∨ w.heap.size + 2 ≤ k) ∧ Ch w.heap.size F w wr ∧ w.heap.size + 2 ≤ wr.heap.size ∧ R = evS left D' (bs'.map fr') ∧ D'.ops + bs'.length ≤ B ∧ D'.since.length + bs'.length ≤ 1000000 ∧
    j ≤ bs'.length ∧ (∀ i, i < j → ((bs'.map fr').getD i fr0).pins ≠ 0) ∧ PtrAt wr (w.heap.size + 1) (cyc e bs' (j + 1)) 66 ∧ PtrAt wr w.heap.size p 32

/-- One step: who leaves, and what stands behind it. -/
def EvStep (p d m e N : Nat) (F : Nat → Prop) (R : Int × Dv × List Fr) (B : Nat) (w : World) (left : Nat) (x : Ending) (w1 : World) : Prop :=
  (x = .returned (.pointer none) ∧ Ev1R p d N F R w 0 w1) ∨ ∃ g, x = .returned (.pointer (some ⟨g, 0, none⟩)) ∧ Ch w.heap.size F w w1 ∧ Calls Tryz.prog 63 #[.pointer (some ⟨p, 0, none⟩), .pointer (some ⟨g, 0, none⟩)] w1 fun x2 w2 => (x2 = .returned (.tuple #[]) ∧ EvI p d m e N F R B w left w2) ∨ (∃ k, ¬ k = 0 ∧ x2 = thrown k ∧ Ev1R p d N F R w k w2)

theorem ev_step {R : Int × Dv × List Fr} {B left : Nat} {wr : World} (hB : B ≤ 1000005000) (hF : ∀ k, F k → k < w.heap.size) (h : EvI p d m e N F R B w (left + 1) wr) :
    Calls Tryz.prog 82 #[.pointer (some ⟨w.heap.size + 1, 0, none⟩), .pointer (some ⟨w.heap.size, 0, none⟩)] wr fun x w1 => EvStep p d m e N F R B w left x w1 := by
  obtain ⟨Fd', F', D', bs', fr', ol', nw', j, h1, h2, h3, h4, h5, h6, h7, h8, h9, hq, hr⟩ := h
  have hF' : ∀ k, F' k → k ≠ w.heap.size + 1 ∧ k ≠ w.heap.size := fun k hk => by
    rcases h2 k hk with e1 | e1
    · have := hF k e1; omega
    · omega
  have hLL : (bs'.map fr').length = bs'.length := by simp
  refine (leaver_any h1 (w.heap.size + 1) w.heap.size j h8 hq hr (fun e1 => (hF' _ e1).1 rfl) (by omega)).mono ?_
  rintro x w1 ⟨rfl, hc, hq1⟩
  have p1 : PD w1 p d m e N Fd' F' D' bs' fr' ol' nw' := h1.ch hc (fun k hk e1 => (hF' k hk).1 e1)
  have hr1 : PtrAt w1 w.heap.size p 32 := hr.keep (hc.block _ (heap_lt hr) (fun e1 => by omega))
  have c1 : Ch w.heap.size F w w1 := h3.trans (hc.mono (by omega) (fun k hk e1 => by omega))
  have hs1 := hc.size
  have hnu := nuP_from (by rw [hLL]; exact h8) h9
  by_cases hn : nuP (bs'.map fr') j < bs'.length
  · have ho : lvO bs' fr' e j = some (bs'.getD (nuP (bs'.map fr') j) e) := by unfold lvO; rw [if_pos hn]
    have hx : lvX bs' fr' e j = cyc e bs' (nuP (bs'.map fr') j + 2) := by unfold lvX; rw [Nat.min_eq_left (by omega)]
    rw [ho]
    rw [hx] at hq1
    obtain ⟨i, hi⟩ : ∃ i, nuP (bs'.map fr') j = i := ⟨_, rfl⟩
    have hmin : ∀ i', i' < i → ((bs'.map fr').getD i' fr0).pins ≠ 0 := fun i' hi' => by
      by_cases hj : i' < j
      · exact h9 i' hj
      · exact nuP_min (j := j) (by omega) (by omega)
    rw [hi] at hn hq1 hnu ⊢
    refine .inr ⟨bs'.getD i e, rfl, c1, ?_⟩
    have hLg := getD_map (bs := bs') (fr := fr') (e := e) hn
    refine (evict_any p1 (by omega) (by omega) i hn).mono ?_
    rintro x2 w2 ⟨hx2, Fd2, F2, fr2, ol2, nw2, p2, s2, k2⟩
    have hn0 : nuP (bs'.map fr') 0 < (bs'.map fr').length := by rw [hnu, hLL]; exact hn
    have hF2 : ∀ k, F2 k → F k ∨ w.heap.size + 2 ≤ k := fun k hk => by
      rcases s2.2 k hk with e1 | e1
      · exact h2 k e1
      · exact .inr (by omega)
    have hkeep : ∀ k, k = w.heap.size ∨ k = w.heap.size + 1 → w2.heap[k]? = w1.heap[k]? := fun k hk => s2.1.block k (by omega) (fun e1 => by have := hF' k e1; omega)
    have c2 : Ch w.heap.size F w w2 := c1.trans (s2.1.mono (by omega) (fun k hk e1 => by
      rcases h2 k e1 with e2 | e2
      · exact e2
      · omega))
    have ho2 := evD_ops D' (fr' (bs'.getD i e))
    by_cases hE : evE D' (fr' (bs'.getD i e)) = 0
    · left
      refine ⟨?_, Fd2, F2, evD D' (fr' (bs'.getD i e)), bs'.eraseIdx i, fr2, ol2, nw2, i, ?_, hF2, c2, by have := s2.1.size; omega, ?_, ?_, ?_, ?_, ?_, ?_, ?_⟩
      · rcases hx2 with e1 | e1
        · exact e1.2
        · exact absurd hE e1.1
      · unfold evB at p2
        rw [if_pos hE] at p2
        exact p2
      · rw [h5]
        have em : (bs'.eraseIdx i).map fr2 = (bs'.map fr').eraseIdx i := by
          rw [← map_erase]
          refine List.map_congr_left (fun y hy => k2 y ?_)
          unfold evB; rw [if_pos hE]; exact hy
        rw [em]
        show (if nuP (bs'.map fr') 0 < (bs'.map fr').length then _ else _) = _
        rw [if_pos hn0, hnu, hLg, if_pos hE]
      · rw [List.length_eraseIdx_of_lt hn]; omega
      · rw [List.length_eraseIdx_of_lt hn]; omega
      · rw [List.length_eraseIdx_of_lt hn]; omega
      · intro i' hi'
        have em : (bs'.eraseIdx i).map fr2 = (bs'.map fr').eraseIdx i := by
          rw [← map_erase]
          refine List.map_congr_left (fun y hy => k2 y ?_)
          unfold evB; rw [if_pos hE]; exact hy
        rw [em, getD_eraseF _ _ _ hi']
        exact hmin i' hi'
      · have e1 := cyc_erase e bs' i (i + 1) hn (by omega)
        rw [if_neg (by omega)] at e1
        rw [e1]
        exact hq1.keep (hkeep _ (.inr rfl))
      · exact hr1.keep (hkeep _ (.inl rfl))
    · right
      refine ⟨evE D' (fr' (bs'.getD i e)), hE, ?_, ?_, ⟨F2, ⟨Fd2, m, e, bs', fr2, ol2, nw2, ?_, ?_⟩, fun k hk => ?_⟩, c2⟩
      · rcases hx2 with e1 | e1
        · exact absurd e1.1 hE
        · exact e1.2
      · rw [h5]
        show _ = (if nuP (bs'.map fr') 0 < (bs'.map fr').length then _ else _ : Int × Dv × List Fr).1
        rw [if_pos hn0, hnu, hLg, if_neg hE]
      · rw [h5]
        show PD w2 p d m e N Fd2 F2 (if nuP (bs'.map fr') 0 < (bs'.map fr').length then _ else _ : Int × Dv × List Fr).2.1 bs' fr2 ol2 nw2
        rw [if_pos hn0, hnu, hLg, if_neg hE]
        unfold evB at p2
        rw [if_neg hE] at p2
        exact p2
      · rw [h5]
        show (if nuP (bs'.map fr') 0 < (bs'.map fr').length then _ else _ : Int × Dv × List Fr).2.2 = _
        rw [if_pos hn0, hnu, hLg, if_neg hE]
        refine List.map_congr_left (fun y hy => (k2 y ?_).symm)
        unfold evB; rw [if_neg hE]; exact hy
      · rcases hF2 k hk with e1 | e1
        · exact .inl e1
        · exact .inr (by omega)
  · have ho : lvO bs' fr' e j = none := by unfold lvO; rw [if_neg hn]
    rw [ho]
    have hn0 : ¬ nuP (bs'.map fr') 0 < (bs'.map fr').length := by rw [hnu, hLL]; exact hn
    have hR : R = (0, D', bs'.map fr') := by
      rw [h5]
      show (if nuP (bs'.map fr') 0 < (bs'.map fr').length then _ else _) = _
      rw [if_neg hn0]
    refine .inl ⟨rfl, by rw [hR], ⟨F', ⟨Fd', m, e, bs', fr', ol', nw', by rw [hR]; exact p1, by rw [hR]⟩, fun k hk => ?_⟩, c1⟩
    rcases h2 k hk with e1 | e1
    · exact .inl e1
    · exact .inr (by omega)

theorem ev_done {R : Int × Dv × List Fr} {B : Nat} {wr : World} (h : EvI p d m e N F R B w 0 wr) : Ev1R p d N F R w 0 wr := by
  obtain ⟨Fd', F', D', bs', fr', ol', nw', j, h1, h2, h3, h4, h5, _⟩ := h
  refine ⟨by rw [h5]; rfl, ⟨F', ⟨Fd', m, e, bs', fr', ol', nw', by rw [h5]; exact h1, by rw [h5]; rfl⟩, fun k hk => ?_⟩, h3⟩
  rcases h2 k hk with e1 | e1
  · exact .inl e1
  · exact .inr (by omega)

theorem evS_zero {n : Nat} {D : Dv} {L : List Fr} (h : n = 0) : evS n D L = (0, D, L) := by subst h; rfl

set_option maxHeartbeats 4000000 in
theorem ev1_any (h : PD w p d m e N Fd F D bs fr ol nw) (hops : D.ops ≤ 1000000000) (hs : D.since.length ≤ 900000) (n : Int) (hn : n ≤ 1048576) (rp rn : Nat)
    (hp : CellAt w rp (.pointer (some ⟨p, 0, none⟩)) 32) (hg : CellAt w rn (.int .i64 n) 3) (hpF : ¬ F rp) :
    Calls Tryz.prog 61 #[.pointer (some ⟨rp, 0, none⟩), .pointer (some ⟨rn, 0, none⟩)] w fun x w' => ∃ k, CEnd k x ∧ Ev1R p d N F (evS n.toNat D (bs.map fr)) w k w' := by
  obtain ⟨R, hR⟩ : ∃ R, evS n.toNat D (bs.map fr) = R := ⟨_, rfl⟩
  rw [hR]
  have hF := h.flt
  obtain ⟨p1, _⟩ := hp.at
  obtain ⟨g1, _⟩ := hg.at
  have hlv := leavers_any h
  have hb : Below w.heap.size w ((w.alloc (.cells #[.pointer (some ⟨p, 0, none⟩)] 32)).alloc (.cells #[.pointer (some ⟨cyc e bs 1, 0, none⟩)] 66)) := ((Below.refl _ w).alloc (Nat.le_refl _) _).alloc (by simp) _
  have hq : PtrAt ((w.alloc (.cells #[.pointer (some ⟨p, 0, none⟩)] 32)).alloc (.cells #[.pointer (some ⟨cyc e bs 1, 0, none⟩)] 66)) (w.heap.size + 1) (cyc e bs (0 + 1)) 66 := by
    have := heap_alloc_new (w.alloc (.cells #[.pointer (some ⟨p, 0, none⟩)] 32)) (.cells #[.pointer (some ⟨cyc e bs 1, 0, none⟩)] 66)
    simpa [PtrAt] using this
  have hr : PtrAt ((w.alloc (.cells #[.pointer (some ⟨p, 0, none⟩)] 32)).alloc (.cells #[.pointer (some ⟨cyc e bs 1, 0, none⟩)] 66)) w.heap.size p 32 := by
    unfold PtrAt
    rw [Below.heap_alloc _ _ _ (by simp)]
    exact heap_alloc_new w _
  have hl := h.pool.len
  have hn4 := h.pool.n4
  have hI : EvI p d m e N F R 1000005000 w n.toNat ((w.alloc (.cells #[.pointer (some ⟨p, 0, none⟩)] 32)).alloc (.cells #[.pointer (some ⟨cyc e bs 1, 0, none⟩)] 66)) :=
    ⟨Fd, F, D, bs, fr, ol, nw, 0, h.below hb, fun k hk => .inl hk, Ch.of F hb, by simp, hR.symm, by omega, by omega, by omega, fun i hi => by omega, hq, hr⟩
  have hstep := fun (left : Nat) (wr : World) hE => ev_step (p := p) (d := d) (m := m) (e := e) (N := N) (F := F) (R := R) (B := 1000005000) (w := w) (left := left) (wr := wr) (Nat.le_refl _) hF hE
  have hcell : ∀ wr, Ch w.heap.size F w wr → wr.cell? ⟨rp, 0, none⟩ = some (.pointer (some ⟨p, 0, none⟩)) := fun wr hc => (hp.keep (hc.block rp hp.lt hpF)).at.1
  have HI : Hid (EvI p d m e N F R 1000005000 w n.toNat ((w.alloc (.cells #[.pointer (some ⟨p, 0, none⟩)] 32)).alloc (.cells #[.pointer (some ⟨cyc e bs 1, 0, none⟩)] 66))) := hI
  have HS : Hid (∀ (left : Nat) (wr : World), EvI p d m e N F R 1000005000 w (left + 1) wr → Calls Tryz.prog 82 #[.pointer (some ⟨w.heap.size + 1, 0, none⟩), .pointer (some ⟨w.heap.size, 0, none⟩)] wr fun x w1 => EvStep p d m e N F R 1000005000 w left x w1) := hstep
  have HC : Hid (∀ wr, Ch w.heap.size F w wr → wr.cell? ⟨rp, 0, none⟩ = some (.pointer (some ⟨p, 0, none⟩))) := hcell
  have lrn := hg.lt
  clear h hp hg hq hr hI hstep hcell hR hb hl hn4 hops hs
  go_enter Tryz.func61, Tryz.ntmps61
  go_wp2_with fail
  refine hlv.mono ?_
  clear hlv
  rintro x w1 ⟨rfl, rfl⟩
  go_wp2_with fail
  go_loopw [7] (fun i wr => ∃ k : Nat, k ≤ n.toNat ∧ i = .int .i64 k ∧ Hid (EvI p d m e N F R 1000005000 w (n.toNat - k) wr)) (fun i _ => n.toNat - (intOf i).toNat)
  case atStart => exact ⟨0, by omega, rfl, HI.out⟩
  case round =>
    obtain ⟨k, hk, rfl, HK⟩ := hrel
    by_cases hlt : (k : Int) < n
    · have he : n.toNat - k = (n.toNat - (k + 1)) + 1 := by omega
      rw [he] at HK
      have hst := HS.out _ _ HK.out
      clear he HK
      go_wp2_with fail
      refine hst.mono ?_
      clear hst
      rintro x w1 hx
      rcases hx with ⟨rfl, hE⟩ | ⟨g, rfl, hch, hev⟩
      · have HE : Hid (Ev1R p d N F R w 0 w1) := hE
        clear hE HS HC HI
        go_wp2
        refine bodyPost_ret (results_none rfl _ _ _) rfl ?_
        exact ⟨0, .inl ⟨rfl, rfl⟩, HE.out⟩
      · have c1 := HC.out w1 hch
        clear hch
        go_wp2_with fail
        refine hev.mono ?_
        clear hev
        rintro x w2 hx
        rcases hx with ⟨rfl, hE⟩ | ⟨kk, hkk, rfl, hE⟩
        · have HE : Hid (EvI p d m e N F R 1000005000 w (n.toNat - (k + 1)) w2) := hE
          clear hE
          go_wp2
          go_roundw
          case rel => exact ⟨k + 1, by omega, by go_num, HE.out⟩
          case measure => simp [intOf]; omega
        · have HE : Hid (Ev1R p d N F R w kk w2) := hE
          have HK : Hid (¬ kk = 0) := hkk
          clear hE hkk HS HC HI
          unfold thrown
          go_wp2
          exact ⟨rfl, kk, .inr ⟨HK.out, rfl⟩, HE.out⟩
    · have he : n.toNat - k = 0 := by omega
      rw [he] at HK
      have HE : Hid (Ev1R p d N F R w 0 wr) := ev_done HK.out
      clear HS HC HI HK he
      go_wp2
      go_end0
      exact ⟨0, .inl ⟨rfl, rfl⟩, HE.out⟩
end
end Go.Proofs.YtojckbhbnalkeaaGreat.Oct
