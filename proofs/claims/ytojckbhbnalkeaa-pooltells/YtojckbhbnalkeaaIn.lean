/-
  pool: Put; Pin and Put of what is not there; Unpin, Forget.
-/
import Derived.Test.YtojckbhbnalkeaaIm
namespace Go.Proofs.Ytojckbhbnalkeaa.Oct
open Go.RowKit

section
variable {w : World} {p d N : Nat} {F : Nat → Prop} {D : Dv} {L : List Fr}

set_option maxHeartbeats 4000000 in
theorem Put_any (h : Pool w p d F D N L) (hops : D.ops ≤ 1000000000) (hs : D.since.length ≤ 1000000) (pg : Nat) (hpg : pg < D.n) (ab ao cap : Nat) (b : List Int) (hbl : b.length = 256) (hrow : Row w (some ⟨ab, ao, none⟩) cap b) (haF : ¬ F ab) :
    Calls Try.prog 10 #[.pointer (some ⟨p, 0, none⟩), .int .i64 pg, .slice (some ⟨ab, ao, none⟩) 256 cap] w fun x w' => x = .returned (.int .i64 (usE D N L pg false)) ∧ ∃ F', Pool w' p d F' (usD D N L pg false) N (ptL D N L pg b) ∧ Step F F' w w' := by
  obtain ⟨Fd, m, e, bs, fr, ol, nw, h, rfl⟩ := h
  have hmf : ∀ (fn : Fn) (first cap : Array Value) (w : World), (Instr.makeFunc fn first cap).run Try.prog w = .ok (.func fn first cap) w := fun _ _ _ _ => rfl
  have hF := h.flt
  have hb0 : Below w.heap.size w (((w.alloc (.cells #[.pointer (some ⟨p, 0, none⟩)] 27)).alloc (.cells #[.int .i64 pg] 3)).alloc (.cells #[.slice (some ⟨ab, ao, none⟩) 256 cap] 31)) := (((Below.refl _ w).alloc (Nat.le_refl _) _).alloc (by simp) _).alloc (by simp; omega) _
  have h0 := h.below hb0
  have k1 : CellAt (((w.alloc (.cells #[.pointer (some ⟨p, 0, none⟩)] 27)).alloc (.cells #[.int .i64 pg] 3)).alloc (.cells #[.slice (some ⟨ab, ao, none⟩) 256 cap] 31)) w.heap.size (.pointer (some ⟨p, 0, none⟩)) 27 := ((cell_new _ _ _).alloc _).alloc _
  have k2 : CellAt (((w.alloc (.cells #[.pointer (some ⟨p, 0, none⟩)] 27)).alloc (.cells #[.int .i64 pg] 3)).alloc (.cells #[.slice (some ⟨ab, ao, none⟩) 256 cap] 31)) (w.heap.size + 1) (.int .i64 pg) 3 := by
    have := (cell_new (w.alloc (.cells #[.pointer (some ⟨p, 0, none⟩)] 27)) (.int .i64 pg) 3).alloc (.cells #[.slice (some ⟨ab, ao, none⟩) 256 cap] 31)
    simpa using this
  have k3 : CellAt (((w.alloc (.cells #[.pointer (some ⟨p, 0, none⟩)] 27)).alloc (.cells #[.int .i64 pg] 3)).alloc (.cells #[.slice (some ⟨ab, ao, none⟩) 256 cap] 31)) (w.heap.size + 2) (.slice (some ⟨ab, ao, none⟩) 256 cap) 31 := by
    have := cell_new ((w.alloc (.cells #[.pointer (some ⟨p, 0, none⟩)] 27)).alloc (.cells #[.int .i64 pg] 3)) (.slice (some ⟨ab, ao, none⟩) 256 cap) 31
    simpa using this
  have hm := poolMade_any h0
  have hh := poolHas_any h0 pg
  rw [show hasB D pg = true by simp [hasB]; omega] at hh
  have hsz : (((w.alloc (.cells #[.pointer (some ⟨p, 0, none⟩)] 27)).alloc (.cells #[.int .i64 pg] 3)).alloc (.cells #[.slice (some ⟨ab, ao, none⟩) 256 cap] 31)).heap.size = w.heap.size + 3 := by simp
  obtain ⟨W, hW⟩ : ∃ W, ((w.alloc (.cells #[.pointer (some ⟨p, 0, none⟩)] 27)).alloc (.cells #[.int .i64 pg] 3)).alloc (.cells #[.slice (some ⟨ab, ao, none⟩) 256 cap] 31) = W := ⟨_, rfl⟩
  rw [hW] at hb0 h0 k1 k2 k3 hm hh hsz
  have hbe : Below W.heap.size W (W.alloc (.cells #[.int .i64 0] 24)) := (Below.refl _ W).alloc (Nat.le_refl _) _
  have hput := put1_any (h0.below hbe) hops hs pg hpg w.heap.size (w.heap.size + 1) (w.heap.size + 2) ab ao cap b (k1.alloc _) (k2.alloc _) (k3.alloc _) (fun e1 => by have := hF _ e1; omega) hbl ((hrow.below hb0).below hbe) haF
  have hca := caught_Put W #[.pointer (some ⟨w.heap.size, 0, none⟩), .pointer (some ⟨w.heap.size + 1, 0, none⟩), .pointer (some ⟨w.heap.size + 2, 0, none⟩)] (Put1R p d N F D (bs.map fr) pg b (W.alloc (.cells #[.int .i64 0] 24))) (hput.mono (by
    rintro x w1 ⟨k, hx, hr⟩
    refine ⟨k, hx, hr, (hr.2.2.block W.heap.size (by simp) (fun e1 => ?_)).trans (err_new W)⟩
    have := hF _ e1; omega))
  have hfin : Calls Try.prog 27 #[.func (.func 28) #[] #[.pointer (some ⟨w.heap.size, 0, none⟩), .pointer (some ⟨w.heap.size + 1, 0, none⟩), .pointer (some ⟨w.heap.size + 2, 0, none⟩)]] W fun x w' => x = .returned (.int .i64 (usE D N (bs.map fr) pg false)) ∧
      ∃ F', Pool w' p d F' (usD D N (bs.map fr) pg false) N (ptL D N (bs.map fr) pg b) ∧ Step F F' w w' := hca.mono (by
    rintro x w' ⟨k, w1, rfl, hr, he, rfl⟩
    obtain ⟨r1, ⟨F', r2, r3⟩, r4⟩ := hr
    have hs1 : W.heap.size + 1 ≤ w1.heap.size := by have := r4.size; simpa using this
    refine ⟨by rw [r1], F', r2.keep (by rw [size_setCell]; exact Nat.le_refl _) (fun j hj => Below.heap_setCell w1 ⟨W.heap.size, 0, none⟩ _ j (fun e1 => ?_)), ?_, fun j hj => ?_⟩
    · have e1' : j = W.heap.size := e1
      rcases r3 j hj with e2 | e2
      · have := hF _ e2; omega
      · simp at e2; omega
    · have c1 : Ch w.heap.size F w w1 := (Ch.of F hb0).trans (((Ch.of F hbe).mono (by omega) (fun _ _ e => e)).trans (r4.mono (by simp; omega) (fun j hj e1 => e1)))
      exact c1.setCell (p := ⟨W.heap.size, 0, none⟩) (.inl (by show w.heap.size ≤ W.heap.size; omega)) _
    · rcases r3 j hj with e3 | e3
      · exact .inl e3
      · exact .inr (by simp at e3; omega))
  clear hca hput h0 h k1 k2 k3 hF hbe hb0 hsz hrow
  rw [← hW] at hm hh hfin
  clear hW
  obtain ⟨E, hE⟩ : ∃ E, usE D N (bs.map fr) pg false = E := ⟨_, rfl⟩
  rw [hE] at hfin ⊢
  clear hE
  go_enter Try.func10, Try.ntmps10
  go_wp2_with (first | (go_at_call 25; refine hm.mono ?_; rintro x w' ⟨rfl, rfl⟩) | (go_at_call 26; refine hh.mono ?_; rintro x w' ⟨rfl, rfl⟩))
  refine hfin.mono ?_
  clear hfin hm hh
  rintro x w2 ⟨rfl, hres⟩
  have HR : Hid (∃ F', Pool w2 p d F' (usD D N (bs.map fr) pg false) N (ptL D N (bs.map fr) pg b) ∧ Step F F' w w2) := hres
  clear hres
  go_wp2
  go_ret
  exact ⟨rfl, HR.out⟩

theorem Put_bad (h : Pool w p d F D N L) (pg : Int) (a : Option Addr) (n cap : Nat) (hb : (hasB D pg && decide (n = 256)) = false) :
    Calls Try.prog 10 #[.pointer (some ⟨p, 0, none⟩), .int .i64 pg, .slice a n cap] w fun x w' => x = .returned (.int .i64 1) ∧ Below w.heap.size w w' := by
  obtain ⟨Fd, m, e, bs, fr, ol, nw, h, rfl⟩ := h
  have hb0 : Below w.heap.size w (((w.alloc (.cells #[.pointer (some ⟨p, 0, none⟩)] 27)).alloc (.cells #[.int .i64 pg] 3)).alloc (.cells #[.slice a n cap] 31)) := (((Below.refl _ w).alloc (Nat.le_refl _) _).alloc (by simp) _).alloc (by simp; omega) _
  have h0 := h.below hb0
  have hm := poolMade_any h0
  have hh := poolHas_any h0 pg
  have HB : Hid (Below w.heap.size w (((w.alloc (.cells #[.pointer (some ⟨p, 0, none⟩)] 27)).alloc (.cells #[.int .i64 pg] 3)).alloc (.cells #[.slice a n cap] 31))) := hb0
  clear h h0 hb0
  cases hhas : hasB D pg with
  | false =>
    rw [hhas] at hh
    clear hb
    go_enter Try.func10, Try.ntmps10
    go_wp2_with (first | (go_at_call 25; refine hm.mono ?_; rintro x w' ⟨rfl, rfl⟩) | (go_at_call 26; refine hh.mono ?_; rintro x w' ⟨rfl, rfl⟩))
    go_ret
    exact ⟨rfl, HB.out⟩
  | true =>
    rw [hhas] at hh hb
    have hl : ((n : Int) != 256) = true := by
      have : ¬ n = 256 := by simpa using hb
      simp; omega
    clear hb
    go_enter Try.func10, Try.ntmps10
    go_wp2_with (first | (go_at_call 25; refine hm.mono ?_; rintro x w' ⟨rfl, rfl⟩) | (go_at_call 26; refine hh.mono ?_; rintro x w' ⟨rfl, rfl⟩))
    go_ret
    exact ⟨rfl, HB.out⟩

theorem Pin_bad (h : Pool w p d F D N L) (pg : Int) (hb : hasB D pg = false) :
    Calls Try.prog 16 #[.pointer (some ⟨p, 0, none⟩), .int .i64 pg] w fun x w' => x = .returned (.tuple #[.slice none 0 0, .int .i64 1]) ∧ Below w.heap.size w w' := by
  obtain ⟨Fd, m, e, bs, fr, ol, nw, h, rfl⟩ := h
  have hb0 : Below w.heap.size w (((w.alloc (.cells #[.pointer (some ⟨p, 0, none⟩)] 27)).alloc (.cells #[.int .i64 pg] 3)).alloc (.cells #[.slice none 0 0] 31)) := (((Below.refl _ w).alloc (Nat.le_refl _) _).alloc (by simp) _).alloc (by simp; omega) _
  have h0 := h.below hb0
  have hm := poolMade_any h0
  have hh := poolHas_any h0 pg
  rw [hb] at hh
  have HB : Hid (Below w.heap.size w (((w.alloc (.cells #[.pointer (some ⟨p, 0, none⟩)] 27)).alloc (.cells #[.int .i64 pg] 3)).alloc (.cells #[.slice none 0 0] 31))) := hb0
  clear h h0 hb0 hb
  go_enter Try.func16, Try.ntmps16
  go_wp2_with (first | (go_at_call 25; refine hm.mono ?_; rintro x w' ⟨rfl, rfl⟩) | (go_at_call 26; refine hh.mono ?_; rintro x w' ⟨rfl, rfl⟩))
  refine bodyPost_ret (v := .tuple #[.slice none 0 0, .int .i64 1]) (by simp [results, Try.results16, go_sem]) rfl ?_
  exact ⟨rfl, HB.out⟩

/-- Has a page a frame with a pin? -/
def pinB (L : List Fr) (pg : Int) : Bool := decide (fiP L pg < L.length) && decide (0 < (L.getD (fiP L pg) fr0).pins)
def unL (L : List Fr) (pg : Int) : List Fr := if pinB L pg = true then L.set (fiP L pg) { L.getD (fiP L pg) fr0 with pins := (L.getD (fiP L pg) fr0).pins - 1 } else L
def unE (L : List Fr) (pg : Int) : Int := if pinB L pg = true then 0 else 10
/-- May a page be forgotten? -/
def fgB (L : List Fr) (pg : Int) : Bool := decide (fiP L pg < L.length) && decide ((L.getD (fiP L pg) fr0).pins = 0)
def fgL (L : List Fr) (pg : Int) : List Fr := if fgB L pg = true then L.eraseIdx (fiP L pg) else L

theorem map_up {bs : List Nat} {fr : Nat → Fr} {i e : Nat} (hn : bs.Nodup) (hi : i < bs.length) (f : Fr) : bs.map (upF fr (bs.getD i e) f) = (bs.map fr).set i f := by
  induction bs generalizing i with
  | nil => simp at hi
  | cons b r ih =>
    rw [List.nodup_cons] at hn
    cases i with
    | zero =>
      simp only [List.getD_cons_zero, List.map_cons, List.set_cons_zero, upF_same]
      congr 1
      exact List.map_congr_left (fun x hx => upF_other _ _ (fun e1 => hn.1 (e1 ▸ hx)))
    | succ i =>
      have hi' : i < r.length := by simpa using hi
      simp only [List.getD_cons_succ, List.map_cons, List.set_cons_succ]
      rw [ih hn.2 hi', upF_other _ _ (fun e1 => hn.1 (by rw [e1]; exact getD_mem hi'))]

set_option maxHeartbeats 2000000 in
theorem Unpin_any (h : Pool w p d F D N L) (hpn : ∀ f ∈ L, f.pins ≤ 1000001) (pg : Int) (hw : (Lit.int .i64 pg).wf = true) :
    Calls Try.prog 14 #[.pointer (some ⟨p, 0, none⟩), .int .i64 pg] w fun x w' => x = .returned (.int .i64 (unE L pg)) ∧ Pool w' p d F D N (unL L pg) ∧ Ch w.heap.size F w w' := by
  obtain ⟨Fd, m, e, bs, fr, ol, nw, h, rfl⟩ := h
  have hm := poolMade_any h
  obtain ⟨c0, c1, c2, c3⟩ := h.pool.at
  have hlook := h.pool.held.look pg hw
  rw [find_idx (bs := bs) (fr := fr) pg e] at hlook
  have hLL : (bs.map fr).length = bs.length := by simp
  by_cases hf : fiP (bs.map fr) pg < bs.length
  · rw [if_pos hf] at hlook
    have hgm : bs.getD (fiP (bs.map fr) pg) e ∈ bs := getD_mem hf
    have hgm' : bs.getD (fiP (bs.map fr) pg) e ∈ e :: bs := List.mem_cons_of_mem _ hgm
    obtain ⟨_, _, x2, _, _, xz⟩ := (h.pool.node _ hgm').at (h.pool.ok _ hgm')
    have hz := xz 258
    have hLg := getD_map (bs := bs) (fr := fr) (e := e) hf
    have hup := map_up (fr := fr) (e := e) h.pool.apart.2.2.2.2.2 hf
    have hgF := h.fp _ (.inr (.inr hgm'))
    have hpi := pinned_any w _ _ x2
    obtain ⟨i, hi⟩ : ∃ i, fiP (bs.map fr) pg = i := ⟨_, rfl⟩
    rw [hi] at hlook hgm hgm' x2 hz hLg hup hgF hpi hf
    have hset := h.setPins hgm
    obtain ⟨g, hg⟩ : ∃ g, bs.getD i e = g := ⟨_, rfl⟩
    rw [hg] at hlook x2 hz hLg hup hgF hpi hset hgm
    have hn := hpn (fr g) (List.mem_map_of_mem hgm)
    have hlook' : (Instr.lookup 54 (.map (some m)) (.int .i64 pg) false).run Try.prog w = .ok (.pointer (some ⟨g, 0, none⟩)) w := hlook
    obtain ⟨n, hnn⟩ : ∃ n, (fr g).pins = n := ⟨_, rfl⟩
    by_cases h0 : 0 < n
    · have hpb : pinB (bs.map fr) pg = true := by unfold pinB; rw [hi, hLL, hLg, hnn]; simp [hf, h0]
      have eE : unE (bs.map fr) pg = 0 := by unfold unE; rw [if_pos hpb]
      have eL : unL (bs.map fr) pg = bs.map (upF fr g { fr g with pins := n - 1 }) := by unfold unL; rw [if_pos hpb, hi, hLg, hnn, hup]
      have HP : Hid (Pool (w.setCell ⟨g, 258, none⟩ (.int .i64 (n - 1 : Nat))) p d F D N (unL (bs.map fr) pg)) := ⟨Fd, m, e, bs, _, ol, nw, hset (n - 1), eL⟩
      have HC : Hid (Ch w.heap.size F w (w.setCell ⟨g, 258, none⟩ (.int .i64 (n - 1 : Nat)))) := (Ch.refl _ _ _).setCell (p := ⟨g, 258, none⟩) (.inr hgF) _
      rw [show ((n - 1 : Nat) : Int) = (n : Int) - 1 by omega] at HP HC
      rw [hnn] at x2 hpi hn
      rw [decide_eq_true h0] at hpi
      rw [eE]
      clear hset hlook hLg hup hgF hgm hgm' hnn hi hpb eE eL h xz hpn hf hLL
      go_enter Try.func14, Try.ntmps14
      go_wp2_with (first | (go_at_call 25; refine hm.mono ?_; rintro x w' ⟨rfl, rfl⟩) | (go_at_call 38; refine hpi.mono ?_; rintro x w' ⟨rfl, rfl⟩))
      go_ret
      exact ⟨rfl, HP.out, HC.out⟩
    · have hpb : pinB (bs.map fr) pg = false := by unfold pinB; rw [hi, hLL, hLg, hnn]; simp [h0]
      have eE : unE (bs.map fr) pg = 10 := by unfold unE; rw [if_neg (by rw [hpb]; simp)]
      have eL : unL (bs.map fr) pg = bs.map fr := by unfold unL; rw [if_neg (by rw [hpb]; simp)]
      have HP : Hid (Pool w p d F D N (bs.map fr)) := ⟨Fd, m, e, bs, fr, ol, nw, h, rfl⟩
      rw [hnn] at x2 hpi
      rw [decide_eq_false h0] at hpi
      rw [eE, eL]
      clear hset hlook hLg hup hgF hgm hgm' hnn hi hpb eE eL h xz hpn hn hf hLL
      go_enter Try.func14, Try.ntmps14
      go_wp2_with (first | (go_at_call 25; refine hm.mono ?_; rintro x w' ⟨rfl, rfl⟩) | (go_at_call 38; refine hpi.mono ?_; rintro x w' ⟨rfl, rfl⟩))
      go_ret
      exact ⟨rfl, HP.out, Ch.refl _ _ _⟩
  · rw [if_neg hf] at hlook
    have hlook' : (Instr.lookup 54 (.map (some m)) (.int .i64 pg) false).run Try.prog w = .ok (.pointer none) w := hlook
    have hpb : pinB (bs.map fr) pg = false := by unfold pinB; rw [hLL]; simp [hf]
    have eE : unE (bs.map fr) pg = 10 := by unfold unE; rw [if_neg (by rw [hpb]; simp)]
    have eL : unL (bs.map fr) pg = bs.map fr := by unfold unL; rw [if_neg (by rw [hpb]; simp)]
    have HP : Hid (Pool w p d F D N (bs.map fr)) := ⟨Fd, m, e, bs, fr, ol, nw, h, rfl⟩
    rw [eE, eL]
    clear hlook hpb eE eL h hpn hf hLL
    go_enter Try.func14, Try.ntmps14
    go_wp2_with (first | (go_at_call 25; refine hm.mono ?_; rintro x w' ⟨rfl, rfl⟩))
    go_ret
    exact ⟨rfl, HP.out, Ch.refl _ _ _⟩

set_option maxHeartbeats 2000000 in
theorem Forget_any (h : Pool w p d F D N L) (pg : Int) (hw : (Lit.int .i64 pg).wf = true) :
    Calls Try.prog 22 #[.pointer (some ⟨p, 0, none⟩), .int .i64 pg] w fun x w' => x = .returned (.bool (fgB L pg)) ∧ Pool w' p d F D N (fgL L pg) ∧ Ch w.heap.size F w w' := by
  obtain ⟨Fd, m, e, bs, fr, ol, nw, h, rfl⟩ := h
  have hm := poolMade_any h
  obtain ⟨c0, c1, c2, c3⟩ := h.pool.at
  have hlook := h.pool.held.look pg hw
  rw [find_idx (bs := bs) (fr := fr) pg e] at hlook
  have hLL : (bs.map fr).length = bs.length := by simp
  by_cases hf : fiP (bs.map fr) pg < bs.length
  · rw [if_pos hf] at hlook
    have hgm : bs.getD (fiP (bs.map fr) pg) e ∈ bs := getD_mem hf
    have hgm' : bs.getD (fiP (bs.map fr) pg) e ∈ e :: bs := List.mem_cons_of_mem _ hgm
    obtain ⟨_, _, x2, _, _, _⟩ := (h.pool.node _ hgm').at (h.pool.ok _ hgm')
    have hLg := getD_map (bs := bs) (fr := fr) (e := e) hf
    have hpi := pinned_any w _ _ x2
    have hlv := leave_any h _ hf
    obtain ⟨i, hi⟩ : ∃ i, fiP (bs.map fr) pg = i := ⟨_, rfl⟩
    rw [hi] at hlook hgm hgm' x2 hLg hpi hf hlv
    obtain ⟨g, hg⟩ : ∃ g, bs.getD i e = g := ⟨_, rfl⟩
    rw [hg] at hlook x2 hLg hpi hlv
    have hlook' : (Instr.lookup 54 (.map (some m)) (.int .i64 pg) false).run Try.prog w = .ok (.pointer (some ⟨g, 0, none⟩)) w := hlook
    obtain ⟨n, hnn⟩ : ∃ n, (fr g).pins = n := ⟨_, rfl⟩
    rw [hnn] at x2 hpi
    by_cases h0 : n = 0
    · have hpb : fgB (bs.map fr) pg = true := by unfold fgB; rw [hi, hLL, hLg, hnn]; simp [hf, h0]
      have eL : fgL (bs.map fr) pg = (bs.eraseIdx i).map fr := by unfold fgL; rw [if_pos hpb, hi, map_erase]
      rw [decide_eq_false (show ¬ 0 < n by omega)] at hpi
      have hlv' : Calls Try.prog 48 #[.pointer (some ⟨p, 0, none⟩), .pointer (some ⟨g, 0, none⟩)] w fun x w' => x = .returned (.tuple #[]) ∧ Hid (Pool w' p d F D N (fgL (bs.map fr) pg)) ∧ Hid (Ch w.heap.size F w w') := hlv.mono (by
        rintro x w' ⟨rfl, ⟨ol', nw', h1⟩, h2⟩
        exact ⟨rfl, ⟨Fd, m, e, _, fr, ol', nw', h1, eL⟩, h2⟩)
      rw [hpb]
      clear hlook hLg hgm hgm' hnn hi hpb eL h hf hLL hlv
      go_enter Try.func22, Try.ntmps22
      go_wp2_with (first | (go_at_call 25; refine hm.mono ?_; rintro x w' ⟨rfl, rfl⟩) | (go_at_call 38; refine hpi.mono ?_; rintro x w' ⟨rfl, rfl⟩) | (go_at_call 48; refine hlv'.mono ?_; rintro x w2 ⟨rfl, HP, HC⟩))
      go_ret
      exact ⟨rfl, HP.out, HC.out⟩
    · have hpb : fgB (bs.map fr) pg = false := by unfold fgB; rw [hi, hLL, hLg, hnn]; simp [h0]
      have eL : fgL (bs.map fr) pg = bs.map fr := by unfold fgL; rw [if_neg (by rw [hpb]; simp)]
      have HP : Hid (Pool w p d F D N (bs.map fr)) := ⟨Fd, m, e, bs, fr, ol, nw, h, rfl⟩
      rw [decide_eq_true (show 0 < n by omega)] at hpi
      rw [hpb, eL]
      clear hlook hLg hgm hgm' hnn hi hpb eL h hf hLL hlv
      go_enter Try.func22, Try.ntmps22
      go_wp2_with (first | (go_at_call 25; refine hm.mono ?_; rintro x w' ⟨rfl, rfl⟩) | (go_at_call 38; refine hpi.mono ?_; rintro x w' ⟨rfl, rfl⟩))
      go_ret
      exact ⟨rfl, HP.out, Ch.refl _ _ _⟩
  · rw [if_neg hf] at hlook
    have hlook' : (Instr.lookup 54 (.map (some m)) (.int .i64 pg) false).run Try.prog w = .ok (.pointer none) w := hlook
    have hpb : fgB (bs.map fr) pg = false := by unfold fgB; rw [hLL]; simp [hf]
    have eL : fgL (bs.map fr) pg = bs.map fr := by unfold fgL; rw [if_neg (by rw [hpb]; simp)]
    have HP : Hid (Pool w p d F D N (bs.map fr)) := ⟨Fd, m, e, bs, fr, ol, nw, h, rfl⟩
    rw [hpb, eL]
    clear hlook hpb eL h hf hLL
    go_enter Try.func22, Try.ntmps22
    go_wp2_with (first | (go_at_call 25; refine hm.mono ?_; rintro x w' ⟨rfl, rfl⟩))
    go_ret
    exact ⟨rfl, HP.out, Ch.refl _ _ _⟩
end
end Go.Proofs.Ytojckbhbnalkeaa.Oct
