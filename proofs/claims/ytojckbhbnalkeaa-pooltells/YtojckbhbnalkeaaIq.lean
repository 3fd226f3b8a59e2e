/-
  pool: Resident, Dirty, Pinned; Evict; New.
-/
import Derived.Test.YtojckbhbnalkeaaIp
namespace Go.Proofs.Ytojckbhbnalkeaa.Oct
open Go.RowKit
attribute [local go_sem ↓] buildF_eq boxF_eq

section
variable {w : World} {p d N : Nat} {F : Nat → Prop} {D : Dv} {L : List Fr}

theorem Resident_any (h : Pool w p d F D N L) : Calls Try.prog 13 #[.pointer (some ⟨p, 0, none⟩)] w fun x w' => ∃ a c, x = .returned (.slice a (pgsP L fitA).length c) ∧ OwnI w.heap.size w' (.slice a (pgsP L fitA).length c) (pgsP L fitA) ∧ Below w.heap.size w w' := by
  obtain ⟨Fd, m, e, bs, fr, ol, nw, h, rfl⟩ := h
  have hp := pages_res h
  clear h
  go_enter Try.func13, Try.ntmps13
  go_wp2_with fail
  refine hp.mono ?_
  rintro x w1 ⟨a, c, rfl, ho, hb⟩
  have HO : Hid _ := ho
  clear ho hp
  go_wp2
  go_ret
  exact ⟨a, c, rfl, HO.out, hb⟩

theorem Dirty_any (h : Pool w p d F D N L) : Calls Try.prog 19 #[.pointer (some ⟨p, 0, none⟩)] w fun x w' => ∃ a c, x = .returned (.slice a (pgsP L fitD).length c) ∧ OwnI w.heap.size w' (.slice a (pgsP L fitD).length c) (pgsP L fitD) ∧ Below w.heap.size w w' := by
  obtain ⟨Fd, m, e, bs, fr, ol, nw, h, rfl⟩ := h
  have hp := pages_dir h
  clear h
  go_enter Try.func19, Try.ntmps19
  go_wp2_with fail
  refine hp.mono ?_
  rintro x w1 ⟨a, c, rfl, ho, hb⟩
  have HO : Hid _ := ho
  clear ho hp
  go_wp2
  go_ret
  exact ⟨a, c, rfl, HO.out, hb⟩

theorem pgsP_len (L : List Fr) (fit : Fr → Bool) : (pgsP L fit).length = (L.filter fit).length := by unfold pgsP; rw [srt_len, List.length_map]

theorem Pinned_any (h : Pool w p d F D N L) : Calls Try.prog 21 #[.pointer (some ⟨p, 0, none⟩)] w fun x w' => x = .returned (.int .i64 (L.filter fitP).length) ∧ Below w.heap.size w w' := by
  obtain ⟨Fd, m, e, bs, fr, ol, nw, h, rfl⟩ := h
  have hp := pages_pin h
  rw [pgsP_len] at hp
  clear h
  go_enter Try.func21, Try.ntmps21
  go_wp2_with fail
  refine hp.mono ?_
  rintro x w1 ⟨a, c, rfl, ho, hb⟩
  clear ho hp
  go_wp2
  go_ret
  exact ⟨rfl, hb⟩

set_option maxHeartbeats 4000000 in
theorem Evict_any (h : Pool w p d F D N L) (hops : D.ops ≤ 1000000000) (hs : D.since.length ≤ 900000) (n : Int) (hn : n ≤ 1048576) :
    Calls Try.prog 20 #[.pointer (some ⟨p, 0, none⟩), .int .i64 n] w fun x w' => x = .returned (.int .i64 (evS n.toNat D L).1) ∧ ∃ F', Pool w' p d F' (evS n.toNat D L).2.1 N (evS n.toNat D L).2.2 ∧ Step F F' w w' := by
  obtain ⟨Fd, m, e, bs, fr, ol, nw, h, rfl⟩ := h
  have hmf : ∀ (fn : Fn) (first cap : Array Value) (w : World), (Instr.makeFunc fn first cap).run Try.prog w = .ok (.func fn first cap) w := fun _ _ _ _ => rfl
  have hF := h.flt
  obtain ⟨R, hR⟩ : ∃ R, evS n.toNat D (bs.map fr) = R := ⟨_, rfl⟩
  have hb0 : Below w.heap.size w ((w.alloc (.cells #[.pointer (some ⟨p, 0, none⟩)] 27)).alloc (.cells #[.int .i64 n] 3)) := ((Below.refl _ w).alloc (Nat.le_refl _) _).alloc (by simp) _
  have h0 := h.below hb0
  have k1 : CellAt ((w.alloc (.cells #[.pointer (some ⟨p, 0, none⟩)] 27)).alloc (.cells #[.int .i64 n] 3)) w.heap.size (.pointer (some ⟨p, 0, none⟩)) 27 := (cell_new _ _ _).alloc _
  have k2 : CellAt ((w.alloc (.cells #[.pointer (some ⟨p, 0, none⟩)] 27)).alloc (.cells #[.int .i64 n] 3)) (w.heap.size + 1) (.int .i64 n) 3 := by
    have := cell_new (w.alloc (.cells #[.pointer (some ⟨p, 0, none⟩)] 27)) (.int .i64 n) 3
    simpa using this
  have hm := poolMade_any h0
  have hsz : ((w.alloc (.cells #[.pointer (some ⟨p, 0, none⟩)] 27)).alloc (.cells #[.int .i64 n] 3)).heap.size = w.heap.size + 2 := by simp
  obtain ⟨W, hW⟩ : ∃ W, (w.alloc (.cells #[.pointer (some ⟨p, 0, none⟩)] 27)).alloc (.cells #[.int .i64 n] 3) = W := ⟨_, rfl⟩
  rw [hW] at hb0 h0 k1 k2 hm hsz
  have hbe : Below W.heap.size W (W.alloc (.cells #[.int .i64 0] 24)) := (Below.refl _ W).alloc (Nat.le_refl _) _
  have hev := ev1_any (h0.below hbe) hops hs n hn w.heap.size (w.heap.size + 1) (k1.alloc _) (k2.alloc _) (fun e1 => by have := hF _ e1; omega)
  rw [hR] at hev ⊢
  have hca := caught_Evict W #[.pointer (some ⟨w.heap.size, 0, none⟩), .pointer (some ⟨w.heap.size + 1, 0, none⟩)] (Ev1R p d N F R (W.alloc (.cells #[.int .i64 0] 24))) (hev.mono (by
    rintro x w1 ⟨k, hx, hr⟩
    refine ⟨k, hx, hr, (hr.2.2.block W.heap.size (by simp) (fun e1 => ?_)).trans (err_new W)⟩
    have := hF _ e1; omega))
  have hfin : Calls Try.prog 27 #[.func (.func 45) #[] #[.pointer (some ⟨w.heap.size, 0, none⟩), .pointer (some ⟨w.heap.size + 1, 0, none⟩)]] W fun x w' => x = .returned (.int .i64 R.1) ∧
      Hid (∃ F', Pool w' p d F' R.2.1 N R.2.2 ∧ Step F F' w w') := hca.mono (by
    rintro x w' ⟨k, w1, rfl, hr, he, rfl⟩
    obtain ⟨r1, ⟨F', r2, r3⟩, r4⟩ := hr
    have hs1 : W.heap.size + 1 ≤ w1.heap.size := by have := r4.size; simpa using this
    refine ⟨by rw [r1], F', r2.keep (by rw [size_setCell]; exact Nat.le_refl _) (fun j hj => Below.heap_setCell w1 ⟨W.heap.size, 0, none⟩ _ j (fun e1 => ?_)), ?_, fun j hj => ?_⟩
    · have e1' : j = W.heap.size := e1
      rcases r3 j hj with e2 | e2
      · have := hF _ e2; omega
      · simp at e2; omega
    · have c1 : Ch w.heap.size F w w1 := (Ch.of F hb0).trans (((Ch.of F hbe).mono (by omega) (fun _ _ e => e)).trans (r4.mono (by simp; omega) (fun j hj e1 => e1)))
      exact c1.setCell (p := ⟨W.heap.size, 0, none⟩) (.inl (by show w.heap.size ≤ W.heap.size; omega)) _
    · rcases r3 j hj with e3 | e3
      · exact .inl e3
      · exact .inr (by simp at e3; omega))
  clear hca hev h0 h k1 k2 hF hbe hb0 hsz hR
  rw [← hW] at hm hfin
  clear hW
  go_enter Try.func20, Try.ntmps20
  go_wp2_with (first | (go_at_call 25; refine hm.mono ?_; rintro x w' ⟨rfl, rfl⟩))
  refine hfin.mono ?_
  clear hfin hm
  rintro x w2 ⟨rfl, HR⟩
  go_wp2
  go_ret
  exact ⟨rfl, HR.out⟩
end

theorem pNew_no (v : Option Addr) (n : Int) (w : World) (h : v = none ∨ n < 8 ∨ 4096 < n) : Calls Try.prog 9 #[.pointer v, .int .i64 n] w fun x w' => x = .returned (.tuple #[.pointer none, .int .i64 1]) ∧ w = w' := by
  cases v with
  | none =>
    clear h
    go_enter Try.func9, Try.ntmps9
    go_wp2
    go_ret2
    exact ⟨rfl, rfl⟩
  | some a =>
    by_cases h1 : n < 8
    · clear h
      go_enter Try.func9, Try.ntmps9
      go_wp2
      go_ret2
      exact ⟨rfl, rfl⟩
    · have h2 : 4096 < n := by
        rcases h with h | h | h
        · cases h
        · exact absurd h h1
        · exact h
      clear h
      go_enter Try.func9, Try.ntmps9
      go_wp2
      go_ret2
      exact ⟨rfl, rfl⟩

set_option maxRecDepth 20000 in
set_option maxHeartbeats 2000000 in
theorem pNew_yes {w : World} {d : Nat} {Fd : Nat → Prop} {D : Dv} (h : Dev w d Fd D) (N : Nat) (h8 : 8 ≤ N) (h4 : N ≤ 4096) :
    Calls Try.prog 9 #[.pointer (some ⟨d, 0, none⟩), .int .i64 N] w fun x w' => ∃ p F, x = .returned (.tuple #[.pointer (some ⟨p, 0, none⟩), .int .i64 0]) ∧ Pool w' p d F D N [] ∧ Below w.heap.size w w' ∧ (∀ k, F k → Fd k ∨ w.heap.size ≤ k) ∧ ∀ k, Fd k → F k := by
  have rB := build_f0 w
  have rX := box_f w zeF
  have hmm := @run_makeMap Try.prog
  have hzs : zeF.size = 261 := by
    unfold zeF frV
    rw [List.size_toArray, List.length_cons, List.length_append, List.length_map, fr0_ok.1]
    rfl
  obtain ⟨v1, e1⟩ : ∃ v, zeF[259]? = some v := ⟨_, Array.getElem?_eq_getElem (by omega)⟩
  obtain ⟨v2, e2⟩ : ∃ v, zeF[260]? = some v := ⟨_, Array.getElem?_eq_getElem (by omega)⟩
  have hnode : Node (w.alloc (.cells ((zeF.setIfInBounds 259 (.pointer (some ⟨w.heap.size, 0, none⟩))).setIfInBounds 260 (.pointer (some ⟨w.heap.size, 0, none⟩))) 53)) w.heap.size fr0 w.heap.size w.heap.size := by
    unfold Node
    rw [heap_alloc_new]
    have := frV_set fr0_ok (.pointer none) (.pointer none) (.pointer (some ⟨w.heap.size, 0, none⟩)) (.pointer (some ⟨w.heap.size, 0, none⟩))
    rw [frV_frC] at this
    rw [← this]
    unfold zeF
    simp
  have hb1 : Below w.heap.size w (w.alloc (.cells ((zeF.setIfInBounds 259 (.pointer (some ⟨w.heap.size, 0, none⟩))).setIfInBounds 260 (.pointer (some ⟨w.heap.size, 0, none⟩))) 53)) := (Below.refl _ w).alloc (Nat.le_refl _) _
  have hsz : (w.alloc (.cells ((zeF.setIfInBounds 259 (.pointer (some ⟨w.heap.size, 0, none⟩))).setIfInBounds 260 (.pointer (some ⟨w.heap.size, 0, none⟩))) 53)).heap.size = w.heap.size + 1 := by simp
  have hend : ∀ w1, Node w1 w.heap.size fr0 w.heap.size w.heap.size → Below w.heap.size w w1 → w1.heap.size = w.heap.size + 1 → Pool ((w1.alloc (.map #[] 0)).alloc (.cells #[.pointer (some ⟨d, 0, none⟩), .int .i64 N, .map (some w1.heap.size), .pointer (some ⟨w.heap.size, 0, none⟩)] 56)) (w1.heap.size + 1) d (fun k => Fd k ∨ w.heap.size ≤ k ∧ k < w.heap.size + 3) D N [] ∧ Below w.heap.size w ((w1.alloc (.map #[] 0)).alloc (.cells #[.pointer (some ⟨d, 0, none⟩), .int .i64 N, .map (some w1.heap.size), .pointer (some ⟨w.heap.size, 0, none⟩)] 56)) := fun w1 hn hb hs => by
    have hb2 : Below w.heap.size w ((w1.alloc (.map #[] 0)).alloc (.cells #[.pointer (some ⟨d, 0, none⟩), .int .i64 N, .map (some w1.heap.size), .pointer (some ⟨w.heap.size, 0, none⟩)] 56)) := (hb.alloc (by omega) _).alloc (by simp; omega) _
    have hF := h.2.1
    refine ⟨⟨Fd, w1.heap.size, w.heap.size, [], fun _ => fr0, fun _ => w.heap.size, fun _ => w.heap.size, ⟨h.below hb2, ⟨?_, ?_, ?_, ?_, fun _ _ => fr0_ok, by simp, ?_, h8, h4, by simp, h.1.n4⟩, fun k hk => ⟨.inl hk, fun e1 => ?_⟩, fun k hk => ?_, fun k hk => ?_⟩, rfl⟩, hb2⟩
    · have := heap_alloc_new (w1.alloc (.map #[] 0)) (.cells #[.pointer (some ⟨d, 0, none⟩), .int .i64 N, .map (some w1.heap.size), .pointer (some ⟨w.heap.size, 0, none⟩)] 56)
      simpa using this
    · exact (held_new w1).keep (Below.heap_alloc _ _ _ (by simp))
    · intro g hg
      simp at hg
      subst hg
      exact (hn.keep (Below.heap_alloc w1 _ _ (by omega))).keep (Below.heap_alloc _ _ _ (by simp; omega))
    · intro i hi
      simp at hi
      subst hi
      exact ⟨rfl, rfl⟩
    · simp; omega
    · have := hF k hk
      rcases e1 with e1 | e1 | e1
      · omega
      · omega
      · simp at e1; omega
    · rcases hk with e1 | e1 | e1
      · exact .inr ⟨by omega, by omega⟩
      · exact .inr ⟨by omega, by omega⟩
      · simp at e1; exact .inr ⟨by omega, by omega⟩
    · rcases hk with e1 | e1
      · have := hF k e1; simp; omega
      · simp; omega
  obtain ⟨Z, hZ⟩ : ∃ Z, zeF = Z := ⟨_, rfl⟩
  have HF := hend _ hnode hb1 hsz
  rw [hZ] at rB rX e1 e2 hzs HF
  have HX : Hid (Pool (((w.alloc (.cells ((Z.setIfInBounds 259 (.pointer (some ⟨w.heap.size, 0, none⟩))).setIfInBounds 260 (.pointer (some ⟨w.heap.size, 0, none⟩))) 53)).alloc (.map #[] 0)).alloc (.cells #[.pointer (some ⟨d, 0, none⟩), .int .i64 N, .map (some (w.heap.size + 1)), .pointer (some ⟨w.heap.size, 0, none⟩)] 56)) (w.heap.size + 1 + 1) d (fun k => Fd k ∨ w.heap.size ≤ k ∧ k < w.heap.size + 3) D N [] ∧ Below w.heap.size w (((w.alloc (.cells ((Z.setIfInBounds 259 (.pointer (some ⟨w.heap.size, 0, none⟩))).setIfInBounds 260 (.pointer (some ⟨w.heap.size, 0, none⟩))) 53)).alloc (.map #[] 0)).alloc (.cells #[.pointer (some ⟨d, 0, none⟩), .int .i64 N, .map (some (w.heap.size + 1)), .pointer (some ⟨w.heap.size, 0, none⟩)] 56))) := by
    have e3 : (w.alloc (.cells ((Z.setIfInBounds 259 (.pointer (some ⟨w.heap.size, 0, none⟩))).setIfInBounds 260 (.pointer (some ⟨w.heap.size, 0, none⟩))) 53)).heap.size = w.heap.size + 1 := by simp
    rw [e3] at HF
    exact HF
  clear hend hnode hb1 hsz h hZ HF
  go_enter Try.func9, Try.ntmps9
  go_wp2
  go_ret2
  exact ⟨_, _, rfl, HX.out.1, HX.out.2, fun k hk => by rcases hk with hk | hk; exact .inl hk; exact .inr hk.1, fun k hk => .inl hk⟩
end Go.Proofs.Ytojckbhbnalkeaa.Oct
