/-
  pool: take; a page's first bytes: read, unread.
-/
import Derived.Test.YtojckbhbnalkeaaGreatIg
namespace Go.Proofs.YtojckbhbnalkeaaGreat.Oct
open Go.RowKit

def tkE (D : Dv) (N : Nat) (L : List Fr) : Int := if L.length < N then 0 else if nuP L 0 < L.length then evE D (L.getD (nuP L 0) fr0) else 6
def tkD (D : Dv) (N : Nat) (L : List Fr) : Dv := if L.length < N then D else if nuP L 0 < L.length then evD D (L.getD (nuP L 0) fr0) else D
def tkB (D : Dv) (N : Nat) (bs : List Nat) (fr : Nat → Fr) : List Nat := if bs.length < N then bs else if nuP (bs.map fr) 0 < bs.length then evB (evE D ((bs.map fr).getD (nuP (bs.map fr) 0) fr0)) bs (nuP (bs.map fr) 0) else bs

theorem tkD_n (D : Dv) (N : Nat) (L : List Fr) : (tkD D N L).n = D.n := by
  unfold tkD
  split
  · rfl
  · split
    · exact evD_n ..
    · rfl

theorem evE_cases (D : Dv) (f : Fr) : evE D f = 0 ∨ evE D f = 7 := by
  unfold evE
  split
  · exact saysD_cases D
  · exact .inl rfl

section
variable {w : World} {p d m e N : Nat} {Fd F : Nat → Prop} {D : Dv} {bs : List Nat} {fr : Nat → Fr} {ol nw : Nat → Nat}

/-- What take leaves. -/
def TakeEnd (p d m e N : Nat) (F : Nat → Prop) (D : Dv) (bs : List Nat) (fr : Nat → Fr) (w : World) (w' : World) : Prop :=
  ∃ Fd' F' fr' ol' nw', PD w' p d m e N Fd' F' (tkD D N (bs.map fr)) (tkB D N bs fr) fr' ol' nw' ∧ Step F F' w w' ∧ ∀ x ∈ tkB D N bs fr, fr' x = fr x

theorem memN (w : World) (n : Nat) : Mem w (w.drewN n) := ⟨rfl, rfl, rfl, rfl⟩

set_option maxRecDepth 20000 in
set_option maxHeartbeats 2000000 in
theorem take_any (h : PD w p d m e N Fd F D bs fr ol nw) (hops : D.ops ≤ 4611686018427387904) (hs : D.since.length ≤ 1000000) :
    Calls Tryz.prog 76 #[.pointer (some ⟨p, 0, none⟩)] w fun x w' => CEnd (tkE D N (bs.map fr)) x ∧ TakeEnd p d m e N F D bs fr w w' := by
  obtain ⟨c0, c1, c2, c3⟩ := h.pool.at
  have hlen := fun (W : World) (hW : W.heap[m]? = w.heap[m]?) (ty : TypeId) => (h.pool.held.keep hW).len ty
  have hl : (psOf bs fr).length = bs.length := by simp [psOf]
  rw [hl] at hlen
  have hlen0 := hlen w rfl
  have hlen1 := hlen w.drew rfl
  have hlen2 := fun n => hlen (w.drewN n) rfl
  have hLL : (bs.map fr).length = bs.length := by simp
  have hle := h.pool.len
  clear hlen hl
  by_cases hlt : bs.length < N
  · have e1 : tkE D N (bs.map fr) = 0 := by unfold tkE; rw [hLL, if_pos hlt]
    have e2 : ∀ n, TakeEnd p d m e N F D bs fr w (w.drewN n) := by
      intro n
      refine ⟨Fd, F, fr, ol, nw, ?_, ⟨(memN w n).ch _ _, fun _ h => .inl h⟩, fun _ _ => rfl⟩
      unfold tkD tkB
      rw [hLL, if_pos hlt, if_pos hlt]
      exact h.mem (memN w n)
    rw [e1]
    have H2 : Hid (∀ n, TakeEnd p d m e N F D bs fr w (w.drewN n)) := e2
    have hlt' : (bs.length : Int) < (N : Int) := by omega
    clear e1 e2 h hle hLL
    go_enter Tryz.func76, Tryz.ntmps76
    go_wp2_with fail
    go_quiet (fail)
    go_wp2
    refine bodyPost_ret (results_none rfl _ _ _) rfl ?_
    exact ⟨.inl ⟨rfl, rfl⟩, H2.out _⟩
  · have hlt' : ¬ (bs.length : Int) < (N : Int) := by omega
    have hlv : ∀ W, Mem w W → Calls Tryz.prog 62 #[.pointer (some ⟨p, 0, none⟩)] W fun x w' => x = .returned (.func (.func 82) #[] #[.pointer (some ⟨W.heap.size + 1, 0, none⟩), .pointer (some ⟨W.heap.size, 0, none⟩)]) ∧
      w' = (W.alloc (.cells #[.pointer (some ⟨p, 0, none⟩)] 32)).alloc (.cells #[.pointer (some ⟨cyc e bs 1, 0, none⟩)] 66) := fun W hW => leavers_any (h.mem hW)
    have hlz : ∀ W, Mem w W → Calls Tryz.prog 82 #[.pointer (some ⟨W.heap.size + 1, 0, none⟩), .pointer (some ⟨W.heap.size, 0, none⟩)] ((W.alloc (.cells #[.pointer (some ⟨p, 0, none⟩)] 32)).alloc (.cells #[.pointer (some ⟨cyc e bs 1, 0, none⟩)] 66)) fun x w' =>
        x = .returned (mkP (lvO bs fr e 0)) ∧ PD w' p d m e N Fd F D bs fr ol nw ∧ Ch w.heap.size (fun _ => False) w w' := fun W hW => by
      have hpd := h.mem hW
      have hb : Below W.heap.size W ((W.alloc (.cells #[.pointer (some ⟨p, 0, none⟩)] 32)).alloc (.cells #[.pointer (some ⟨cyc e bs 1, 0, none⟩)] 66)) := ((Below.refl _ W).alloc (Nat.le_refl _) _).alloc (by simp) _
      have h2 := hpd.below hb
      have hq : PtrAt ((W.alloc (.cells #[.pointer (some ⟨p, 0, none⟩)] 32)).alloc (.cells #[.pointer (some ⟨cyc e bs 1, 0, none⟩)] 66)) (W.heap.size + 1) (cyc e bs (0 + 1)) 66 := by
        have := heap_alloc_new (W.alloc (.cells #[.pointer (some ⟨p, 0, none⟩)] 32)) (.cells #[.pointer (some ⟨cyc e bs 1, 0, none⟩)] 66)
        simpa [PtrAt] using this
      have hr : PtrAt ((W.alloc (.cells #[.pointer (some ⟨p, 0, none⟩)] 32)).alloc (.cells #[.pointer (some ⟨cyc e bs 1, 0, none⟩)] 66)) W.heap.size p 32 := by
        unfold PtrAt
        rw [Below.heap_alloc _ _ _ (by simp)]
        exact heap_alloc_new W _
      have hF : ¬ F (W.heap.size + 1) := fun e1 => by have := hpd.flt _ e1; omega
      refine (leaver_any h2 (W.heap.size + 1) W.heap.size 0 (by omega) hq hr hF (by omega)).mono ?_
      rintro x w' ⟨rfl, hc, _⟩
      refine ⟨rfl, h2.ch hc (fun k hk e1 => hF (e1 ▸ hk)), ?_⟩
      have hsz : w.heap.size = W.heap.size := by rw [hW.1]
      refine (hW.ch _ _).trans ((Ch.of _ hb).mono (by omega) (fun _ _ e => e) |>.trans (hc.mono (by simp; omega) (fun k hk e1 => by omega)))
    have hev : ∀ W, PD W p d m e N Fd F D bs fr ol nw → ∀ i, i < bs.length → _ := fun W hW i hi => evict_any hW hops hs i hi
    have HLV : Hid _ := hlv
    have HLZ : Hid _ := hlz
    have HEV : Hid _ := hev
    cases ho : lvO bs fr e 0 with
    | none =>
      have hn : ¬ nuP (bs.map fr) 0 < bs.length := by
        intro e1
        unfold lvO at ho
        rw [if_pos e1] at ho
        cases ho
      have e1 : tkE D N (bs.map fr) = 6 := by unfold tkE; rw [hLL, if_neg hlt, if_neg hn]
      have e2 : ∀ W, PD W p d m e N Fd F D bs fr ol nw → Ch w.heap.size (fun _ => False) w W → TakeEnd p d m e N F D bs fr w W := fun W h1 h2 => by
        refine ⟨Fd, F, fr, ol, nw, ?_, ⟨h2.mono (Nat.le_refl _) (fun _ _ e => e.elim), fun _ h => .inl h⟩, fun _ _ => rfl⟩
        unfold tkD tkB
        rw [hLL, if_neg hlt, if_neg hlt, if_neg hn, if_neg hn]
        exact h1
      rw [e1]
      rw [ho] at HLZ
      have H2 : Hid _ := e2
      clear e1 e2 h hle hLL hlv hlz hev HEV ho hn hlt
      go_enter Tryz.func76, Tryz.ntmps76
      go_wp2_with fail
      go_quiet (fail)
      go_wp2_with fail
      refine (HLV.out _ (memN w _)).mono ?_
      rintro x w2 ⟨rfl, rfl⟩
      have hz : Calls Tryz.prog 82 #[.pointer (some ⟨w.heap.size + 1, 0, none⟩), .pointer (some ⟨w.heap.size, 0, none⟩)] (((w.drewN nq).alloc (.cells #[.pointer (some ⟨p, 0, none⟩)] 32)).alloc (.cells #[.pointer (some ⟨cyc e bs 1, 0, none⟩)] 66)) fun x w' =>
        x = .returned (.pointer none) ∧ PD w' p d m e N Fd F D bs fr ol nw ∧ Ch w.heap.size (fun _ => False) w w' := HLZ.out _ (memN w nq)
      go_wp2_with fail
      refine hz.mono ?_
      rintro x w3 ⟨rfl, h3, k3⟩
      have H3 : Hid (TakeEnd p d m e N F D bs fr w w3) := H2.out w3 h3 k3
      clear hz HLZ HLV H2 h3 k3
      go_wp2
      exact ⟨rfl, .inr ⟨by decide, rfl⟩, H3.out⟩
    | some g =>
      have hn : nuP (bs.map fr) 0 < bs.length := by
        by_cases e1 : nuP (bs.map fr) 0 < bs.length
        · exact e1
        · unfold lvO at ho
          rw [if_neg e1] at ho
          cases ho
      have hg : bs.getD (nuP (bs.map fr) 0) e = g := by
        unfold lvO at ho
        rw [if_pos hn] at ho
        simpa using ho
      have hLg : (bs.map fr).getD (nuP (bs.map fr) 0) fr0 = fr g := by
        rw [← hg]
        simp [List.getD_eq_getElem?_getD, List.getElem?_eq_getElem hn]
      have e1 : tkE D N (bs.map fr) = evE D (fr g) := by unfold tkE; rw [hLL, if_neg hlt, if_pos hn, hLg]
      have hee : ∀ W, PD W p d m e N Fd F D bs fr ol nw → Ch w.heap.size (fun _ => False) w W → Calls Tryz.prog 63 #[.pointer (some ⟨p, 0, none⟩), .pointer (some ⟨g, 0, none⟩)] W fun x w' => CEnd (evE D (fr g)) x ∧ TakeEnd p d m e N F D bs fr w w' := fun W h1 h2 => by
        have := evict_any h1 hops hs _ hn
        rw [hg] at this
        refine this.mono ?_
        rintro x w' ⟨hx, Fd', F', fr', ol', nw', h3, h4, h5⟩
        refine ⟨hx, Fd', F', fr', ol', nw', ?_, ?_, ?_⟩
        · unfold tkD tkB
          rw [hLL, if_neg hlt, if_neg hlt, if_pos hn, if_pos hn, hLg]
          exact h3
        · have e0 : Step F F w W := ⟨h2.mono (Nat.le_refl _) (fun _ _ e => e.elim), fun _ h => .inl h⟩
          exact e0.trans h4
        · unfold tkB
          rw [if_neg hlt, if_pos hn, hLg]
          exact h5
      rw [e1]
      rw [ho] at HLZ
      have H2 : Hid (∀ W, PD W p d m e N Fd F D bs fr ol nw → Ch w.heap.size (fun _ => False) w W → Calls Tryz.prog 63 #[.pointer (some ⟨p, 0, none⟩), .pointer (some ⟨g, 0, none⟩)] W fun x w' => CEnd (evE D (fr g)) x ∧ TakeEnd p d m e N F D bs fr w w') := hee
      have hec := evE_cases D (fr g)
      obtain ⟨E, hE⟩ : ∃ E, evE D (fr g) = E := ⟨_, rfl⟩
      rw [hE] at H2 hec ⊢
      clear e1 hee h hle hLL hlv hlz hev HEV ho hn hlt hg hLg hE
      go_enter Tryz.func76, Tryz.ntmps76
      go_wp2_with fail
      go_quiet (fail)
      go_wp2_with fail
      refine (HLV.out _ (memN w _)).mono ?_
      rintro x w2 ⟨rfl, rfl⟩
      have hz : Calls Tryz.prog 82 #[.pointer (some ⟨w.heap.size + 1, 0, none⟩), .pointer (some ⟨w.heap.size, 0, none⟩)] (((w.drewN nq).alloc (.cells #[.pointer (some ⟨p, 0, none⟩)] 32)).alloc (.cells #[.pointer (some ⟨cyc e bs 1, 0, none⟩)] 66)) fun x w' =>
        x = .returned (.pointer (some ⟨g, 0, none⟩)) ∧ PD w' p d m e N Fd F D bs fr ol nw ∧ Ch w.heap.size (fun _ => False) w w' := HLZ.out _ (memN w nq)
      go_wp2_with fail
      refine hz.mono ?_
      rintro x w3 ⟨rfl, h3, k3⟩
      have H3 := H2.out w3 h3 k3
      clear hz HLZ HLV H2 h3 k3
      go_wp2_with fail
      refine H3.mono ?_
      clear H3
      rintro x w4 ⟨hx, ht⟩
      have HT : Hid (TakeEnd p d m e N F D bs fr w w4) := ht
      clear ht
      rcases hec with rfl | rfl
      · obtain rfl : x = .returned (.tuple #[]) := by
          rcases hx with hx | hx
          · exact hx.2
          · exact absurd rfl hx.1
        clear hx
        go_wp2
        go_end0
        exact ⟨.inl ⟨rfl, rfl⟩, HT.out⟩
      · obtain rfl : x = thrown 7 := by
          rcases hx with hx | hx
          · exact absurd hx.1 (by decide)
          · exact hx.2
        clear hx
        unfold thrown
        go_wp2
        exact ⟨rfl, .inr ⟨by decide, rfl⟩, HT.out⟩
end
end Go.Proofs.YtojckbhbnalkeaaGreat.Oct
