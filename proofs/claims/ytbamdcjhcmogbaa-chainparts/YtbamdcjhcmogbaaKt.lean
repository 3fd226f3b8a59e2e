/-
  The landed chain: Cut.
-/
import Derived.Test.YtbamdcjhcmogbaaKs
namespace Go.Proofs.Ytbamdcjhcmogbaa.Oct.Chs
open Go.RowKit Go.Shelf

attribute [local go_sem] Oper.semAt_some

set_option maxRecDepth 100000 in
set_option maxHeartbeats 2000000 in
theorem parts1_nil (n l Bs Bp : Nat) (sv : Value) (pa : Option Addr) (pcap : Nat) (J : World → Prop) (W : World)
    (hcs : W.cell? ⟨Bs, 0, none⟩ = some sv) (hs : ∃ a n c, sv = .slice a n c) (hcp : W.cell? ⟨Bp, 0, none⟩ = some (.slice pa 0 pcap)) (h0 : J W) :
    CallsIn Fence.wide n Try.prog 30 #[.func (.yield l) #[] #[], .pointer (some ⟨Bs, 0, none⟩), .pointer (some ⟨Bp, 0, none⟩)] W fun e W' => (∃ v, e = .returned v) ∧ J W' := by
  obtain ⟨a, m, c, rfl⟩ := hs
  refine callsIn_of_wp Try.func30 rfl trivial ?_ rfl
  simp only [Try.ntmps30, List.size_toArray, List.length_cons, List.length_nil, Nat.reduceAdd, Nat.reduceSub, Array.replicate_succ, Array.replicate_zero, List.push_toArray, List.append_toArray, List.nil_append, List.cons_append]
  gi_wp2
  gi_loopw [10] (fun i wr => i = .int .i64 0 ∧ J wr) (fun _ _ => 0)
  case atStart => exact ⟨rfl, h0⟩
  case round =>
    obtain ⟨rfl, hJs⟩ := hrel
    gi_wp2
    go_end0
    exact ⟨⟨_, rfl⟩, hJs⟩

set_option maxHeartbeats 1000000 in
theorem parts_in (n : Nat) (a pa : Option Addr) (m cap pm pcap : Nat) (w : World) :
    CallsIn Fence.wide n Try.prog 18 #[.slice a m cap, .slice pa pm pcap] w fun e w' => e = .returned (.func (.func 30) #[] #[.pointer (some ⟨w.heap.size, 0, none⟩), .pointer (some ⟨w.heap.size + 1, 0, none⟩)]) ∧ w' = (w.alloc (.cells #[.slice a m cap] 27)).alloc (.cells #[.slice pa pm pcap] 29) := by
  refine callsIn_of_wp Try.func18 rfl trivial ?_ rfl
  simp only [Try.ntmps18, List.size_toArray, List.length_cons, List.length_nil, Nat.reduceAdd, Nat.reduceSub, Array.replicate_succ, Array.replicate_zero, List.push_toArray, List.append_toArray, List.nil_append, List.cons_append]
  gi_wp2
  go_ret
  exact ⟨by simp, rfl⟩

theorem PgL.keepC {base : Nat} {W W' : World} {v : Value} {L : List (List Int)} (h : PgL base W v L) (hk : ∀ (k : Nat) (cur : Array Value) (t : TypeId) (fr : Nat × Nat), W.heap[k]? = some (Obj.cells cur t fr) → (t = 5 ∨ t = 27) → W'.heap[k]? = W.heap[k]?) : PgL base W' v L := by
  obtain ⟨vs, h1, h2⟩ := h
  have keep : ∀ {e : TypeId} {n : Nat} {u : Value} {xs : List Value}, (e = 5 ∨ e = 27) → W.ownsRow base e 1 u n xs → W'.ownsRow base e 1 u n xs := fun he ho => by
    refine owns_keep ho fun g hg => ?_
    rcases ho.2 with ⟨rfl, _⟩ | ⟨g', cap, cur, rfl, _, hgb, _⟩
    · simp [Value.ownBlock] at hg
    · obtain rfl : g' = g := by simpa [Value.ownBlock] using hg
      exact hk _ _ _ _ hgb he
  refine ⟨vs, keep (.inr rfl) h1, fun i hi => ?_⟩
  obtain ⟨g, c, e, ho, hn⟩ := h2 i hi
  exact ⟨g, c, e, keep (.inl rfl) ho, hn⟩

theorem cells_two {w : World} {p q : Nat} {u v : Value} (hne : p ≠ q) (h4 : (w.cell? ⟨p, 0, none⟩).isSome = true) (h5 : (w.cell? ⟨q, 0, none⟩).isSome = true) :
    ((w.setCell ⟨p, 0, none⟩ u).setCell ⟨q, 0, none⟩ v).cell? ⟨p, 0, none⟩ = some u ∧ ((w.setCell ⟨p, 0, none⟩ u).setCell ⟨q, 0, none⟩ v).cell? ⟨q, 0, none⟩ = some v := by
  refine ⟨?_, World.cell?_setCell_same' _ _ _ ?_⟩
  · rw [World.cell?_setCell_other _ _ _ _ (fun e => hne (by cases e; rfl))]
    exact World.cell?_setCell_same' _ _ _ h4
  · rw [World.cell?_setCell_other _ _ _ _ (fun e => hne (by cases e; rfl))]
    exact h5

set_option maxRecDepth 100000 in
set_option maxHeartbeats 2000000 in
theorem Cut_bad (a : Option Addr) (cap : Nat) (zs : List Int) (pa : Option Addr) (pcap : Nat) (pg : List Int) (w : World) (hp : RowI w pa pcap pg) (hz : zs.length ≤ 1000000) (h : pg.length ≠ ned zs.length ∨ ctB pg = false) :
    Calls Try.prog 9 #[.slice a zs.length cap, .slice pa pg.length pcap] w (CtR w zs pg) := by
  have hnd := fun w => Need_v zs.length w (by omega) (by omega)
  rw [nedI_nat] at hnd
  have HE : Hid (ctE zs pg = 1) := by
    show ctE zs pg = 1
    unfold ctE
    rcases h with h | h
    · rw [if_neg h]
    · rw [h]; split <;> rfl
  have HN : Hid (∀ w, Calls Try.prog 10 #[.int .i64 zs.length] w fun e w' => e = .returned (.int .i64 (ned zs.length)) ∧ w = w') := hnd
  clear hnd
  by_cases hlen : pg.length = ned zs.length
  · have hb : ctB pg = false := h.resolve_left (fun e => e hlen)
    have hmh := fun w hp => mayHold_v pa pcap pg w hp false hb
    have HM : Hid _ := hmh
    have HP : Hid (RowI w pa pcap pg) := hp
    have hne : ((pg.length : Int) != (ned zs.length : Int)) = false := by simp; omega
    clear h hlen hb hmh hp
    go_enter Try.func9, Try.ntmps9
    go_wp2_with (first | (go_at_call 10; refine (HN.out _).mono ?_; rintro e w1 ⟨rfl, rfl⟩) | (go_at_call 17; refine (HM.out _ (HP.out.below (((Below.refl _ w).alloc (Nat.le_refl _) _).alloc (by simp) _))).mono ?_; rintro e w1 ⟨rfl, hb1⟩; have hsz : ((w.alloc (.cells #[.slice none 0 0] 23)).alloc (.cells #[.int .i64 0] 24)).heap.size = w.heap.size + 2 := (by simp); have c4 : w1.cell? ⟨w.heap.size, 0, none⟩ = some (.slice none 0 0) := (hb1.cell (p := ⟨w.heap.size, 0, none⟩) (by show w.heap.size < _; omega)).trans (by simp); have c5 : w1.cell? ⟨w.heap.size + 1, 0, none⟩ = some (.int .i64 0) := (hb1.cell (p := ⟨w.heap.size + 1, 0, none⟩) (by show w.heap.size + 1 < _; omega)).trans (by simp); have f4 : w1.frozen? ⟨w.heap.size, 0, none⟩ = false := (hb1.frozen (p := ⟨w.heap.size, 0, none⟩) (by show w.heap.size < _; omega)).trans (by simp); have f5 : w1.frozen? ⟨w.heap.size + 1, 0, none⟩ = false := (hb1.frozen (p := ⟨w.heap.size + 1, 0, none⟩) (by show w.heap.size + 1 < _; omega)).trans (by simp); have HB1 : Hid (Below w.heap.size w w1) := ((((Below.refl _ w).alloc (Nat.le_refl _) _).alloc (by simp) _).trans (hb1.mono (by omega))); clear hb1 hsz))
    obtain ⟨q4, q5⟩ := cells_two (w := w1) (p := w.heap.size) (q := w.heap.size + 1) (u := .slice none 0 0) (v := .int .i64 1) (by omega) (by rw [c4]; rfl) (by rw [c5]; rfl)
    refine bodyPost_ret (v := .tuple #[.slice none 0 0, .int .i64 1]) (by simp [results, Try.results9, go_sem, q4, q5]) rfl ?_
    exact CtR.no HE.out (by omega) ((HB1.out.setCell (p := ⟨w.heap.size, 0, none⟩) (Nat.le_refl _) _).setCell (p := ⟨w.heap.size + 1, 0, none⟩) (Nat.le_succ _) _)
  · have hne : ((pg.length : Int) != (ned zs.length : Int)) = true := by simp; omega
    clear h hlen
    go_enter Try.func9, Try.ntmps9
    go_wp2_with (go_at_call 10; refine (HN.out _).mono ?_; rintro e w1 ⟨rfl, rfl⟩)
    refine bodyPost_ret (v := .tuple #[.slice none 0 0, .int .i64 1]) (by simp [results, Try.results9, go_sem]) rfl ?_
    exact CtR.no HE.out (by omega) (((Below.refl _ w).alloc (Nat.le_refl _) _).alloc (by simp) _)
end Go.Proofs.Ytbamdcjhcmogbaa.Oct.Chs
