/-
  The landed chain: whether pages may be those of a chain.
-/
import Derived.Test.YtbamdcjhcmogbaaKp
namespace Go.Proofs.Ytbamdcjhcmogbaa.Oct.Chs
open Go.RowKit

set_option maxRecDepth 100000 in
theorem zero62 (w : World) : (zeroValue 62).run Try.prog w = .ok (.agg (Array.replicate 4096 (.bool false))) w := by kernel_rfl
theorem zero62' : ∃ cs : Array Value, (∀ w, (zeroValue 62).run Try.prog w = .ok (.agg cs) w) ∧ cs.size = 4096 ∧ ∀ i, i < 4096 → cs[i]? = some (.bool false) :=
  ⟨_, zero62, Array.size_replicate, fun i hi => by rw [Array.getElem?_replicate, if_pos hi]⟩

/-- The numbers that were met, in a block of their own. -/
def Tk (T : Nat) (w : World) (S : Nat → Bool) : Prop := ∃ cur : Array Value, w.heap[T]? = some (.cells cur 62 (0, 0)) ∧ cur.size = 4096 ∧ ∀ i, i < 4096 → cur[i]? = some (.bool (S i))
theorem Tk.cell {T : Nat} {w : World} {S : Nat → Bool} (h : Tk T w S) (i : Nat) (hi : i < 4096) : w.cell? ⟨T, i, none⟩ = some (.bool (S i)) := by
  obtain ⟨cur, h1, h2, h3⟩ := h
  simp [World.cell?, h1, h3 i hi]
theorem Tk.frozen {T : Nat} {w : World} {S : Nat → Bool} (h : Tk T w S) (i : Nat) : w.frozen? ⟨T, i, none⟩ = false := by
  obtain ⟨cur, h1, h2, h3⟩ := h
  simp [World.frozen?, h1]
theorem Tk.set {T : Nat} {w : World} {S S' : Nat → Bool} (h : Tk T w S) (n : Nat) (hs : ∀ i, S' i = if i = n then true else S i) : Tk T (w.setCell ⟨T, n, none⟩ (.bool true)) S' := by
  obtain ⟨cur, h1, h2, h3⟩ := h
  refine ⟨_, setCell_heap w T n _ cur _ _ h1, by simp [h2], fun i hi => ?_⟩
  rw [hs, Array.getElem?_setIfInBounds]
  by_cases e : i = n
  · subst e
    rw [if_pos rfl, if_pos rfl, if_pos (by omega)]
  · rw [if_neg (fun x => e x.symm), if_neg e]
    exact h3 i hi
theorem Tk.new {w : World} {cs : Array Value} (h2 : cs.size = 4096) (h3 : ∀ i, i < 4096 → cs[i]? = some (.bool false)) : Tk w.heap.size (w.alloc (.cells cs 62)) (fun _ => false) := ⟨cs, heap_alloc_new w _, h2, h3⟩

/-- Which numbers stand among the first k. -/
def metB (pg : List Int) (k i : Nat) : Bool := decide (∃ j, j < k ∧ pg.getD j 0 = i)
theorem metB_zero (pg : List Int) (i : Nat) : metB pg 0 i = false := decide_eq_false fun ⟨j, h, _⟩ => by omega
theorem metB_succ (pg : List Int) (k n : Nat) (h : pg.getD k 0 = n) (i : Nat) : metB pg (k + 1) i = if i = n then true else metB pg k i := by
  unfold metB
  by_cases e : i = n
  · subst e
    rw [if_pos rfl]
    exact decide_eq_true ⟨k, by omega, h⟩
  · rw [if_neg e]
    congr 1
    apply propext
    constructor
    · rintro ⟨j, hj, hh⟩
      refine ⟨j, ?_, hh⟩
      by_cases ej : j = k
      · subst ej; omega
      · omega
    · exact fun ⟨j, hj, hh⟩ => ⟨j, by omega, hh⟩

set_option maxHeartbeats 1000000 in
theorem mayHold_v (pa : Option Addr) (pcap : Nat) (pg : List Int) (w : World) (hp : RowI w pa pcap pg) (V : Bool) (hV : ctB pg = V) :
    Calls Try.prog 17 #[.slice pa pg.length pcap] w fun e w' => e = .returned (.bool V) ∧ Below w.heap.size w w' := by
  have hpl : pg.length ≤ maxLen := Nat.le_trans hp.1 hp.2.1
  unfold maxLen at hpl
  have HP : Hid (RowI w pa pcap pg) := hp
  obtain ⟨cs, z1, z2, z3⟩ := zero62'
  have z0 := z1 w
  have HT : Hid (Tk w.heap.size (w.alloc (.cells cs 62)) (fun _ => false)) := Tk.new z2 z3
  clear hp z1 z2 z3
  have HNo : Hid (∀ k, k < pg.length → (¬ (2 ≤ pg.getD k 0 ∧ pg.getD k 0 < 4096) ∨ ∃ j, j < k ∧ pg.getD j 0 = pg.getD k 0) → V = false) := fun k hk hh => by
    rw [← hV]
    cases hB : ctB pg
    · rfl
    · have := ctB_iff.1 hB k hk
      rcases hh with hh | ⟨j, hj, hh⟩
      · exact absurd this.1 hh
      · exact absurd hh (this.2 j hj)
  have HYes : Hid (ctUp pg pg.length → V = true) := fun hh => by rw [← hV]; exact ctB_iff.2 hh
  clear hV
  go_enter Try.func17, Try.ntmps17
  go_wp2_with fail
  go_loopw [8] (fun i wr => ∃ k : Nat, k ≤ pg.length ∧ i = .int .i64 k ∧ Hid (ctUp pg k ∧ Below w.heap.size w wr ∧ Tk w.heap.size wr (metB pg k))) (fun i _ => pg.length - (intOf i).toNat)
  case atStart => exact ⟨0, Nat.zero_le _, rfl, (by show _ ∧ _; exact ⟨fun i hi => by omega, (Below.refl _ _).alloc (Nat.le_refl _) _, by rw [show metB pg 0 = fun _ => false from funext (metB_zero pg)]; exact HT.out⟩)⟩
  case round =>
    clear HT z0
    obtain ⟨k, hk, rfl, HI⟩ := hrel
    by_cases hlt : k < pg.length
    · obtain ⟨pb, po, rfl, c1⟩ := (HP.out.below HI.out.2.1).at' k hlt
      obtain ⟨z, hz⟩ : ∃ z, pg.getD k 0 = z := ⟨_, rfl⟩
      have HZ : Hid (pg.getD k 0 = z) := hz
      rw [hz] at c1
      clear hz
      by_cases h2 : 2 ≤ z ∧ z ≤ 4095
      · obtain ⟨n, rfl⟩ := Int.eq_ofNat_of_zero_le (show 0 ≤ z by omega)
        have cw := fun w => within_v n 2 4095 true (decide_eq_true h2) w
        have hn2 : 2 ≤ n := by omega
        have hn4 : n < 4096 := by omega
        have c2 := HI.out.2.2.cell n hn4
        have c3 := HI.out.2.2.frozen n
        cases hm : metB pg k n
        · rw [hm] at c2
          have HM : Hid (metB pg k n = false) := hm
          clear h2 hm
          go_wp2_with (go_at_call 29; refine (cw _).mono ?_; rintro e w1 ⟨rfl, rfl⟩)
          go_roundw
          case rel =>
            have hup : ctUp pg (k + 1) := fun x hx => by
              rcases Nat.lt_succ_iff_lt_or_eq.1 hx with h | rfl
              · exact HI.out.1 x h
              · rw [HZ.out]
                exact ⟨⟨by omega, by omega⟩, fun j hj e => of_decide_eq_false HM.out ⟨j, hj, e⟩⟩
            exact ⟨k + 1, by omega, by go_num, (by show _ ∧ _ ∧ _; exact ⟨hup, HI.out.2.1.setCell (p := ⟨w.heap.size, n, none⟩) (Nat.le_refl _) _, HI.out.2.2.set n (metB_succ pg k n HZ.out)⟩)⟩
          case measure => simp [intOf]; omega
        · rw [hm] at c2
          have e : V = false := HNo.out k hlt (.inr (by obtain ⟨j, h1, h2⟩ := of_decide_eq_true hm; exact ⟨j, h1, by rw [HZ.out]; exact h2⟩))
          subst e
          clear h2 hm
          go_wp2_with (go_at_call 29; refine (cw _).mono ?_; rintro e w1 ⟨rfl, rfl⟩)
          go_ret
          exact ⟨rfl, HI.out.2.1⟩
      · have cw := fun w => within_v z 2 4095 false (decide_eq_false h2) w
        have e : V = false := HNo.out k hlt (.inl (by rw [HZ.out]; omega))
        subst e
        clear h2
        go_wp2_with (go_at_call 29; refine (cw _).mono ?_; rintro e w1 ⟨rfl, rfl⟩)
        go_ret
        exact ⟨rfl, HI.out.2.1⟩
    · have hk' : k = pg.length := by omega
      subst hk'
      have e : V = true := HYes.out HI.out.1
      subst e
      go_wp2
      go_ret
      exact ⟨rfl, HI.out.2.1⟩
end Go.Proofs.Ytbamdcjhcmogbaa.Oct.Chs
