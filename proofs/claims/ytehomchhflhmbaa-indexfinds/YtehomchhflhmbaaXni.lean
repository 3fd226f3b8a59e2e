/-
  The landed index's helpers: the part ahead; bytes 10 put behind; a row put behind, moved.
-/
import Derived.Test.YtehomchhflhmbaaXnh
namespace Go.Proofs.Ytehomchhflhmbaa.Oct
open Go.RowKit

/-- What a row's own block is, or that it is new. -/
def Mine (w : World) (v v' : Value) : Prop := ∀ g, v'.ownBlock = some g → v.ownBlock = some g ∨ w.heap.size ≤ g

theorem OwI.cut {base : Nat} {w : World} {g n cap : Nat} {L : List Int} (h : OwI base w (.slice (some ⟨g, 0, none⟩) n cap) L) (r : Nat) (hr : r ≤ L.length) : OwI base w (.slice (some ⟨g, 0, none⟩) r r) (L.take r) := by
  rcases h with ⟨h, _⟩ | ⟨g', cap', cur, e, hb, hg, h1, h2, h3, h4⟩
  · exact absurd h (by simp)
  · simp only [Value.slice.injEq, Option.some.injEq, Addr.mk.injEq, and_true] at e
    obtain ⟨rfl, rfl, rfl⟩ := e
    refine .inr ⟨g, r, cur, ?_, hb, hg, ?_, by omega, by omega, ?_⟩
    · rw [List.length_take, Nat.min_eq_left hr]
    · rw [List.length_take]; omega
    · rw [List.length_take, Nat.min_eq_left hr, List.map_take, ← h4, List.take_take, Nat.min_eq_left hr]

set_option maxHeartbeats 1000000 in
theorem ahead_any {base : Nat} {w : World} {v : Value} {L : List Int} (h : OwI base w v L) (hp : L.Pairwise (· < ·)) (hl : L.length ≤ 1000000) (hv : ∀ z ∈ L, 0 ≤ z ∧ z ≤ 2000000) (t : Int) (ht : -9223372036854775808 ≤ t ∧ t ≤ 9223372036854775807) :
    Calls Try.prog 23 #[v, .int .i64 t] w fun e w' => ∃ (r : Nat) (v' : Value), e = .returned v' ∧ OwI base w v' (L.take r) ∧ r ≤ L.length ∧ (∀ i, i < r → L.getD i 0 ≤ t) ∧ (∀ i, r ≤ i → i < L.length → t < L.getD i 0) ∧ (∀ g, v'.ownBlock = some g → v.ownBlock = some g) ∧ Full v' ∧ w' = w := by
  obtain ⟨a, cap, rfl, hr⟩ := h.row
  have hu := upTo_any hr hp hl _ rfl t ht (fun z hz => by have := hv z hz; omega)
  have h1 := hr.1
  have h2 := hr.2.1
  unfold maxLen at h2
  have HO : Hid (OwI base w (.slice a L.length cap) L) := h
  rcases h with ⟨e, rfl⟩ | ⟨g, cap', cur, e, hb, hg, _⟩
  · simp only [Value.slice.injEq] at e
    obtain ⟨rfl, -, rfl⟩ := e
    clear hr hp hl hv h1 h2
    go_enter Try.func23, Try.ntmps23
    go_wp2_with (first
      | (go_at_call 22; refine hu.mono ?_; clear hu; rintro e w1 ⟨r, rfl, hr1, -, -, rfl⟩
         have e0 : r = 0 := by simpa using hr1
         subst e0))
    go_ret
    exact ⟨0, _, rfl, HO.out, Nat.le_refl _, fun i hi => absurd hi (Nat.not_lt_zero _), fun i h1 h2 => absurd h2 (by simp), fun g hg => hg, .inl rfl, rfl⟩
  · simp only [Value.slice.injEq] at e
    obtain ⟨rfl, -, rfl⟩ := e
    have HG : Hid _ := hg
    clear hr hp hl hv hg
    obtain ⟨n, hn⟩ : ∃ n, L.length = n := ⟨_, rfl⟩
    rw [hn] at hu h1 HO ⊢
    go_enter Try.func23, Try.ntmps23
    go_wp2_with (first
      | (go_at_call 22; refine hu.mono ?_; clear hu; rintro e w1 ⟨r, rfl, hr1, hr2, hr3, rfl⟩
         have H2 : Hid _ := hr2
         have H3 : Hid _ := hr3
         clear hr2 hr3))
    go_ret
    exact ⟨r, _, rfl, HO.out.cut r (by omega), hr1, H2.out, H3.out, fun g hg => hg, .inr ⟨_, _, rfl⟩, rfl⟩

theorem endsF_snoc (o : Int) (zs : List Int) (k : Nat) (hk : k < zs.length) : endsF o (zs.take (k + 1)) = endsF o (zs.take k) ++ (if zs.getD k 0 = 10 then [o + k + 1] else []) := by
  rw [take_snoc zs k hk, endsF_app, List.length_take, Nat.min_eq_left (by omega), endsF_cons]
  split <;> rfl

theorem owI_step {w wr w1 : World} {v v0 v' : Value} {o : Obj} (hB : w.heap.size ≤ wr.heap.size) (hm : Mine w v0 v)
    (hch : Ch w.heap.size (fun k => v0.ownBlock = some k) w wr) (hgrow : (wr.alloc o).grownBy w1 v.ownBlock)
    (hlt : ∀ g, v'.ownBlock = some g → v.ownBlock = some g ∨ wr.heap.size + 1 ≤ g) :
    Ch w.heap.size (fun k => v0.ownBlock = some k) w w1 ∧ Mine w v0 v' := by
  have hs : wr.heap.size ≤ (wr.alloc o).heap.size := by simp
  refine ⟨(hch.alloc hB o).grown hgrow (by omega) (fun k hk => (hm k hk).symm), fun g hg => ?_⟩
  rcases hlt g hg with h | h
  · exact hm g h
  · exact .inr (by omega)
end Go.Proofs.Ytehomchhflhmbaa.Oct
