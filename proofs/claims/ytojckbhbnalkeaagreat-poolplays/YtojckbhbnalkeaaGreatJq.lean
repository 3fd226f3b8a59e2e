/-
  Both pools' devices: outcomes, fuse, ops, image; what is known of a pool's frames.
-/
import Derived.Test.YtojckbhbnalkeaaGreatJp
import Derived.Test.YtojckbhbnalkeaaGreatIt
namespace Go.Proofs.YtojckbhbnalkeaaGreat.Oct
open Go.RowKit

section
variable {w : World} {p d q N : Nat} {F : Nat → Prop} {D : Dv} {L : List Fr}

theorem Pool.frames (h : Pool w p d F D N L) : (∀ f ∈ L, f.page < D.n ∧ f.ok) ∧ L.length ≤ N ∧ 8 ≤ N ∧ N ≤ 4096 ∧ D.ok := by
  obtain ⟨Fd, m, e, bs, fr, ol, nw, h, rfl⟩ := h
  refine ⟨fun f hf => ?_, by rw [List.length_map]; exact h.pool.len, h.pool.n8, h.pool.n4, h.dev.1⟩
  obtain ⟨g, hg, rfl⟩ := List.mem_map.1 hf
  exact ⟨h.pool.pg g hg, h.pool.ok g (List.mem_cons_of_mem _ hg)⟩

theorem Pool_out (h : Pool w p d F D N L) (a : Option Addr) (cap : Nat) (l : List Int) (hr : Row w a cap l) (hnil : a = none → cap = 0) (hsz : D.out.length + l.length ≤ 1000000) :
    Calls Tryz.prog 24 #[.pointer (some ⟨d, 0, none⟩), .slice a l.length cap] w fun e w' => e = .returned (.tuple #[]) ∧ ∃ F', Pool w' p d F' (outD D l) N L ∧ Step F F' w w' := by
  obtain ⟨Fd, m, e, bs, fr, ol, nw, h, rfl⟩ := h
  refine (outcomes_any h.dev a cap l hr hnil hsz).mono ?_
  rintro x w1 ⟨rfl, Fd', h1, st⟩
  have ht := h.turn h1 rfl st
  exact ⟨rfl, _, ⟨Fd', m, e, bs, fr, ol, nw, ht.1, rfl⟩, ht.2⟩

theorem fuseD_n' (D : Dv) (n : Int) : (fuseD D n).n = D.n := by unfold fuseD; split <;> rfl
theorem Pool_fuse (h : Pool w p d F D N L) (n : Int) (h1 : -9223372036854775808 ≤ n) (h2 : n ≤ 9223372036854775807) :
    Calls Tryz.prog 25 #[.pointer (some ⟨d, 0, none⟩), .int .i64 n] w fun e w' => e = .returned (.tuple #[]) ∧ ∃ F', Pool w' p d F' (fuseD D n) N L ∧ Step F F' w w' := by
  obtain ⟨Fd, m, e, bs, fr, ol, nw, h, rfl⟩ := h
  refine (fuse_any h.dev n h1 h2).mono ?_
  rintro x w1 ⟨rfl, h3, h4⟩
  have ht := h.turn h3 (fuseD_n' _ _) (Step.of h4)
  exact ⟨rfl, _, ⟨Fd, m, e, bs, fr, ol, nw, ht.1, rfl⟩, ht.2⟩

theorem Pool_ops (h : Pool w p d F D N L) : Calls Tryz.prog 34 #[.pointer (some ⟨d, 0, none⟩)] w fun e w' => e = .returned (.int .i64 D.ops) ∧ w = w' := by
  obtain ⟨Fd, m, e, bs, fr, ol, nw, h, rfl⟩ := h
  exact ops_any h.dev
theorem Pool_image (h : Pool w p d F D N L) : Calls Tryz.prog 35 #[.pointer (some ⟨d, 0, none⟩)] w fun e w' => ∃ g c, e = .returned (.slice (some ⟨g, 0, none⟩) D.now.length c) ∧ Own w.heap.size w' (.slice (some ⟨g, 0, none⟩) D.now.length c) D.now ∧ Below w.heap.size w w' := by
  obtain ⟨Fd, m, e, bs, fr, ol, nw, h, rfl⟩ := h
  exact image_any h.dev

theorem rarm_all (h : RP w p q F D N L) (n : Int) (h1 : -9223372036854775808 ≤ n) (h2 : n ≤ 9223372036854775807) :
    Calls Tryz.prog 26 #[.pointer (some ⟨q, 0, none⟩), .int .i64 n] w fun e w' => e = .returned (.tuple #[]) ∧ ∃ F', RP w' p q F' (fuseD D n) N L ∧ Step F F' w w' := by
  obtain ⟨hF, Fd, vL, K, h, rfl, hfo⟩ := h
  refine (rarm_any h.dev n h1 h2).mono ?_
  rintro e w1 ⟨rfl, h3, h4⟩
  exact ⟨rfl, F, ⟨fun k hk => Nat.lt_of_lt_of_le (hF k hk) h4.size, Fd, vL, K, h.step h3 (Step.of h4), rfl, hfo⟩, Step.of (h4.mono (Nat.le_refl _) (fun k _ e => hfo k (.inr (.inl e))))⟩
theorem rimg_all (h : RP w p q F D N L) : Calls Tryz.prog 36 #[.pointer (some ⟨q, 0, none⟩)] w fun e w' => ∃ g c, e = .returned (.slice (some ⟨g, 0, none⟩) D.now.length c) ∧ Own w.heap.size w' (.slice (some ⟨g, 0, none⟩) D.now.length c) D.now ∧ Below w.heap.size w w' := by
  obtain ⟨Fd, hd, -⟩ := h.dev
  exact rimg_any hd
theorem RP.opsAt (h : RP w p q F D N L) : w.cell? ⟨q, 5, none⟩ = some (.int .i64 D.ops) ∧ q < w.heap.size ∧ F q := by
  obtain ⟨Fd, hd, hf⟩ := h.dev
  exact ⟨hd.ops, hd.q.2, hf q hd.q.1⟩

/-- The document's outcomes, grown. -/
theorem RP.outed (h : RP w p q F D N L) (l : List Int) (ok : (outD D l).ok) :
    ∃ b0 n0 k0, w.cell? ⟨q, 3, none⟩ = some (.slice b0 n0 k0) ∧ w.frozen? ⟨q, 3, none⟩ = false ∧ OutAt w (.slice b0 n0 k0) D.out ∧ (Value.slice b0 n0 k0).ownBlock ≠ some q ∧ q < w.heap.size ∧
      ∀ (w2 : World) (v : Value), OutAt w2 v (D.out ++ l) → w.grownBy w2 (Value.slice b0 n0 k0).ownBlock → (∀ k, v.ownBlock = some k → (Value.slice b0 n0 k0).ownBlock = some k ∨ w.heap.size ≤ k) →
        ∃ F', RP (w2.setCell ⟨q, 3, none⟩ v) p q F' (outD D l) N L ∧ Step F F' w (w2.setCell ⟨q, 3, none⟩ v) := by
  obtain ⟨hF, Fd, vL, K, h, rfl, hfo⟩ := h
  obtain ⟨b0, n0, k0, c3, z3, hO, hqO, hq, _, hend⟩ := h.dev.outed l ok
  refine ⟨b0, n0, k0, c3, z3, hO, hqO, hq, fun w2 v h1 h2 h3 => ?_⟩
  obtain ⟨Fd', h4, st⟩ := hend w2 v h1 h2 h3
  refine RP.fin hF (h.step h4 st) (st.1.mono (Nat.le_refl _) (fun k _ e => hfo k (.inr (.inl e)))) (fun k hk => ?_)
  rcases hk with hk | hk | hk | hk
  · exact .inl (hfo k (.inl hk))
  · rcases st.2 k hk with e | e
    · exact .inl (hfo k (.inr (.inl e)))
    · exact .inr e
  · exact .inl (hfo k (.inr (.inr (.inl hk))))
  · exact .inl (hfo k (.inr (.inr (.inr hk))))
end
end Go.Proofs.YtojckbhbnalkeaaGreat.Oct

/-
  Both pools side by side; bounds.
-/
namespace Go.Proofs.YtojckbhbnalkeaaGreat.Oct
open Go.RowKit

theorem Pool.nd {w : World} {p d N : Nat} {F : Nat → Prop} {D : Dv} {L : List Fr} (h : Pool w p d F D N L) : (L.map (·.page)).Nodup := by
  obtain ⟨Fd, m, e, bs, fr, ol, nw, h, rfl⟩ := h
  have := h.pool.held.1
  unfold psOf at this
  rw [List.map_map] at this ⊢
  exact this

/-- How far a device may grow. -/
structure Bn (n : Nat) (D D' : Dv) : Prop where
  ops : D'.ops ≤ D.ops + n
  si : D'.since.length ≤ D.since.length + n
  ou : D'.out.length ≤ D.out.length
  n' : D'.n = D.n
theorem Bn.refl (D : Dv) : Bn 0 D D := ⟨by omega, by omega, Nat.le_refl _, rfl⟩
theorem Bn.trans {a b : Nat} {D D1 D2 : Dv} (h : Bn a D D1) (k : Bn b D1 D2) : Bn (a + b) D D2 := ⟨by have := h.ops; have := k.ops; omega, by have := h.si; have := k.si; omega, Nat.le_trans k.ou h.ou, k.n'.trans h.n'⟩
theorem Bn.mono {a b : Nat} {D D1 : Dv} (h : Bn a D D1) (k : a ≤ b) : Bn b D D1 := ⟨by have := h.ops; omega, by have := h.si; omega, h.ou, h.n'⟩
theorem opD_out (D : Dv) : (opD D).out.length ≤ D.out.length := by unfold opD; simp
theorem readD_bn (D : Dv) : Bn 1 D (readD D) := by
  have h := readD_ops D
  refine ⟨h.1, by rw [h.2]; omega, ?_, readD_n D⟩
  have := opD_out D
  unfold readD
  split
  · exact Nat.le_refl _
  · split
    · first | exact Nat.le_refl _ | exact this | (unfold dieD; exact Nat.le_refl _)
    · exact this
theorem writeD_bn (D : Dv) (pg : Nat) (b : List Int) : Bn 1 D (writeD D pg b) := by
  have h := writeD_ops D pg b
  refine ⟨h.1, h.2, ?_, writeD_n _ _ _⟩
  have := opD_out D
  unfold writeD
  repeat' split
  all_goals first | exact Nat.le_refl _ | exact this
theorem evD_bn (D : Dv) (f : Fr) : Bn 1 D (evD D f) := by
  unfold evD
  split
  · exact writeD_bn _ _ _
  · exact (Bn.refl D).mono (by omega)
theorem tkD_bn (D : Dv) (N : Nat) (L : List Fr) : Bn 1 D (tkD D N L) := by
  unfold tkD
  split
  · exact (Bn.refl D).mono (by omega)
  · split
    · exact evD_bn _ _
    · exact (Bn.refl D).mono (by omega)
theorem usD_bn (D : Dv) (N : Nat) (L : List Fr) (pg : Nat) (rd : Bool) : Bn 2 D (usD D N L pg rd) := by
  unfold usD
  split
  · exact (Bn.refl D).mono (by omega)
  · split
    · split
      · exact (tkD_bn D N L).trans (readD_bn _)
      · exact (tkD_bn D N L).mono (by omega)
    · exact (tkD_bn D N L).mono (by omega)
theorem flS_bn : ∀ (zs : List Int) (D : Dv) (L : List Fr), Bn zs.length D (flS zs D L).2.1
  | [], D, L => Bn.refl D
  | z :: r, D, L => by
    show Bn (r.length + 1) D (if saysD D = 0 then _ else _ : Int × Dv × List Fr).2.1
    split
    · exact ((writeD_bn _ _ _).trans (flS_bn r _ _)).mono (by omega)
    · exact (writeD_bn _ _ _).mono (by omega)
theorem evS_bn : ∀ (n : Nat) (D : Dv) (L : List Fr), Bn L.length D (evS n D L).2.1
  | 0, D, L => (Bn.refl D).mono (by omega)
  | n + 1, D, L => by
    show Bn L.length D (if nuP L 0 < L.length then _ else _ : Int × Dv × List Fr).2.1
    split
    · rename_i hn
      split
      · have h := evS_bn n (evD D (L.getD (nuP L 0) fr0)) (L.eraseIdx (nuP L 0))
        rw [List.length_eraseIdx_of_lt hn] at h
        exact ((evD_bn _ _).trans h).mono (by omega)
      · exact (evD_bn _ _).mono (by omega)
    · exact (Bn.refl D).mono (by omega)

/-- Pins that are no more than k. -/
def Pk (k : Nat) (L : List Fr) : Prop := ∀ f ∈ L, f.pins ≤ k
theorem Pk.mono {a b : Nat} {L : List Fr} (h : Pk a L) (k : a ≤ b) : Pk b L := fun f hf => Nat.le_trans (h f hf) k
theorem Pk.erase {a i : Nat} {L : List Fr} (h : Pk a L) : Pk a (L.eraseIdx i) := fun f hf => h f (List.mem_of_mem_eraseIdx hf)
theorem Pk.at {a i : Nat} {L : List Fr} (h : Pk a L) (hi : i < L.length) : (L.getD i fr0).pins ≤ a := h _ (getD_memF hi)
theorem Pk.snoc {a : Nat} {L : List Fr} {f : Fr} (h : Pk a L) (hf : f.pins ≤ a) : Pk a (L ++ [f]) := fun g hg => by
  rcases List.mem_append.1 hg with hg | hg
  · exact h g hg
  · simp at hg; rw [hg]; exact hf
theorem Pk.set {a i : Nat} {L : List Fr} {f : Fr} (h : Pk a L) (hf : f.pins ≤ a) : Pk a (L.set i f) := fun g hg => by
  rcases List.mem_or_eq_of_mem_set hg with hg | hg
  · exact h g hg
  · rw [hg]; exact hf
theorem tkL_pk {a N : Nat} {D : Dv} {L : List Fr} (h : Pk a L) : Pk a (tkL D N L) := by
  unfold tkL
  split
  · exact h
  · split
    · split
      · exact h.erase
      · exact h
    · exact h
theorem usL_pk {a N pg : Nat} {rd : Bool} {D : Dv} {L : List Fr} (h : Pk a L) : Pk a (usL D N L pg rd) := by
  unfold usL
  split
  · rename_i hf
    exact h.erase.snoc (h.at hf)
  · split
    · exact (tkL_pk h).snoc (Nat.zero_le _)
    · exact tkL_pk h
theorem lastUp_pk {a b : Nat} {L : List Fr} {g : Fr → Fr} (h : Pk a L) (hg : ∀ f, f.pins ≤ a → (g f).pins ≤ b) (hab : a ≤ b) : Pk b (lastUp L g) := by
  unfold lastUp
  refine Pk.snoc (fun f hf => Nat.le_trans (h f ((List.dropLast_sublist L).subset hf)) hab) (hg _ ?_)
  cases L with
  | nil => show fr0.pins ≤ a; exact Nat.zero_le _
  | cons x r =>
    rw [List.getLastD_cons]
    exact h _ (by rw [List.getLastD_eq_getLast?]; exact (by cases r with | nil => simp | cons y t => exact List.mem_cons_of_mem _ (by rw [List.getLast?_eq_some_getLast (by simp)]; exact List.getLast_mem _)))
theorem pnL_pk {a N pg : Nat} {D : Dv} {L : List Fr} (h : Pk a L) : Pk (a + 1) (pnL D N L pg) := by
  unfold pnL
  split
  · exact lastUp_pk (usL_pk h) (fun f hf => by show f.pins + 1 ≤ _; omega) (by omega)
  · exact (usL_pk h).mono (by omega)
theorem ptL_pk {a N pg : Nat} {b : List Int} {D : Dv} {L : List Fr} (h : Pk a L) : Pk a (ptL D N L pg b) := by
  unfold ptL
  split
  · exact lastUp_pk (usL_pk h) (fun f hf => hf) (Nat.le_refl _)
  · exact usL_pk h
theorem unL_pk {a : Nat} {pg : Int} {L : List Fr} (h : Pk a L) : Pk a (unL L pg) := by
  unfold unL
  split
  · rename_i hb
    refine h.set ?_
    show (L.getD (fiP L pg) fr0).pins - 1 ≤ a
    unfold pinB at hb
    rw [Bool.and_eq_true] at hb
    have := h.at (of_decide_eq_true hb.1)
    omega
  · exact h
theorem fgL_pk {a : Nat} {pg : Int} {L : List Fr} (h : Pk a L) : Pk a (fgL L pg) := by
  unfold fgL
  split
  · exact h.erase
  · exact h
theorem flS_pk {a : Nat} : ∀ (zs : List Int) {D : Dv} {L : List Fr}, Pk a L → Pk a (flS zs D L).2.2
  | [], D, L, h => h
  | z :: r, D, L, h => by
    show Pk a (if saysD D = 0 then _ else _ : Int × Dv × List Fr).2.2
    split
    · refine flS_pk r (h.set ?_)
      show (L.getD (fiP L z) fr0).pins ≤ a
      by_cases hi : fiP L z < L.length
      · exact h.at hi
      · rw [List.getD_eq_getElem?_getD, List.getElem?_eq_none (by omega)]; exact Nat.zero_le _
    · exact h
theorem evS_pk {a : Nat} : ∀ (n : Nat) {D : Dv} {L : List Fr}, Pk a L → Pk a (evS n D L).2.2
  | 0, D, L, h => h
  | n + 1, D, L, h => by
    show Pk a (if nuP L 0 < L.length then _ else _ : Int × Dv × List Fr).2.2
    split
    · split
      · exact evS_pk n h.erase
      · exact h
    · exact h
end Go.Proofs.YtojckbhbnalkeaaGreat.Oct

/-
  Both pools side by side, in memory.
-/
namespace Go.Proofs.YtojckbhbnalkeaaGreat.Oct
open Go.RowKit

/-- Behind k deeds. -/
structure Pp (w wr : World) (p d q m : Nat) (F G : Nat → Prop) (D : Dv) (N : Nat) (L : List Fr) (k : Nat) : Prop where
  a : Pool wr p d F D N L
  b : RP wr q m G D N L
  lF : ∀ x, F x → w.heap.size ≤ x
  lG : ∀ x, G x → w.heap.size ≤ x
  far : ∀ x, F x → ¬ G x
  bel : Below w.heap.size w wr
  ops : D.ops ≤ k * 4200
  si : D.since.length ≤ k * 4200
  ou : D.out.length ≤ k * 100
  pk : Pk k L
  n20 : D.n = 20

section
variable {w wr w2 w3 : World} {p d q m : Nat} {F F' G G' : Nat → Prop} {D D' : Dv} {N : Nat} {L L' : List Fr} {k : Nat}

theorem Pp.below (h : Pp w wr p d q m F G D N L k) (hb : Below wr.heap.size wr w2) : Pp w w2 p d q m F G D N L k :=
  { h with a := h.a.below hb, b := h.b.below hb, bel := h.bel.trans (hb.mono h.bel.size) }
theorem Pp.next (h : Pp w wr p d q m F G D N L k) : Pp w wr p d q m F G D N L (k + 1) :=
  { h with ops := Nat.le_trans h.ops (Nat.mul_le_mul_right _ (Nat.le_succ k)), si := Nat.le_trans h.si (Nat.mul_le_mul_right _ (Nat.le_succ k)), ou := Nat.le_trans h.ou (Nat.mul_le_mul_right _ (Nat.le_succ k)), pk := h.pk.mono (Nat.le_succ k) }
/-- The other one, once the one has turned. -/
theorem Pp.mid (h : Pp w wr p d q m F G D N L k) (hs : Step F F' wr w2) : RP w2 q m G D N L := h.b.ch hs.1 (fun x hg hf => h.far x hf hg)

/-- Both have turned. -/
theorem Pp.both (h : Pp w wr p d q m F G D N L k) (ha : Pool w2 p d F' D' N L') (s1 : Step F F' wr w2) (hb : RP w3 q m G' D' N L') (s2 : Step G G' w2 w3) (ho : D'.ops ≤ D.ops + 4200) (hs : D'.since.length ≤ D.since.length + 4200) (hu : D'.out.length ≤ D.out.length + 100) (hn : D'.n = D.n) (hp : Pk (k + 1) L') : Pp w w3 p d q m F' G' D' N L' (k + 1) := by
  have z0 := h.bel.size
  have z1 := s1.1.size
  have z2 := s2.1.size
  have fF := h.a.lt
  have fG := h.b.1
  have fF' := ha.lt
  obtain ⟨b1, l1⟩ := s1.below z0 h.lF
  have bel2 := h.bel.trans b1
  obtain ⟨b2, l2⟩ := s2.below bel2.size h.lG
  have d1 : ∀ x, F' x → ¬ G x := fun x hx hg => by
    rcases s1.2 x hx with e | e
    · exact h.far x e hg
    · have := fG x hg; omega
  refine ⟨ha.ch s2.1 d1, hb, l1, l2, fun x hx hg => ?_, bel2.trans b2, by have := h.ops; omega, by have := h.si; omega, by have := h.ou; omega, hp, hn.trans h.n20⟩
  rcases s2.2 x hg with e | e
  · exact d1 x hx e
  · have := fF' x hx; omega
end
end Go.Proofs.YtojckbhbnalkeaaGreat.Oct
