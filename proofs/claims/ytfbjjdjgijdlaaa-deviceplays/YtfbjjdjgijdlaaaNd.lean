/-
  The document's Load.
-/
import Derived.Test.YtfbjjdjgijdlaaaNc
namespace Go.Proofs.Ytfbjjdjgijdlaaa.Oct
open Go.RowKit

/-- Copy of a page, also behind a draw. -/
theorem copy_page (a : Option Addr) (cap : Nat) (zs : List Int) (w : World) (h : Row w a cap zs) (hl : zs.length = 256) :
    Calls Try.prog 48 #[.slice a 256 cap] w fun e w' => ∃ g c, e = .returned (.slice (some ⟨g, 0, none⟩) 256 c) ∧ Own w.heap.size w' (.slice (some ⟨g, 0, none⟩) 256 c) zs ∧ Below w.heap.size w w' := by
  have := copy_any a cap zs w h (by omega)
  rw [hl] at this
  refine this.mono ?_
  rintro e w' ⟨v, rfl, ho, hb⟩
  obtain ⟨g, c, rfl, _, _⟩ := ho.form (by omega)
  rw [hl] at ho ⊢
  exact ⟨g, c, rfl, ho, hb⟩
theorem copy_drew (a : Option Addr) (cap : Nat) (zs : List Int) (w : World) (h : Row w a cap zs) (hl : zs.length = 256) :
    Calls Try.prog 48 #[.slice a 256 cap] w.drew fun e w' => ∃ g c, e = .returned (.slice (some ⟨g, 0, none⟩) 256 c) ∧ Own w.heap.size w' (.slice (some ⟨g, 0, none⟩) 256 c) zs ∧ Below w.heap.size w w' :=
  (copy_page a cap zs w.drew h hl).mono (fun e w' h => by
    obtain ⟨g, c, h1, h2, h3⟩ := h
    exact ⟨g, c, h1, h2, ⟨h3.os, h3.tape, h3.output, h3.size, h3.block⟩⟩)

theorem Rf.set1 {w wr : World} {q k1 k2 j g c gA cA : Nat} {v2 : Value} {s1 s2 : List Value} {f1 f2 f' : Nat → List Int} (h : Rf w wr q k1 k2 (.slice (some ⟨gA, 0, none⟩) k1 cA) v2 s1 s2 f1 f2) (hj : j < k1)
    (ho : Own 0 wr (.slice (some ⟨g, 0, none⟩) 256 c) (f' j)) (hg : ¬ (g = q ∨ gA = g ∨ v2.ownBlock = some g)) (hl : w.heap.size ≤ g) (hz : ∀ i, i < k1 → i ≠ j → f' i = f1 i) :
    Rf w (wr.setCell ⟨gA, j, none⟩ (.slice (some ⟨g, 0, none⟩) 256 c)) q k1 k2 (.slice (some ⟨gA, 0, none⟩) k1 cA) v2 (s1.set j (.slice (some ⟨g, 0, none⟩) 256 c)) s2 f' f2 := by
  have hst := World.ownsRow.stored h.o1 j (.slice (some ⟨g, 0, none⟩) 256 c)
  have hqA : q ≠ gA := fun e => h.n1 (by simp [Value.ownBlock]; exact e.symm)
  have k3 : ∀ b, b ≠ gA → (wr.setCell ⟨gA, j, none⟩ (.slice (some ⟨g, 0, none⟩) 256 c)).heap[b]? = wr.heap[b]? := fun b hb => Below.heap_setCell wr ⟨gA, j, none⟩ _ b hb
  have hM : ∀ b, ¬ (b = q ∨ (Value.slice (some ⟨gA, 0, none⟩) k1 cA).ownBlock = some b ∨ v2.ownBlock = some b) → b ≠ gA := fun b hb e => hb (.inr (.inl (by rw [e]; rfl)))
  have pk : ∀ {s : List Value} {k : Nat} {f : Nat → List Int}, Pgs wr (fun b => b = q ∨ (Value.slice (some ⟨gA, 0, none⟩) k1 cA).ownBlock = some b ∨ v2.ownBlock = some b) w.heap.size s k f → Pgs (wr.setCell ⟨gA, j, none⟩ (.slice (some ⟨g, 0, none⟩) 256 c)) (fun b => b = q ∨ (Value.slice (some ⟨gA, 0, none⟩) k1 cA).ownBlock = some b ∨ v2.ownBlock = some b) w.heap.size s k f := fun hp => hp.keep (fun b _ hm => k3 b (hM b hm))
  have hgA : g ≠ gA := fun e => hg (.inr (.inl e.symm))
  exact { h with
    cells := (k3 q hqA).trans h.cells
    o1 := hst.1
    o2 := owns_keep h.o2 (fun b hb => k3 b (fun e => h.n12 gA rfl (e ▸ hb)))
    p1 := (pk h.p1).set (by have := h.o1.1; omega) hj (ho.kept (k3 g hgA)) (fun e => hg (by rcases e with e | e | e; exact .inl e; simp [Value.ownBlock] at e; exact .inr (.inl e); exact .inr (.inr e))) hl hz
    p2 := pk h.p2
    bel := h.bel.setCell (p := ⟨gA, j, none⟩) (h.l1 gA rfl) _ }

theorem Rf.set2 {w wr : World} {q k1 k2 j g c gA cA : Nat} {v1 : Value} {s1 s2 : List Value} {f1 f2 f' : Nat → List Int} (h : Rf w wr q k1 k2 v1 (.slice (some ⟨gA, 0, none⟩) k2 cA) s1 s2 f1 f2) (hj : j < k2)
    (ho : Own 0 wr (.slice (some ⟨g, 0, none⟩) 256 c) (f' j)) (hg : ¬ (g = q ∨ gA = g ∨ v1.ownBlock = some g)) (hl : w.heap.size ≤ g) (hz : ∀ i, i < k2 → i ≠ j → f' i = f2 i) :
    Rf w (wr.setCell ⟨gA, j, none⟩ (.slice (some ⟨g, 0, none⟩) 256 c)) q k1 k2 v1 (.slice (some ⟨gA, 0, none⟩) k2 cA) s1 (s2.set j (.slice (some ⟨g, 0, none⟩) 256 c)) f1 f' := by
  have hst := World.ownsRow.stored h.o2 j (.slice (some ⟨g, 0, none⟩) 256 c)
  have hqA : q ≠ gA := fun e => h.n2 (by simp [Value.ownBlock]; exact e.symm)
  have k3 : ∀ b, b ≠ gA → (wr.setCell ⟨gA, j, none⟩ (.slice (some ⟨g, 0, none⟩) 256 c)).heap[b]? = wr.heap[b]? := fun b hb => Below.heap_setCell wr ⟨gA, j, none⟩ _ b hb
  have hM : ∀ b, ¬ (b = q ∨ v1.ownBlock = some b ∨ (Value.slice (some ⟨gA, 0, none⟩) k2 cA).ownBlock = some b) → b ≠ gA := fun b hb e => hb (.inr (.inr (by rw [e]; rfl)))
  have pk : ∀ {s : List Value} {k : Nat} {f : Nat → List Int}, Pgs wr (fun b => b = q ∨ v1.ownBlock = some b ∨ (Value.slice (some ⟨gA, 0, none⟩) k2 cA).ownBlock = some b) w.heap.size s k f → Pgs (wr.setCell ⟨gA, j, none⟩ (.slice (some ⟨g, 0, none⟩) 256 c)) (fun b => b = q ∨ v1.ownBlock = some b ∨ (Value.slice (some ⟨gA, 0, none⟩) k2 cA).ownBlock = some b) w.heap.size s k f := fun hp => hp.keep (fun b _ hm => k3 b (hM b hm))
  have hgA : g ≠ gA := fun e => hg (.inr (.inl e.symm))
  exact { h with
    cells := (k3 q hqA).trans h.cells
    o2 := hst.1
    o1 := owns_keep h.o1 (fun b hb => k3 b (fun e => h.n12 gA (e ▸ hb) rfl))
    p2 := (pk h.p2).set (by have := h.o2.1; omega) hj (ho.kept (k3 g hgA)) (fun e => hg (by rcases e with e | e | e; exact .inl e; exact .inr (.inr e); simp [Value.ownBlock] at e; exact .inr (.inl e))) hl hz
    p1 := pk h.p1
    bel := h.bel.setCell (p := ⟨gA, j, none⟩) (h.l2 gA rfl) _ }

/-- Pages up to k are those of L, the rest noughts. -/
def upto (L : List Int) (k i : Nat) : List Int := if i < k then pageOf L i else List.replicate 256 0

theorem rload_no (a : Option Addr) (n cap : Nat) (w : World) (hn : n ≤ 100000) (h : (decide (n % 256 = 0) && aB ((n / 256 : Nat) : Int)) = false) :
    Calls Try.prog 34 #[.slice a n cap] w fun e w' => e = .returned (.tuple #[.pointer none, .int .i64 1]) ∧ Below w.heap.size w w' := by
  obtain ⟨m, hm⟩ : ∃ m, n / 256 = m := ⟨_, rfl⟩
  have e2 : ((n : Int) / 256) = (m : Int) := by omega
  rw [hm] at h
  cases ha : aB m with
  | false =>
    have c := rnew_no m w ha
    clear h hm ha
    go_enter Try.func34, Try.ntmps34
    go_wp2_with fail
    refine c.mono ?_
    rintro e w' ⟨rfl, rfl⟩
    go_wp2
    go_ret2
    exact ⟨rfl, Below.refl _ _⟩
  | true =>
    have h1 : ¬ n % 256 = 0 := by intro e; rw [ha] at h; simp [e] at h
    have e1 : ¬ ((n : Int) % 256) = 0 := by omega
    have hb : 8 ≤ m ∧ m ≤ 4096 := by simp [aB] at ha; omega
    have c := rnew_yes m w hb.1 hb.2
    clear h hm ha h1
    go_enter Try.func34, Try.ntmps34
    go_wp2_with fail
    refine c.mono ?_
    rintro e w' ⟨q, v1, v2, s1, s2, rfl, hR⟩
    have HB : Hid (Below w.heap.size w w') := hR.bel
    clear hR c
    go_wp2
    go_ret2
    exact ⟨rfl, HB.out⟩

set_option maxRecDepth 20000 in
set_option maxHeartbeats 4000000 in
theorem rload_yes (rb ro cap : Nat) (L : List Int) (w : World) (hr : Row w (some ⟨rb, ro, none⟩) cap L) (n : Nat) (hL : L.length = n * 256) (h8 : 8 ≤ n) (h4 : n ≤ 4096) :
    Calls Try.prog 34 #[.slice (some ⟨rb, ro, none⟩) L.length cap] w fun e w' => ∃ q v1 v2 s1 s2, e = .returned (.tuple #[.pointer (some ⟨q, 0, none⟩), .int .i64 0]) ∧ Rf w w' q n n v1 v2 s1 s2 (pageOf L) (pageOf L) := by
  have c := rnew_yes n w h8 h4
  obtain ⟨N, hN⟩ : ∃ N, L.length = N := ⟨_, rfl⟩
  have hcap := hr.2.1
  have hcm := hr.2.2.1
  unfold maxLen at hcm
  rw [hN] at hcap ⊢
  have e1 : ((N : Int) % 256) = 0 := by omega
  have e2 : ((N : Int) / 256) = n := by omega
  have hN4 : N ≤ 1048576 := by omega
  have HL : Hid (L.length = n * 256) := hL
  have HNN : Hid (N = n * 256) := by show _ = _; omega
  have HRow : Hid (Row w (some ⟨rb, ro, none⟩) cap L) := hr
  clear hL hr hN
  go_enter Try.func34, Try.ntmps34
  go_wp2_with fail
  refine c.mono ?_
  clear c
  rintro e w1 ⟨q, v1, v2, s1, s2, rfl, hR⟩
  have HR0 : Hid (∃ v1 v2 s1 s2, Rf w w1 q n n v1 v2 s1 s2 (upto L 0) (upto L 0)) := by
    refine ⟨v1, v2, s1, s2, ?_⟩
    have : upto L 0 = fun _ => List.replicate 256 0 := by funext i; simp [upto]
    rw [this]
    exact hR
  clear hR
  go_wp2
  go_loopw [6] (fun i wr => ∃ k : Nat, k ≤ n ∧ i = .int .i64 k ∧ ∃ v1 v2 s1 s2, Rf w wr q n n v1 v2 s1 s2 (upto L k) (upto L k)) (fun i _ => n - (intOf i).toNat)
  case atStart => exact ⟨0, Nat.zero_le _, rfl, HR0.out⟩
  case round =>
    clear HR0 v1 v2 s1 s2 e1
    obtain ⟨k, hk, rfl, v1, v2, s1, s2, hR⟩ := hrel
    obtain ⟨g1, c1, hv1, _, _⟩ := hR.o1.form (by omega)
    obtain ⟨g2, c2, hv2, _, _⟩ := hR.o2.form (by omega)
    subst hv1 hv2
    obtain ⟨d0, d1, _⟩ := hR.at
    by_cases hlt : k < n
    · have lq := hR.qlt
      have l1 := (World.ownsRow.lt hR.o1 g1 rfl).2
      have l2 := (World.ownsRow.lt hR.o2 g2 rfl).2
      have hrow : Row wr (some ⟨rb, ro, none⟩) cap L := HRow.out.below hR.bel
      obtain ⟨A, hA⟩ : ∃ A, k * 256 = A := ⟨_, rfl⟩
      obtain ⟨U, hU⟩ : ∃ U, A + 256 = U := ⟨_, rfl⟩
      have hUN : U ≤ N := by have := HNN.out; omega
      have hcut : Row wr (some ⟨rb, ro + A, none⟩) (cap - A) (pageOf L k) := by
        have := hrow.cut (k * 256) 256 (by rw [HL.out]; omega)
        rw [← hA]
        exact this
      have hpl : (pageOf L k).length = 256 := pageOf_len (by rw [HL.out]; omega)
      have hcp := copy_drew _ _ _ wr hcut hpl
      have i0 : (0 : Int) ≤ (k : Int) := by omega
      have i00 : (k : Int) < (n : Int) := by omega
      have i1 : (k : Int) * 256 = A := by omega
      obtain ⟨k1, hk1⟩ : ∃ k1, k + 1 = k1 := ⟨_, rfl⟩
      have i2 : (k : Int) + 1 = k1 := by omega
      have i3 : (k1 : Int) * 256 = U := by omega
      have i4 : (0 : Int) ≤ A := by omega
      have i5 : (A : Int) ≤ U := by omega
      have i6 : (U : Int) ≤ cap := by omega
      have i7 : (0 : Int) ≤ U := by omega
      have i8 : ¬ cap = A := by omega
      have i9 : U - A = 256 := by omega
      have j1 : IntKind.i64.wrap (A : Int) = A := wrapn _ (by omega)
      have j2 : IntKind.i64.wrap (U : Int) = U := wrapn _ (by omega)
      have j3 : IntKind.i64.wrap (k1 : Int) = k1 := wrapn _ (by omega)
      have HR : Hid (Rf w wr q n n (.slice (some ⟨g1, 0, none⟩) n c1) (.slice (some ⟨g2, 0, none⟩) n c2) s1 s2 (upto L k) (upto L k)) := hR
      have hn1 : g1 ≠ q := fun e => hR.n1 (by simp [Value.ownBlock]; exact e)
      have hn2 : g2 ≠ q := fun e => hR.n2 (by simp [Value.ownBlock]; exact e)
      have hn12 : g1 ≠ g2 := fun e => hR.n12 g1 rfl (by rw [e]; rfl)
      have HK1 : Hid (k + 1 = k1) := hk1
      have HPL : Hid ((pageOf L k).length = 256) := hpl
      have hs1k : ∃ u, wr.cell? ⟨g1, k, none⟩ = some u := by
        obtain ⟨g, c, e1, _⟩ := hR.p1 k hlt
        exact ⟨_, (World.ownsRow.cellAt hR.o1 k (by omega)).trans e1⟩
      have hs2k : ∃ u, wr.cell? ⟨g2, k, none⟩ = some u := by
        obtain ⟨g, c, e1, _⟩ := hR.p2 k hlt
        exact ⟨_, (World.ownsRow.cellAt hR.o2 k (by omega)).trans e1⟩
      have hz1k : wr.frozen? ⟨g1, k, none⟩ = false := World.ownsRow.frozenAt hR.o1 k
      have hz2k : wr.frozen? ⟨g2, k, none⟩ = false := World.ownsRow.frozenAt hR.o2 k
      obtain ⟨u1, hu1⟩ := hs1k
      obtain ⟨u2, hu2⟩ := hs2k
      clear hR hrow hA hU hcut hpl hk1 hUN
      go_wp2_with fail
      go_region_held3 (fun w' => w'.cell? ⟨q, 0, none⟩ = some (.slice (some ⟨g1, 0, none⟩) n c1)) (first | go_keep | assumption) (first | (go_at_call 48; refine hcp.mono ?_; rintro e w5 ⟨ga, ca, rfl, ho5, hb5⟩; have t0 := (hb5.cell (p := ⟨q, 0, none⟩) lq).trans d0; have t1 := (hb5.cell (p := ⟨q, 1, none⟩) lq).trans d1; have tu := (hb5.cell (p := ⟨g1, k, none⟩) l1).trans hu1; have tz := (hb5.frozen (p := ⟨g1, k, none⟩) l1).trans hz1k; have q0 : (w5.setCell ⟨g1, k, none⟩ (.slice (some ⟨ga, 0, none⟩) 256 ca)).cell? ⟨q, 0, none⟩ = some (.slice (some ⟨g1, 0, none⟩) n c1) := (World.cell?_setCell_other _ _ _ _ (by intro e; injection e with e1; exact hn1 e1)).trans t0; have HO5 : Hid (Own wr.heap.size w5 (.slice (some ⟨ga, 0, none⟩) 256 ca) (pageOf L k)) := ho5; have HB5 : Hid (Below wr.heap.size wr w5) := hb5; clear ho5 hb5))
      have HRn : Hid (Rf w (w5.setCell ⟨g1, k, none⟩ (.slice (some ⟨ga, 0, none⟩) 256 ca)) q n n (.slice (some ⟨g1, 0, none⟩) n c1) (.slice (some ⟨g2, 0, none⟩) n c2) (s1.set k (.slice (some ⟨ga, 0, none⟩) 256 ca)) s2 (upto L (k + 1)) (upto L k)) := by
        have hlo := HO5.out.lt2
        refine (HR.out.below HB5.out).set1 hlt (by rw [show upto L (k + 1) k = pageOf L k by simp [upto]]; exact HO5.out.zero) ?_ (Nat.le_trans HR.out.bel.size hlo.1) (fun i hi hne => by unfold upto; have e : (i < k + 1) = (i < k) := propext (by omega); simp only [e])
        rintro (e | e | e)
        · omega
        · omega
        · simp [Value.ownBlock] at e; omega
      have hz6 : w5.frozen? ⟨g2, k, none⟩ = false := (HB5.out.frozen (p := ⟨g2, k, none⟩) l2).trans hz2k
      have hu6 : w5.cell? ⟨g2, k, none⟩ = some u2 := (HB5.out.cell (p := ⟨g2, k, none⟩) l2).trans hu2
      have y0 : (w5.setCell ⟨g1, k, none⟩ (.slice (some ⟨ga, 0, none⟩) 256 ca)).cell? ⟨q, 1, none⟩ = some (.slice (some ⟨g2, 0, none⟩) n c2) := (World.cell?_setCell_other _ _ _ _ (by intro e; injection e with e1; exact hn1 e1)).trans t1
      have y1 : (w5.setCell ⟨g1, k, none⟩ (.slice (some ⟨ga, 0, none⟩) 256 ca)).cell? ⟨g1, k, none⟩ = some (.slice (some ⟨ga, 0, none⟩) 256 ca) := World.cell?_setCell_same _ _ _ tu
      have y2 : (w5.setCell ⟨g1, k, none⟩ (.slice (some ⟨ga, 0, none⟩) 256 ca)).cell? ⟨g2, k, none⟩ = some u2 := (World.cell?_setCell_other _ _ _ _ (by intro e; injection e with e1; exact hn12 e1)).trans hu6
      have y3 : (w5.setCell ⟨g1, k, none⟩ (.slice (some ⟨ga, 0, none⟩) 256 ca)).frozen? ⟨g2, k, none⟩ = false := (World.frozen?_setCell _ _ _ _).trans hz6
      have hla := HO5.out.lt2
      have HOa : Hid (Own 0 (w5.setCell ⟨g1, k, none⟩ (.slice (some ⟨ga, 0, none⟩) 256 ca)) (.slice (some ⟨ga, 0, none⟩) 256 ca) (pageOf L k)) := (HO5.out.zero).kept (Below.heap_setCell w5 ⟨g1, k, none⟩ _ ga (by show ga ≠ g1; omega))
      clear hla t0 t1 tu tz hz6 hu6 hcp d0 d1 hu1 hu2 hz1k hz2k l1 l2 lq HO5 HB5 HR
      go_wp2_with fail
      generalize hw6 : w5.setCell ⟨g1, k, none⟩ (.slice (some ⟨ga, 0, none⟩) 256 ca) = w6 at HRn HOa q0 y0 y1 y2 y3 ⊢
      have lq := HRn.out.qlt
      have m1 := (World.ownsRow.lt HRn.out.o1 g1 rfl).2
      have m2 := (World.ownsRow.lt HRn.out.o2 g2 rfl).2
      have hpb : Bys (pageOf L k) := fun x hx => HRow.out.1 x (List.mem_of_mem_drop (List.mem_of_mem_take hx))
      have hcp := copy_drew _ _ _ w6 (HOa.out.row' hpb).2 HPL.out
      have hga := HOa.out.lt2.2
      clear hw6 hpb
      go_region_held3 (fun w' => w'.cell? ⟨q, 0, none⟩ = some (.slice (some ⟨g1, 0, none⟩) n c1) ∧ w'.cell? ⟨q, 1, none⟩ = some (.slice (some ⟨g2, 0, none⟩) n c2) ∧ w'.cell? ⟨g1, k, none⟩ = some (.slice (some ⟨ga, 0, none⟩) 256 ca)) (first | go_keep | exact ⟨by assumption, by assumption, by assumption⟩) (first | (go_at_call 48; refine hcp.mono ?_; rintro e w7 ⟨gb, cb, rfl, ho7, hb7⟩; have t0 := (hb7.cell (p := ⟨q, 0, none⟩) lq).trans q0; have t1 := (hb7.cell (p := ⟨q, 1, none⟩) lq).trans y0; have t2 := (hb7.cell (p := ⟨g1, k, none⟩) m1).trans y1; have tu := (hb7.cell (p := ⟨g2, k, none⟩) m2).trans y2; have tz := (hb7.frozen (p := ⟨g2, k, none⟩) m2).trans y3; have r0 : (w7.setCell ⟨g2, k, none⟩ (.slice (some ⟨gb, 0, none⟩) 256 cb)).cell? ⟨q, 0, none⟩ = some (.slice (some ⟨g1, 0, none⟩) n c1) := (World.cell?_setCell_other _ _ _ _ (by intro e; injection e with e1; exact hn2 e1)).trans t0; have r1 : (w7.setCell ⟨g2, k, none⟩ (.slice (some ⟨gb, 0, none⟩) 256 cb)).cell? ⟨q, 1, none⟩ = some (.slice (some ⟨g2, 0, none⟩) n c2) := (World.cell?_setCell_other _ _ _ _ (by intro e; injection e with e1; exact hn2 e1)).trans t1; have r2 : (w7.setCell ⟨g2, k, none⟩ (.slice (some ⟨gb, 0, none⟩) 256 cb)).cell? ⟨g1, k, none⟩ = some (.slice (some ⟨ga, 0, none⟩) 256 ca) := (World.cell?_setCell_other _ _ _ _ (by intro e; injection e with e1; exact hn12 e1.symm)).trans t2; have HO7 : Hid (Own w6.heap.size w7 (.slice (some ⟨gb, 0, none⟩) 256 cb) (pageOf L k)) := ho7; have HB7 : Hid (Below w6.heap.size w6 w7) := hb7; clear ho7 hb7))
      have HRm : Hid (Rf w (w7.setCell ⟨g2, k, none⟩ (.slice (some ⟨gb, 0, none⟩) 256 cb)) q n n (.slice (some ⟨g1, 0, none⟩) n c1) (.slice (some ⟨g2, 0, none⟩) n c2) (s1.set k (.slice (some ⟨ga, 0, none⟩) 256 ca)) (s2.set k (.slice (some ⟨gb, 0, none⟩) 256 cb)) (upto L (k + 1)) (upto L (k + 1))) := by
        have hlo := HO7.out.lt2
        refine (HRn.out.below HB7.out).set2 hlt (by rw [show upto L (k + 1) k = pageOf L k by simp [upto]]; exact HO7.out.zero) ?_ (Nat.le_trans HRn.out.bel.size hlo.1) (fun i hi hne => by unfold upto; have e : (i < k + 1) = (i < k) := propext (by omega); simp only [e])
        rintro (e | e | e)
        · omega
        · omega
        · simp [Value.ownBlock] at e; omega
      have hfin : ∃ v1 v2 s1 s2, Rf w (w7.setCell ⟨g2, k, none⟩ (.slice (some ⟨gb, 0, none⟩) 256 cb)) q n n v1 v2 s1 s2 (upto L k1) (upto L k1) := by rw [← HK1.out]; exact ⟨_, _, _, _, HRm.out⟩
      have HF : Hid (∃ k2 : Nat, k2 ≤ n ∧ (Value.int .i64 k1) = .int .i64 k2 ∧ ∃ v1 v2 s1 s2, Rf w (w7.setCell ⟨g2, k, none⟩ (.slice (some ⟨gb, 0, none⟩) 256 cb)) q n n v1 v2 s1 s2 (upto L k2) (upto L k2)) := ⟨k1, by have := HK1.out; omega, rfl, hfin⟩
      clear hfin t0 t1 t2 tu tz r0 r1 r2 q0 y0 y1 y2 y3 HO7 HB7 HRn HOa hcp HRm i0 i00 i1 i3 i4 i5 i6 i7 i8 i9 j1 j2 hn1 hn2 hn12 lq m1 m2 hga
      go_wp2
      go_roundw
      case rel => exact HF.out
      case measure => have := HK1.out; simp [intOf]; omega
    · have e : k = n := by omega
      subst e
      have HRm : Hid (Rf w wr q k k (.slice (some ⟨g1, 0, none⟩) k c1) (.slice (some ⟨g2, 0, none⟩) k c2) s1 s2 (pageOf L) (pageOf L)) := by
        have ex : ∀ {wr : World} {s : List Value} {M : Nat → Prop} {B : Nat}, Pgs wr M B s k (upto L k) → Pgs wr M B s k (pageOf L) := fun hp i hi => by
          obtain ⟨g, c, h1, h2, h3⟩ := hp i hi
          exact ⟨g, c, h1, by rw [show upto L k i = pageOf L i by simp [upto, hi]] at h2; exact h2, h3⟩
        exact { hR with p1 := ex hR.p1, p2 := ex hR.p2 }
      clear hR
      go_wp2
      go_ret2
      exact ⟨q, _, _, _, _, rfl, HRm.out⟩
end Go.Proofs.Ytfbjjdjgijdlaaa.Oct
