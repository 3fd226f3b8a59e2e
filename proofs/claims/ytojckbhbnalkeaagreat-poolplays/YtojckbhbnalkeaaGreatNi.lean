/-
  The document's Sync.
-/
import Derived.Test.YtojckbhbnalkeaaGreatNh
import Derived.Laws.AppendOwnNone
namespace Go.Proofs.YtojckbhbnalkeaaGreat.Oct
open Go.RowKit

/-- The first k pages of a, the rest of b. -/
def mix (a b : List Int) (k : Nat) : List Int := a.take (k * 256) ++ b.drop (k * 256)
theorem mix_len {a b : List Int} {n k : Nat} (ha : a.length = n * 256) (hb : b.length = n * 256) (hk : k ≤ n) : (mix a b k).length = n * 256 := by
  unfold mix; rw [List.length_append, List.length_take, List.length_drop, ha, hb]; omega
theorem mix_at {a b : List Int} {n k : Nat} (ha : a.length = n * 256) (_hb : b.length = n * 256) (hk : k ≤ n) (x : Nat) : (mix a b k).getD x 0 = if x < k * 256 then a.getD x 0 else b.getD x 0 := by
  unfold mix
  have hl : (a.take (k * 256)).length = k * 256 := by rw [List.length_take, ha]; omega
  simp only [List.getD_eq_getElem?_getD]
  by_cases h : x < k * 256
  · rw [List.getElem?_append_left (by omega), List.getElem?_take_of_lt h, if_pos h]
  · rw [List.getElem?_append_right (by omega), hl, List.getElem?_drop, if_neg h, show k * 256 + (x - k * 256) = x by omega]
theorem mix_bys {a b : List Int} (ha : Bys a) (hb : Bys b) (k : Nat) : Bys (mix a b k) := fun z hz => by
  rcases List.mem_append.1 hz with h | h
  · exact ha z (List.mem_of_mem_take h)
  · exact hb z (List.mem_of_mem_drop h)
theorem mix_zero (a b : List Int) : mix a b 0 = b := by simp [mix]
theorem mix_all {a b : List Int} {n : Nat} (ha : a.length = n * 256) (hb : b.length = n * 256) : mix a b n = a := by
  unfold mix
  rw [← ha, List.take_length, ha, ← hb, List.drop_length, List.append_nil]
theorem mix_same {a b : List Int} {n k : Nat} (ha : a.length = n * 256) (hb : b.length = n * 256) (hk : k < n) : pageOf (mix a b (k + 1)) k = pageOf a k := by
  have l1 : k * 256 + 256 ≤ (mix a b (k + 1)).length := by rw [mix_len ha hb (by omega)]; omega
  refine eq_of_getD (by rw [pageOf_len l1, pageOf_len (by rw [ha]; omega)]) fun j hj => ?_
  rw [pageOf_len l1] at hj
  rw [pageOf_at _ _ _ hj, pageOf_at _ _ _ hj, mix_at ha hb (by omega), if_pos (by omega)]
theorem mix_rest {a b : List Int} {n k i : Nat} (ha : a.length = n * 256) (hb : b.length = n * 256) (hk : k < n) (hi : i < n) (hne : i ≠ k) : pageOf (mix a b (k + 1)) i = pageOf (mix a b k) i := by
  have l1 : i * 256 + 256 ≤ (mix a b (k + 1)).length := by rw [mix_len ha hb (by omega)]; omega
  have l2 : i * 256 + 256 ≤ (mix a b k).length := by rw [mix_len ha hb (by omega)]; omega
  refine eq_of_getD (by rw [pageOf_len l1, pageOf_len l2]) fun j hj => ?_
  rw [pageOf_len l1] at hj
  rw [pageOf_at _ _ _ hj, pageOf_at _ _ _ hj, mix_at ha hb (by omega), mix_at ha hb (by omega)]
  by_cases h : i < k
  · rw [if_pos (by omega), if_pos (by omega)]
  · rw [if_neg (by omega), if_neg (by omega)]

/-- A page lasts as another one. -/
theorem RefC.put1 {w : World} {q g1 c1 : Nat} {P : Nat → Prop} {v2 vS vO : Value} {s1 s2 sS : List Value} {D : Dv} (h : RefC w q P (.slice (some ⟨g1, 0, none⟩) D.n c1) v2 vS vO s1 s2 sS D) {pg : Nat} (hp : pg < D.n) {ga ca : Nat} {su : List Int}
    (ho : Own 0 w (.slice (some ⟨ga, 0, none⟩) 256 ca) (pageOf su pg)) (hr : ∀ i, i < D.n → i ≠ pg → pageOf su i = pageOf D.sure i) (hg : ¬ footR q P (.slice (some ⟨g1, 0, none⟩) D.n c1) v2 vS vO ga) :
    RefC (w.setCell ⟨g1, pg, none⟩ (.slice (some ⟨ga, 0, none⟩) 256 ca)) q (fun k => P k ∨ k = ga) (.slice (some ⟨g1, 0, none⟩) D.n c1) v2 vS vO (s1.set pg (.slice (some ⟨ga, 0, none⟩) 256 ca)) s2 sS { D with sure := su } := by
  have hst := World.ownsRow.stored h.o1 pg (.slice (some ⟨ga, 0, none⟩) 256 ca)
  have k3 : ∀ b, b ≠ g1 → (w.setCell ⟨g1, pg, none⟩ (.slice (some ⟨ga, 0, none⟩) 256 ca)).heap[b]? = w.heap[b]? := fun b hb => Below.heap_setCell w ⟨g1, pg, none⟩ _ b hb
  obtain ⟨e1, e2, e5, e3, e4⟩ := h.d1 g1 rfl
  have hP : ∀ g, P g → (w.setCell ⟨g1, pg, none⟩ (.slice (some ⟨ga, 0, none⟩) 256 ca)).heap[g]? = w.heap[g]? := fun g hg => k3 g (fun e => e1 (e ▸ hg))
  have nq : ga ≠ q := fun e => hg (.inl e)
  have n1 : ga ≠ g1 := fun e => hg (.inr (.inr (.inl (by rw [e]; rfl))))
  have n2 : v2.ownBlock ≠ some ga := fun e => hg (.inr (.inr (.inr (.inl e))))
  have nS : vS.ownBlock ≠ some ga := fun e => hg (.inr (.inr (.inr (.inr (.inl e)))))
  have nO : vO.ownBlock ≠ some ga := fun e => hg (.inr (.inr (.inr (.inr (.inr e)))))
  exact
  { cells := (k3 q (fun e => e2 e.symm)).trans h.cells
    o1 := hst.1
    o2 := owns_keep h.o2 (fun g hg => k3 g (fun e => e5 (e ▸ hg)))
    oS := owns_keep h.oS (fun g hg => k3 g (fun e => e3 (e ▸ hg)))
    oO := h.oO.keep (fun g hg => k3 g (fun e => e4 (e ▸ hg)))
    p1 := ((h.p1.keep hP).mono (fun _ e => .inl e)).set (by have := h.o1.1; omega) hp (ho.kept (k3 ga n1)) (.inr rfl) hr
    p2 := (h.p2.keep hP).mono (fun _ e => .inl e)
    pS := (h.pS.keep hP).mono (fun _ e => .inl e)
    f2 := h.f2
    dq := fun e => by rcases e with e | e; exact h.dq e; exact nq e.symm
    d1 := fun g hg => ⟨fun e => by rcases e with e | e; exact (h.d1 g hg).1 e; exact n1 (by simp [Value.ownBlock] at hg; omega), (h.d1 g hg).2⟩
    d2 := fun g hg => ⟨fun e => by rcases e with e | e; exact (h.d2 g hg).1 e; exact n2 (e ▸ hg), (h.d2 g hg).2⟩
    dS := fun g hg => ⟨fun e => by rcases e with e | e; exact (h.dS g hg).1 e; exact nS (e ▸ hg), (h.dS g hg).2⟩
    dO := fun g hg => ⟨fun e => by rcases e with e | e; exact (h.dO g hg).1 e; exact nO (e ▸ hg), (h.dO g hg).2⟩ }

/-- No write is left to be lost. -/
theorem RefC.nilS {w : World} {q : Nat} {P : Nat → Prop} {v1 v2 vS vO : Value} {s1 s2 sS : List Value} {D : Dv} (h : RefC w q P v1 v2 vS vO s1 s2 sS D) :
    RefC (w.setCell ⟨q, 2, none⟩ (.slice none 0 0)) q P v1 v2 (.slice none 0 0) vO s1 s2 [] { D with since := [] } := by
  have k3 : ∀ b, b ≠ q → (w.setCell ⟨q, 2, none⟩ (.slice none 0 0)).heap[b]? = w.heap[b]? := fun b hb => Below.heap_setCell w ⟨q, 2, none⟩ _ b hb
  have hP : ∀ g, P g → (w.setCell ⟨q, 2, none⟩ (.slice none 0 0)).heap[g]? = w.heap[g]? := fun g hg => k3 g (fun e => h.dq (e ▸ hg))
  have nn : ∀ g, (Value.slice none 0 0).ownBlock ≠ some g := fun g e => by simp [Value.ownBlock] at e
  exact
  { cells := by rw [setCell_heap _ q 2 _ _ _ _ h.cells]; rfl
    o1 := owns_keep h.o1 (fun g hg => k3 g (h.d1 g hg).2.1)
    o2 := owns_keep h.o2 (fun g hg => k3 g (h.d2 g hg).2.1)
    oS := World.ownsRow_nil _ _ _ _
    oO := h.oO.keep (fun g hg => k3 g (h.dO g hg).2)
    p1 := h.p1.keep hP
    p2 := h.p2.keep hP
    pS := fun i hi => by simp at hi
    f2 := h.f2
    dq := h.dq
    d1 := fun g hg => ⟨(h.d1 g hg).1, (h.d1 g hg).2.1, (h.d1 g hg).2.2.1, nn g, (h.d1 g hg).2.2.2.2⟩
    d2 := fun g hg => ⟨(h.d2 g hg).1, (h.d2 g hg).2.1, nn g, (h.d2 g hg).2.2.2⟩
    dS := fun g hg => absurd hg (nn g)
    dO := h.dO }

theorem RD.nilS {w wr : World} {q : Nat} {F F1 : Nat → Prop} {D : Dv} (h : RD wr q F1 D) (hs : Step F F1 w wr) : wr.frozen? ⟨q, 2, none⟩ = false ∧ (∃ u, wr.cell? ⟨q, 2, none⟩ = some u) ∧ RD (wr.setCell ⟨q, 2, none⟩ (.slice none 0 0)) q F1 { D with since := [] } ∧ Step F F1 w (wr.setCell ⟨q, 2, none⟩ (.slice none 0 0)) := by
  obtain ⟨ok, hF, P, v1, v2, vS, vO, s1, s2, sS, hc, hfo⟩ := h
  refine ⟨hc.at.2.2.2.2.2.2.2 2, ⟨_, hc.at.2.2.1⟩, ⟨⟨ok.n8, ok.n4, ok.now, ok.sure, ok.bnow, ok.bsure, ok.bout, fun x hx => by simp at hx, ok.fuse⟩, fun k hk => by rw [size_setCell]; exact hF k hk, P, v1, v2, _, vO, s1, s2, [], hc.nilS, fun k hk => hfo k (by
    rcases hk with e | e | e | e | e | e
    · exact .inl e
    · exact .inr (.inl e)
    · exact .inr (.inr (.inl e))
    · exact .inr (.inr (.inr (.inl e)))
    · simp [Value.ownBlock] at e
    · exact .inr (.inr (.inr (.inr (.inr e)))))⟩, hs.trans ⟨Ch.set (hfo q (.inl rfl)) _ _, fun k hk => .inl hk⟩⟩

/-- What a walk over 'Sure[i] = Copy(Now[i])' wants. -/
theorem sput_prep {w wr : World} {q k : Nat} {F F1 : Nat → Prop} {D : Dv} {su : List Int} (h : RD wr q F1 D) (hs : Step F F1 w wr) (hk : k < D.n) (h1 : pageOf su k = pageOf D.now k) (h2 : ∀ i, i < D.n → i ≠ k → pageOf su i = pageOf D.sure i) (hok : ({ D with sure := su } : Dv).ok) :
    ∃ g1 c1 g2 c2 gp cp u, wr.cell? ⟨q, 0, none⟩ = some (.slice (some ⟨g1, 0, none⟩) D.n c1) ∧ wr.cell? ⟨q, 1, none⟩ = some (.slice (some ⟨g2, 0, none⟩) D.n c2) ∧ wr.cell? ⟨g2, k, none⟩ = some (.slice (some ⟨gp, 0, none⟩) 256 cp) ∧ wr.cell? ⟨g1, k, none⟩ = some u ∧ wr.frozen? ⟨g1, k, none⟩ = false ∧ Row wr (some ⟨gp, 0, none⟩) cp (pageOf D.now k) ∧ (pageOf D.now k).length = 256 ∧
      ∀ (w5 : World) (ga ca : Nat), Own wr.heap.size w5 (.slice (some ⟨ga, 0, none⟩) 256 ca) (pageOf D.now k) → Below wr.heap.size wr w5 →
        w5.cell? ⟨q, 0, none⟩ = some (.slice (some ⟨g1, 0, none⟩) D.n c1) ∧ w5.cell? ⟨q, 1, none⟩ = some (.slice (some ⟨g2, 0, none⟩) D.n c2) ∧ w5.cell? ⟨g2, k, none⟩ = some (.slice (some ⟨gp, 0, none⟩) 256 cp) ∧ w5.cell? ⟨g1, k, none⟩ = some u ∧ w5.frozen? ⟨g1, k, none⟩ = false ∧
        (w5.setCell ⟨g1, k, none⟩ (.slice (some ⟨ga, 0, none⟩) 256 ca)).cell? ⟨q, 0, none⟩ = some (.slice (some ⟨g1, 0, none⟩) D.n c1) ∧ (w5.setCell ⟨g1, k, none⟩ (.slice (some ⟨ga, 0, none⟩) 256 ca)).cell? ⟨q, 1, none⟩ = some (.slice (some ⟨g2, 0, none⟩) D.n c2) ∧ (w5.setCell ⟨g1, k, none⟩ (.slice (some ⟨ga, 0, none⟩) 256 ca)).cell? ⟨g2, k, none⟩ = some (.slice (some ⟨gp, 0, none⟩) 256 cp) ∧
        ∃ F2, RD (w5.setCell ⟨g1, k, none⟩ (.slice (some ⟨ga, 0, none⟩) 256 ca)) q F2 { D with sure := su } ∧ Step F F2 w (w5.setCell ⟨g1, k, none⟩ (.slice (some ⟨ga, 0, none⟩) 256 ca)) := by
  obtain ⟨g2, c2, gp, cp, x1, x2, x3, x4⟩ := h.pg hk
  obtain ⟨ok, hF, P, v1, v2, vS, vO, s1, s2, sS, hc, hfo⟩ := h
  have n8 := ok.n8
  obtain ⟨g1, c1, hv1, _, _⟩ := hc.o1.form (by omega)
  subst hv1
  have hv2 : v2 = .slice (some ⟨g2, 0, none⟩) D.n c2 := by have := hc.at.2.1.symm.trans x1; simpa using this
  subst hv2
  obtain ⟨g', c', e1, _, _⟩ := hc.p1 k hk
  have xu := (World.ownsRow.cellAt hc.o1 k (by omega)).trans e1
  have xz := World.ownsRow.frozenAt hc.o1 k
  have lq := hF q (hfo q (.inl rfl))
  have f1 : F1 g1 := hfo g1 (.inr (.inr (.inl rfl)))
  have f2 : F1 g2 := hfo g2 (.inr (.inr (.inr (.inl rfl))))
  have l1 := hF g1 f1
  have l2 := hF g2 f2
  obtain ⟨_, dd2, dd3, _, _⟩ := hc.d1 g1 rfl
  have hn12 : g2 ≠ g1 := fun e => dd3 (by rw [← e]; rfl)
  refine ⟨g1, c1, g2, c2, gp, cp, _, hc.at.1, x1, x2, xu, xz, x3, x4, fun w5 ga ca ho hb => ?_⟩
  have h5 : RefC w5 q P (.slice (some ⟨g1, 0, none⟩) D.n c1) (.slice (some ⟨g2, 0, none⟩) D.n c2) vS vO s1 s2 sS D := hc.keep (fun g hg => hb.block g (hF g (hfo g hg)))
  have hlo := ho.lt2
  have hnew := foot_new hF hfo hlo.1
  have h6 := h5.put1 (su := su) hk (by rw [h1]; exact ho.zero) h2 hnew
  have y2 : w5.cell? ⟨g2, k, none⟩ = some (.slice (some ⟨gp, 0, none⟩) 256 cp) := (hb.cell (p := ⟨g2, k, none⟩) l2).trans x2
  refine ⟨h5.at.1, h5.at.2.1, y2, (hb.cell (p := ⟨g1, k, none⟩) l1).trans xu, (hb.frozen (p := ⟨g1, k, none⟩) l1).trans xz, h6.at.1, h6.at.2.1, (World.cell?_setCell_other _ _ _ _ (by intro e; injection e with e1; exact hn12 e1.symm)).trans y2, fun x => F1 x ∨ x = ga, ⟨hok, fun x hx => ?_, _, _, _, _, _, _, _, _, h6, fun x hx => ?_⟩, hs.trans ⟨?_, fun x hx => ?_⟩⟩
  · rw [size_setCell]
    rcases hx with e | e
    · exact Nat.lt_of_lt_of_le (hF x e) hb.size
    · omega
  · rcases hx with e | (e | e) | e
    · exact .inl (hfo x (.inl e))
    · exact .inl (hfo x (.inr (.inl e)))
    · exact .inr e
    · exact .inl (hfo x (.inr (.inr e)))
  · exact (Ch.of F1 hb).setCell (p := ⟨g1, k, none⟩) (.inr f1) _
  · rcases hx with e | e
    · exact .inl e
    · exact .inr (by omega)
end Go.Proofs.YtojckbhbnalkeaaGreat.Oct

/-
  The document's Sync, walked.
-/
namespace Go.Proofs.YtojckbhbnalkeaaGreat.Oct
open Go.RowKit

def mixD (D : Dv) (k : Nat) : Dv := { D with sure := mix D.now D.sure k }
theorem mixD_ok {D : Dv} (h : D.ok) {k : Nat} (hk : k ≤ D.n) : (mixD D k).ok := ⟨h.n8, h.n4, h.now, mix_len h.now h.sure hk, h.bnow, mix_bys h.bnow h.bsure k, h.bout, h.since, h.fuse⟩
theorem mixD_zero (D : Dv) : mixD D 0 = D := by unfold mixD; rw [mix_zero]
theorem mixD_all {D : Dv} (h : D.ok) : ({ mixD D D.n with since := [] } : Dv) = setD D := by unfold mixD setD; rw [mix_all h.now h.sure]

end Go.Proofs.YtojckbhbnalkeaaGreat.Oct

/-
  The document's device: made, and its Image.
-/
namespace Go.Proofs.YtojckbhbnalkeaaGreat.Oct
open Go.RowKit

theorem RD.ofRf {w wr : World} {q n : Nat} {v1 v2 : Value} {s1 s2 : List Value} {L : List Int} (h : Rf w wr q n n v1 v2 s1 s2 (pageOf L) (pageOf L)) (hL : L.length = n * 256) (h8 : 8 ≤ n) (h4 : n ≤ 4096) (hb : Bys L) :
    ∃ F, RD wr q F (newD L) ∧ ∀ k, F k → w.heap.size ≤ k := by
  have hn : (newD L).n = n := by show L.length / 256 = n; omega
  have nn : ∀ g, (Value.slice none 0 0).ownBlock ≠ some g := fun g e => by simp [Value.ownBlock] at e
  have hq := h.qlt
  have l1 := fun g hg => (World.ownsRow.lt h.o1 g hg).2
  have l2 := fun g hg => (World.ownsRow.lt h.o2 g hg).2
  refine ⟨fun k => w.heap.size ≤ k ∧ k < wr.heap.size, ⟨⟨by rw [hn]; exact h8, by rw [hn]; exact h4, by rw [hn]; exact hL, by rw [hn]; exact hL, hb, hb, fun z hz => by simp [newD] at hz, fun x hx => by simp [newD] at hx, by simp [newD]⟩, fun k hk => hk.2, (fun g => (w.heap.size ≤ g ∧ g < wr.heap.size) ∧ ¬ (g = q ∨ v1.ownBlock = some g ∨ v2.ownBlock = some g)), v1, v2, .slice none 0 0, .slice none 0 0, s1, s2, [], ?_, ?_⟩, fun k hk => hk.1⟩
  · have pk : ∀ {s : List Value}, Pgs wr (fun g => g = q ∨ v1.ownBlock = some g ∨ v2.ownBlock = some g) w.heap.size s n (pageOf L) → Pg wr (fun g => (w.heap.size ≤ g ∧ g < wr.heap.size) ∧ ¬ (g = q ∨ v1.ownBlock = some g ∨ v2.ownBlock = some g)) s (newD L).n (pageOf L) := fun hp i hi => by
      rw [hn] at hi
      obtain ⟨g, c, e1, e2, e3, e4⟩ := hp i hi
      exact ⟨g, c, e1, e2, ⟨e4, e2.lt2.2⟩, e3⟩
    exact
    { cells := h.cells
      o1 := by rw [hn]; exact h.o1
      o2 := by rw [hn]; exact h.o2
      oS := World.ownsRow_nil _ _ _ _
      oO := .inl ⟨rfl, rfl⟩
      p1 := pk h.p1
      p2 := pk h.p2
      pS := fun i hi => by simp [newD] at hi
      f2 := by simp [newD]
      dq := fun e => e.2 (.inl rfl)
      d1 := fun g hg => ⟨fun e => e.2 (.inr (.inl hg)), fun e => h.n1 (e ▸ hg), h.n12 g hg, nn g, nn g⟩
      d2 := fun g hg => ⟨fun e => e.2 (.inr (.inr hg)), fun e => h.n2 (e ▸ hg), nn g, nn g⟩
      dS := fun g hg => absurd hg (nn g)
      dO := fun g hg => absurd hg (nn g) }
  · intro k hk
    rcases hk with e | e | e | e | e | e
    · subst e; exact ⟨h.lq, hq⟩
    · exact e.1
    · exact ⟨h.l1 k e, l1 k e⟩
    · exact ⟨h.l2 k e, l2 k e⟩
    · exact absurd e (nn k)
    · exact absurd e (nn k)

set_option maxRecDepth 20000 in
set_option maxHeartbeats 2000000 in
theorem rimg_flat {w : World} {q : Nat} {F : Nat → Prop} {D : Dv} (h : RD w q F D) :
    Calls Tryz.prog 36 #[.pointer (some ⟨q, 0, none⟩)] w fun e w' => ∃ v, e = .returned v ∧ Own w.heap.size w' v (flat (pageOf D.now) D.n) ∧ Below w.heap.size w w' := by
  have lq := h.q.2
  obtain ⟨ok, hF, P, v1, v2, vS, vO, s1, s2, sS, hc0, hfo⟩ := h
  have h8 := ok.n8
  have h4 := ok.n4
  obtain ⟨g2, c2, hv2, _, _⟩ := hc0.o2.form (by omega)
  subst hv2
  have hc := hc0.at.2.1
  have HC : Hid (RefC w q P v1 (.slice (some ⟨g2, 0, none⟩) D.n c2) vS vO s1 s2 sS D) := hc0
  have HF : Hid (∀ i, i < D.n → (pageOf D.now i).length = 256 ∧ Bys (pageOf D.now i)) := fun i hi => ⟨pageOf_len (by rw [ok.now]; omega), fun x hx => ok.bnow x (List.mem_of_mem_drop (List.mem_of_mem_take hx))⟩
  clear hc0 ok hF hfo
  go_enter Tryz.func36, Tryz.ntmps36
  go_wp2
  go_loopw [3, 4] (fun v i wr => ∃ k : Nat, k ≤ D.n ∧ i = .int .i64 k ∧ Own w.heap.size wr v (flat (pageOf D.now) k) ∧ Below w.heap.size w wr) (fun _ i _ => D.n - (intOf i).toNat)
  case atStart => exact ⟨0, Nat.zero_le _, rfl, World.ownsRow_nil _ _ _ _, Below.refl _ _⟩
  case round =>
    obtain ⟨k, hk, rfl, hown, hb⟩ := hrel
    have hcr : wr.cell? ⟨q, 1, none⟩ = some (.slice (some ⟨g2, 0, none⟩) D.n c2) := (hb.cell (p := ⟨q, 1, none⟩) lq).trans hc
    have sr := hb.size
    by_cases hlt : k < D.n
    · obtain ⟨g, c, e1, e2, _⟩ := HC.out.p2 k hlt
      have hl2 := World.ownsRow.lt HC.out.o2 g2 rfl
      have hcell : wr.cell? ⟨g2, k, none⟩ = some (.slice (some ⟨g, 0, none⟩) 256 c) := by
        rw [hb.cell (p := ⟨g2, k, none⟩) hl2.2, World.ownsRow.cellAt HC.out.o2 k (by omega)]
        exact e1
      have hrow : Row wr (some ⟨g, 0, none⟩) c ((pageOf D.now) k) := e2.rowB (HF.out k hlt).2 hb
      have HRow : Hid (Row wr (some ⟨g, 0, none⟩) c ((pageOf D.now) k)) := hrow
      have HO : Hid (Own w.heap.size wr _ (flat (pageOf D.now) k)) := hown
      have hfl : Hid ((flat (pageOf D.now) k).length = k * 256) := flat_len (fun i hi => (HF.out i hi).1) k hk
      have hfk : Hid (((pageOf D.now) k).length = 256) := (HF.out k hlt).1
      have HB : Hid (Below w.heap.size w wr) := hb
      have hbd : Hid ((flat (pageOf D.now) k).length + (pageOf D.now k).length ≤ 100000000) := by show _ ≤ _; rw [hfl.out, hfk.out]; omega
      clear e1 e2 hl2 hrow hown hb
      go_wp2_with (at_builtin; refine append_row2 rfl (.tmp 14) (.tmp 21) rfl w.heap.size _ (flat (pageOf D.now) k) rfl HO.out ⟨g, 0, none⟩ ((pageOf D.now) k) 256 c rfl hfk.out.symm HRow.out hbd.out sr ?_; intro v' w2 ho2 hb2)
      have HO2 : Hid (Own w.heap.size w2 v' (flat (pageOf D.now) (k + 1))) := by rw [flat_snoc]; exact ho2
      have HB2 : Hid (Below w.heap.size w w2) := HB.out.trans hb2
      clear ho2 hb2
      go_wp2
      go_roundw
      case rel => exact ⟨k + 1, by omega, by go_num, HO2.out, HB2.out⟩
      case measure => simp [intOf]; omega
    · have e : k = D.n := by omega
      subst e
      have HO : Hid (Own w.heap.size wr _ (flat (pageOf D.now) D.n)) := hown
      have HB : Hid (Below w.heap.size w wr) := hb
      clear hown hb
      go_wp2
      go_ret
      exact ⟨_, rfl, HO.out, HB.out⟩

theorem rimg_any {w : World} {q : Nat} {F : Nat → Prop} {D : Dv} (h : RD w q F D) :
    Calls Tryz.prog 36 #[.pointer (some ⟨q, 0, none⟩)] w fun e w' => ∃ g c, e = .returned (.slice (some ⟨g, 0, none⟩) D.now.length c) ∧ Own w.heap.size w' (.slice (some ⟨g, 0, none⟩) D.now.length c) D.now ∧ Below w.heap.size w w' := by
  have ok := h.1
  refine (rimg_flat h).mono ?_
  rintro e w' ⟨v, h1, h2, h3⟩
  rw [flat_pages D.now D.n ok.now D.n (Nat.le_refl _), ← ok.now, List.take_length] at h2
  have ho := h2
  unfold Own at ho
  have h8 := ok.n8
  have hl := ok.now
  obtain ⟨g, c, hv, _, _⟩ := ho.form (by omega)
  subst hv
  exact ⟨g, c, h1, h2, h3⟩
end Go.Proofs.YtojckbhbnalkeaaGreat.Oct
