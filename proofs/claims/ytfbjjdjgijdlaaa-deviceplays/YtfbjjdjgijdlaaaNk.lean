/-
  The document's device: made, and its Image.
-/
import Derived.Test.YtfbjjdjgijdlaaaNj
import Derived.Laws.AppendOwnNone
namespace Go.Proofs.Ytfbjjdjgijdlaaa.Oct
open Go.RowKit

theorem RD.ofRf {w wr : World} {q n : Nat} {v1 v2 : Value} {s1 s2 : List Value} {L : List Int} (h : Rf w wr q n n v1 v2 s1 s2 (pageOf L) (pageOf L)) (hL : L.length = n * 256) (h8 : 8 ≤ n) (h4 : n ≤ 4096) (hb : Bys L) :
    ∃ F, RD wr q F (newD L) ∧ ∀ k, F k → w.heap.size ≤ k := by
  have hn : (newD L).n = n := by show L.length / 256 = n; omega
  have nn : ∀ g, (Value.slice none 0 0).ownBlock ≠ some g := fun g e => by simp [Value.ownBlock] at e
  have hq := h.qlt
  have l1 := fun g hg => (World.ownsRow.lt h.o1 g hg).2
  have l2 := fun g hg => (World.ownsRow.lt h.o2 g hg).2
  refine ⟨fun k => w.heap.size ≤ k ∧ k < wr.heap.size, ⟨⟨by rw [hn]; exact h8, by rw [hn]; exact h4, by rw [hn]; exact hL, by rw [hn]; exact hL, hb, hb, fun z hz => by simp [newD] at hz, fun x hx => by simp [newD] at hx, by simp [newD]⟩, fun k hk => hk.2, (fun g => (w.heap.size ≤ g ∧ g < wr.heap.size) ∧ ¬ (g = q ∨ v1.ownBlock = some g ∨ v2.ownBlock = some g)), v1, v2, .slice none 0 0, .slice none 0 0, s1, s2, [], ?_, ?_⟩, fun k hk => hk.1⟩
  · have pk : ∀ {s : List Value}, Pgs wr (fun g => g = q ∨ v1.ownBlock = some g ∨ v2.ownBlock = some g) w.heap.size s n (pageOf L) → Pg wr (fun g => (w.heap.size ≤ g ∧ g < wr.heap.size) ∧ ¬ (g = q ∨ v1.ownBlock = some g ∨ v2.ownBlock = some g)) s (newD L).n (pageOf L) := fun hp i hi => by
      rw [hn] at hi
      obtain ⟨g, c, e1, e2, e3, e4⟩ := hp i hi
      exact ⟨g, c, e1, e2, ⟨e4, e2.lt2.2⟩, e3⟩
    exact
    { cells := h.cells
      o1 := by rw [hn]; exact h.o1
      o2 := by rw [hn]; exact h.o2
      oS := World.ownsRow_nil _ _ _ _
      oO := .inl ⟨rfl, rfl⟩
      p1 := pk h.p1
      p2 := pk h.p2
      pS := fun i hi => by simp [newD] at hi
      f2 := by simp [newD]
      dq := fun e => e.2 (.inl rfl)
      d1 := fun g hg => ⟨fun e => e.2 (.inr (.inl hg)), fun e => h.n1 (e ▸ hg), h.n12 g hg, nn g, nn g⟩
      d2 := fun g hg => ⟨fun e => e.2 (.inr (.inr hg)), fun e => h.n2 (e ▸ hg), nn g, nn g⟩
      dS := fun g hg => absurd hg (nn g)
      dO := fun g hg => absurd hg (nn g) }
  · intro k hk
    rcases hk with e | e | e | e | e | e
    · subst e; exact ⟨h.lq, hq⟩
    · exact e.1
    · exact ⟨h.l1 k e, l1 k e⟩
    · exact ⟨h.l2 k e, l2 k e⟩
    · exact absurd e (nn k)
    · exact absurd e (nn k)

set_option maxRecDepth 20000 in
set_option maxHeartbeats 2000000 in
theorem rimg_flat {w : World} {q : Nat} {F : Nat → Prop} {D : Dv} (h : RD w q F D) :
    Calls Try.prog 32 #[.pointer (some ⟨q, 0, none⟩)] w fun e w' => ∃ v, e = .returned v ∧ Own w.heap.size w' v (flat (pageOf D.now) D.n) ∧ Below w.heap.size w w' := by
  have lq := h.q.2
  obtain ⟨ok, hF, P, v1, v2, vS, vO, s1, s2, sS, hc0, hfo⟩ := h
  have h8 := ok.n8
  have h4 := ok.n4
  obtain ⟨g2, c2, hv2, _, _⟩ := hc0.o2.form (by omega)
  subst hv2
  have hc := hc0.at.2.1
  have HC : Hid (RefC w q P v1 (.slice (some ⟨g2, 0, none⟩) D.n c2) vS vO s1 s2 sS D) := hc0
  have HF : Hid (∀ i, i < D.n → (pageOf D.now i).length = 256 ∧ Bys (pageOf D.now i)) := fun i hi => ⟨pageOf_len (by rw [ok.now]; omega), fun x hx => ok.bnow x (List.mem_of_mem_drop (List.mem_of_mem_take hx))⟩
  clear hc0 ok hF hfo
  go_enter Try.func32, Try.ntmps32
  go_wp2
  go_loopw [3, 4] (fun v i wr => ∃ k : Nat, k ≤ D.n ∧ i = .int .i64 k ∧ Own w.heap.size wr v (flat (pageOf D.now) k) ∧ Below w.heap.size w wr) (fun _ i _ => D.n - (intOf i).toNat)
  case atStart => exact ⟨0, Nat.zero_le _, rfl, World.ownsRow_nil _ _ _ _, Below.refl _ _⟩
  case round =>
    obtain ⟨k, hk, rfl, hown, hb⟩ := hrel
    have hcr : wr.cell? ⟨q, 1, none⟩ = some (.slice (some ⟨g2, 0, none⟩) D.n c2) := (hb.cell (p := ⟨q, 1, none⟩) lq).trans hc
    have sr := hb.size
    by_cases hlt : k < D.n
    · obtain ⟨g, c, e1, e2, _⟩ := HC.out.p2 k hlt
      have hl2 := World.ownsRow.lt HC.out.o2 g2 rfl
      have hcell : wr.cell? ⟨g2, k, none⟩ = some (.slice (some ⟨g, 0, none⟩) 256 c) := by
        rw [hb.cell (p := ⟨g2, k, none⟩) hl2.2, World.ownsRow.cellAt HC.out.o2 k (by omega)]
        exact e1
      have hrow : Row wr (some ⟨g, 0, none⟩) c ((pageOf D.now) k) := e2.rowB (HF.out k hlt).2 hb
      have HRow : Hid (Row wr (some ⟨g, 0, none⟩) c ((pageOf D.now) k)) := hrow
      have HO : Hid (Own w.heap.size wr _ (flat (pageOf D.now) k)) := hown
      have hfl : Hid ((flat (pageOf D.now) k).length = k * 256) := flat_len (fun i hi => (HF.out i hi).1) k hk
      have hfk : Hid (((pageOf D.now) k).length = 256) := (HF.out k hlt).1
      have HB : Hid (Below w.heap.size w wr) := hb
      have hbd : Hid ((flat (pageOf D.now) k).length + (pageOf D.now k).length ≤ 100000000) := by show _ ≤ _; rw [hfl.out, hfk.out]; omega
      clear e1 e2 hl2 hrow hown hb
      go_wp2_with (at_builtin; refine append_row2 rfl (.tmp 14) (.tmp 21) rfl w.heap.size _ (flat (pageOf D.now) k) rfl HO.out ⟨g, 0, none⟩ ((pageOf D.now) k) 256 c rfl hfk.out.symm HRow.out hbd.out sr ?_; intro v' w2 ho2 hb2)
      have HO2 : Hid (Own w.heap.size w2 v' (flat (pageOf D.now) (k + 1))) := by rw [flat_snoc]; exact ho2
      have HB2 : Hid (Below w.heap.size w w2) := HB.out.trans hb2
      clear ho2 hb2
      go_wp2
      go_roundw
      case rel => exact ⟨k + 1, by omega, by go_num, HO2.out, HB2.out⟩
      case measure => simp [intOf]; omega
    · have e : k = D.n := by omega
      subst e
      have HO : Hid (Own w.heap.size wr _ (flat (pageOf D.now) D.n)) := hown
      have HB : Hid (Below w.heap.size w wr) := hb
      clear hown hb
      go_wp2
      go_ret
      exact ⟨_, rfl, HO.out, HB.out⟩

theorem rimg_any {w : World} {q : Nat} {F : Nat → Prop} {D : Dv} (h : RD w q F D) :
    Calls Try.prog 32 #[.pointer (some ⟨q, 0, none⟩)] w fun e w' => ∃ g c, e = .returned (.slice (some ⟨g, 0, none⟩) D.now.length c) ∧ Own w.heap.size w' (.slice (some ⟨g, 0, none⟩) D.now.length c) D.now ∧ Below w.heap.size w w' := by
  have ok := h.1
  refine (rimg_flat h).mono ?_
  rintro e w' ⟨v, h1, h2, h3⟩
  rw [flat_pages D.now D.n ok.now D.n (Nat.le_refl _), ← ok.now, List.take_length] at h2
  have ho := h2
  unfold Own at ho
  have h8 := ok.n8
  have hl := ok.now
  obtain ⟨g, c, hv, _, _⟩ := ho.form (by omega)
  subst hv
  exact ⟨g, c, h1, h2, h3⟩
end Go.Proofs.Ytfbjjdjgijdlaaa.Oct
