/-
  The document's Image, Load.
-/
import Derived.Test.YtojckbhbnalkeaaGreatNb
import Derived.Laws.AppendOwnNone
namespace Go.Proofs.YtojckbhbnalkeaaGreat.Oct
open Go.RowKit

/-- append(own, row...) of bytes. -/
theorem append_row2 {w : World} {ops : Array Oper} {rest : List Oper} {o : Oper} {a : Act} {Q : Exit → Act → World → Prop} (hgd : o.guard = none) (s x : Operand)
    (ho : o.op = .call { callee := .builtin .append, args := #[s, x], argTypes := #[38, 38] })
    (base : Nat) (v : Value) (xs : List Int) (hs : a.eval s = v) (hown : Own base w v xs) (ad : Addr) (zs : List Int) (m c : Nat) (hx : a.eval x = .slice (some ad) m c) (hm : m = zs.length)
    (hrow : Row w (some ad) c zs) (hsz : xs.length + zs.length ≤ 100000000) (hbase : base ≤ w.heap.size)
    (h : ∀ v' w', Own base w' v' (xs ++ zs) → Below base w w' → wpList Tryz.prog ops Q rest (a.put o.dst v') w') : wpList Tryz.prog ops Q (o :: rest) a w := by
  obtain ⟨i0, hi, hz0, hz1, hz2⟩ := info_parts info5
  subst hm
  refine wpList_append_own w hgd s x 38 ho base 5 i0 (.int .u8 0) 1 1 Tryz.underlying38 hi hz0 hz1 hz2 rfl (by decide) v _ _ hs hown ad _ c (zs.map (Value.int .u8)) hx (by simp) (row_news hrow) (one_cells zs) (by unfold maxLen; omega) (by omega) hbase ?_
  intro v' w' h1 h2 _
  refine h v' w' ?_ ((Below.refl base w).grown h2 hbase (fun j hj => hown.lt' j hj))
  unfold Own
  rw [List.length_append, List.map_append]
  exact h1

def flat (f : Nat → List Int) (k : Nat) : List Int := (List.range k).flatMap f
theorem flat_snoc (f : Nat → List Int) (k : Nat) : flat f (k + 1) = flat f k ++ f k := by simp [flat, List.range_succ]
theorem flat_len {f : Nat → List Int} {n : Nat} (h : ∀ i, i < n → (f i).length = 256) : ∀ k, k ≤ n → (flat f k).length = k * 256
  | 0, _ => rfl
  | k + 1, hk => by rw [flat_snoc, List.length_append, flat_len h k (by omega), h k (by omega)]; omega
theorem flat_bys {f : Nat → List Int} {n : Nat} (h : ∀ i, i < n → Bys (f i)) : ∀ k, k ≤ n → Bys (flat f k)
  | 0, _ => fun z hz => by simp [flat] at hz
  | k + 1, hk => by rw [flat_snoc]; exact (flat_bys h k (by omega)).app (h k (by omega))

theorem flat_pages (L : List Int) (n : Nat) (hL : L.length = n * 256) : ∀ k, k ≤ n → flat (pageOf L) k = L.take (k * 256)
  | 0, _ => by simp [flat]
  | k + 1, hk => by
    rw [flat_snoc, flat_pages L n hL k (by omega), show (k + 1) * 256 = k * 256 + 256 by omega, List.take_add]
    rfl

set_option maxRecDepth 20000 in
set_option maxHeartbeats 2000000 in
theorem rimage_any {w0 w : World} {q k1 n : Nat} {v1 v2 : Value} {s1 s2 : List Value} {f1 f2 : Nat → List Int} (h : Rf w0 w q k1 n v1 v2 s1 s2 f1 f2) (h8 : 8 ≤ n) (h4 : n ≤ 4096) (hf : ∀ i, i < n → (f2 i).length = 256 ∧ Bys (f2 i)) :
    Calls Tryz.prog 36 #[.pointer (some ⟨q, 0, none⟩)] w fun e w' => ∃ v, e = .returned v ∧ Own w.heap.size w' v (flat f2 n) ∧ Below w.heap.size w w' := by
  obtain ⟨g2, c2, hv2, _, _⟩ := h.o2.form (by omega)
  subst hv2
  have hc := h.at.2.1
  have lq := h.qlt
  have HR : Hid (Rf w0 w q k1 n v1 (.slice (some ⟨g2, 0, none⟩) n c2) s1 s2 f1 f2) := h
  have HF : Hid (∀ i, i < n → (f2 i).length = 256 ∧ Bys (f2 i)) := hf
  clear h hf
  go_enter Tryz.func36, Tryz.ntmps36
  go_wp2
  go_loopw [3, 4] (fun v i wr => ∃ k : Nat, k ≤ n ∧ i = .int .i64 k ∧ Own w.heap.size wr v (flat f2 k) ∧ Below w.heap.size w wr) (fun _ i _ => n - (intOf i).toNat)
  case atStart => exact ⟨0, Nat.zero_le _, rfl, World.ownsRow_nil _ _ _ _, Below.refl _ _⟩
  case round =>
    obtain ⟨k, hk, rfl, hown, hb⟩ := hrel
    have hcr : wr.cell? ⟨q, 1, none⟩ = some (.slice (some ⟨g2, 0, none⟩) n c2) := (hb.cell (p := ⟨q, 1, none⟩) lq).trans hc
    have sr := hb.size
    by_cases hlt : k < n
    · obtain ⟨g, c, e1, e2, _, _⟩ := HR.out.p2 k hlt
      have hl2 := World.ownsRow.lt HR.out.o2 g2 rfl
      have hcell : wr.cell? ⟨g2, k, none⟩ = some (.slice (some ⟨g, 0, none⟩) 256 c) := by
        rw [hb.cell (p := ⟨g2, k, none⟩) hl2.2, World.ownsRow.cellAt HR.out.o2 k (by omega)]
        exact e1
      have hrow : Row wr (some ⟨g, 0, none⟩) c (f2 k) := e2.rowB (HF.out k hlt).2 hb
      have HRow : Hid (Row wr (some ⟨g, 0, none⟩) c (f2 k)) := hrow
      have HO : Hid (Own w.heap.size wr _ (flat f2 k)) := hown
      have hfl : Hid ((flat f2 k).length = k * 256) := flat_len (fun i hi => (HF.out i hi).1) k hk
      have hfk : Hid ((f2 k).length = 256) := (HF.out k hlt).1
      have HB : Hid (Below w.heap.size w wr) := hb
      have hbd : Hid ((flat f2 k).length + (f2 k).length ≤ 100000000) := by show _ ≤ _; rw [hfl.out, hfk.out]; omega
      clear e1 e2 hl2 hrow hown hb
      go_wp2_with (at_builtin; refine append_row2 rfl (.tmp 14) (.tmp 21) rfl w.heap.size _ (flat f2 k) rfl HO.out ⟨g, 0, none⟩ (f2 k) 256 c rfl hfk.out.symm HRow.out hbd.out sr ?_; intro v' w2 ho2 hb2)
      have HO2 : Hid (Own w.heap.size w2 v' (flat f2 (k + 1))) := by rw [flat_snoc]; exact ho2
      have HB2 : Hid (Below w.heap.size w w2) := HB.out.trans hb2
      clear ho2 hb2
      go_wp2
      go_roundw
      case rel => exact ⟨k + 1, by omega, by go_num, HO2.out, HB2.out⟩
      case measure => simp [intOf]; omega
    · have e : k = n := by omega
      subst e
      have HO : Hid (Own w.heap.size wr _ (flat f2 k)) := hown
      have HB : Hid (Below w.heap.size w wr) := hb
      clear hown hb
      go_wp2
      go_ret
      exact ⟨_, rfl, HO.out, HB.out⟩
end Go.Proofs.YtojckbhbnalkeaaGreat.Oct

/-
  The document's Load.
-/
namespace Go.Proofs.YtojckbhbnalkeaaGreat.Oct
open Go.RowKit

/-- Copy of a page, also behind a draw. -/
theorem copy_page (a : Option Addr) (cap : Nat) (zs : List Int) (w : World) (h : Row w a cap zs) (hl : zs.length = 256) :
    Calls Tryz.prog 52 #[.slice a 256 cap] w fun e w' => ∃ g c, e = .returned (.slice (some ⟨g, 0, none⟩) 256 c) ∧ Own w.heap.size w' (.slice (some ⟨g, 0, none⟩) 256 c) zs ∧ Below w.heap.size w w' := by
  have := copy_any a cap zs w h (by omega)
  rw [hl] at this
  refine this.mono ?_
  rintro e w' ⟨v, rfl, ho, hb⟩
  obtain ⟨g, c, rfl, _, _⟩ := ho.form (by omega)
  rw [hl] at ho ⊢
  exact ⟨g, c, rfl, ho, hb⟩
theorem copy_drew (a : Option Addr) (cap : Nat) (zs : List Int) (w : World) (h : Row w a cap zs) (hl : zs.length = 256) :
    Calls Tryz.prog 52 #[.slice a 256 cap] w.drew fun e w' => ∃ g c, e = .returned (.slice (some ⟨g, 0, none⟩) 256 c) ∧ Own w.heap.size w' (.slice (some ⟨g, 0, none⟩) 256 c) zs ∧ Below w.heap.size w w' :=
  (copy_page a cap zs w.drew h hl).mono (fun e w' h => by
    obtain ⟨g, c, h1, h2, h3⟩ := h
    exact ⟨g, c, h1, h2, ⟨h3.os, h3.tape, h3.output, h3.size, h3.block⟩⟩)

theorem Rf.set1 {w wr : World} {q k1 k2 j g c gA cA : Nat} {v2 : Value} {s1 s2 : List Value} {f1 f2 f' : Nat → List Int} (h : Rf w wr q k1 k2 (.slice (some ⟨gA, 0, none⟩) k1 cA) v2 s1 s2 f1 f2) (hj : j < k1)
    (ho : Own 0 wr (.slice (some ⟨g, 0, none⟩) 256 c) (f' j)) (hg : ¬ (g = q ∨ gA = g ∨ v2.ownBlock = some g)) (hl : w.heap.size ≤ g) (hz : ∀ i, i < k1 → i ≠ j → f' i = f1 i) :
    Rf w (wr.setCell ⟨gA, j, none⟩ (.slice (some ⟨g, 0, none⟩) 256 c)) q k1 k2 (.slice (some ⟨gA, 0, none⟩) k1 cA) v2 (s1.set j (.slice (some ⟨g, 0, none⟩) 256 c)) s2 f' f2 := by
  have hst := World.ownsRow.stored h.o1 j (.slice (some ⟨g, 0, none⟩) 256 c)
  have hqA : q ≠ gA := fun e => h.n1 (by simp [Value.ownBlock]; exact e.symm)
  have k3 : ∀ b, b ≠ gA → (wr.setCell ⟨gA, j, none⟩ (.slice (some ⟨g, 0, none⟩) 256 c)).heap[b]? = wr.heap[b]? := fun b hb => Below.heap_setCell wr ⟨gA, j, none⟩ _ b hb
  have hM : ∀ b, ¬ (b = q ∨ (Value.slice (some ⟨gA, 0, none⟩) k1 cA).ownBlock = some b ∨ v2.ownBlock = some b) → b ≠ gA := fun b hb e => hb (.inr (.inl (by rw [e]; rfl)))
  have pk : ∀ {s : List Value} {k : Nat} {f : Nat → List Int}, Pgs wr (fun b => b = q ∨ (Value.slice (some ⟨gA, 0, none⟩) k1 cA).ownBlock = some b ∨ v2.ownBlock = some b) w.heap.size s k f → Pgs (wr.setCell ⟨gA, j, none⟩ (.slice (some ⟨g, 0, none⟩) 256 c)) (fun b => b = q ∨ (Value.slice (some ⟨gA, 0, none⟩) k1 cA).ownBlock = some b ∨ v2.ownBlock = some b) w.heap.size s k f := fun hp => hp.keep (fun b _ hm => k3 b (hM b hm))
  have hgA : g ≠ gA := fun e => hg (.inr (.inl e.symm))
  exact { h with
    cells := (k3 q hqA).trans h.cells
    o1 := hst.1
    o2 := owns_keep h.o2 (fun b hb => k3 b (fun e => h.n12 gA rfl (e ▸ hb)))
    p1 := (pk h.p1).set (by have := h.o1.1; omega) hj (ho.kept (k3 g hgA)) (fun e => hg (by rcases e with e | e | e; exact .inl e; simp [Value.ownBlock] at e; exact .inr (.inl e); exact .inr (.inr e))) hl hz
    p2 := pk h.p2
    bel := h.bel.setCell (p := ⟨gA, j, none⟩) (h.l1 gA rfl) _ }

theorem Rf.set2 {w wr : World} {q k1 k2 j g c gA cA : Nat} {v1 : Value} {s1 s2 : List Value} {f1 f2 f' : Nat → List Int} (h : Rf w wr q k1 k2 v1 (.slice (some ⟨gA, 0, none⟩) k2 cA) s1 s2 f1 f2) (hj : j < k2)
    (ho : Own 0 wr (.slice (some ⟨g, 0, none⟩) 256 c) (f' j)) (hg : ¬ (g = q ∨ gA = g ∨ v1.ownBlock = some g)) (hl : w.heap.size ≤ g) (hz : ∀ i, i < k2 → i ≠ j → f' i = f2 i) :
    Rf w (wr.setCell ⟨gA, j, none⟩ (.slice (some ⟨g, 0, none⟩) 256 c)) q k1 k2 v1 (.slice (some ⟨gA, 0, none⟩) k2 cA) s1 (s2.set j (.slice (some ⟨g, 0, none⟩) 256 c)) f1 f' := by
  have hst := World.ownsRow.stored h.o2 j (.slice (some ⟨g, 0, none⟩) 256 c)
  have hqA : q ≠ gA := fun e => h.n2 (by simp [Value.ownBlock]; exact e.symm)
  have k3 : ∀ b, b ≠ gA → (wr.setCell ⟨gA, j, none⟩ (.slice (some ⟨g, 0, none⟩) 256 c)).heap[b]? = wr.heap[b]? := fun b hb => Below.heap_setCell wr ⟨gA, j, none⟩ _ b hb
  have hM : ∀ b, ¬ (b = q ∨ v1.ownBlock = some b ∨ (Value.slice (some ⟨gA, 0, none⟩) k2 cA).ownBlock = some b) → b ≠ gA := fun b hb e => hb (.inr (.inr (by rw [e]; rfl)))
  have pk : ∀ {s : List Value} {k : Nat} {f : Nat → List Int}, Pgs wr (fun b => b = q ∨ v1.ownBlock = some b ∨ (Value.slice (some ⟨gA, 0, none⟩) k2 cA).ownBlock = some b) w.heap.size s k f → Pgs (wr.setCell ⟨gA, j, none⟩ (.slice (some ⟨g, 0, none⟩) 256 c)) (fun b => b = q ∨ v1.ownBlock = some b ∨ (Value.slice (some ⟨gA, 0, none⟩) k2 cA).ownBlock = some b) w.heap.size s k f := fun hp => hp.keep (fun b _ hm => k3 b (hM b hm))
  have hgA : g ≠ gA := fun e => hg (.inr (.inl e.symm))
  exact { h with
    cells := (k3 q hqA).trans h.cells
    o2 := hst.1
    o1 := owns_keep h.o1 (fun b hb => k3 b (fun e => h.n12 gA (e ▸ hb) rfl))
    p2 := (pk h.p2).set (by have := h.o2.1; omega) hj (ho.kept (k3 g hgA)) (fun e => hg (by rcases e with e | e | e; exact .inl e; exact .inr (.inr e); simp [Value.ownBlock] at e; exact .inr (.inl e))) hl hz
    p1 := pk h.p1
    bel := h.bel.setCell (p := ⟨gA, j, none⟩) (h.l2 gA rfl) _ }

/-- Pages up to k are those of L, the rest noughts. -/
def upto (L : List Int) (k i : Nat) : List Int := if i < k then pageOf L i else List.replicate 256 0

end Go.Proofs.YtojckbhbnalkeaaGreat.Oct
