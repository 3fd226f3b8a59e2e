/-
  What of memory has turned; rows of a device's own; a device in memory.
-/
import Derived.Test.YtojckbhbnalkeaaGa
import Derived.Deep.AppendLies
import Derived.Deep.MidRow
import Derived.Laws.CopyOwn
namespace Go.Proofs.Ytojckbhbnalkeaa.Oct
open Go.RowKit

/-- Below block B nothing has turned but what F names. -/
structure Ch (B : Nat) (F : Nat → Prop) (w w' : World) : Prop where
  os : w'.os = w.os
  tape : w'.tape = w.tape
  output : w'.output = w.output
  size : w.heap.size ≤ w'.heap.size
  block : ∀ k, k < B → ¬ F k → w'.heap[k]? = w.heap[k]?

theorem Ch.refl (B : Nat) (F : Nat → Prop) (w : World) : Ch B F w w := ⟨rfl, rfl, rfl, Nat.le_refl _, fun _ _ _ => rfl⟩
theorem Ch.trans {B : Nat} {F : Nat → Prop} {a b c : World} (h : Ch B F a b) (k : Ch B F b c) : Ch B F a c :=
  ⟨k.os.trans h.os, k.tape.trans h.tape, k.output.trans h.output, Nat.le_trans h.size k.size, fun i hi hf => (k.block i hi hf).trans (h.block i hi hf)⟩
theorem Ch.mono {B B' : Nat} {F F' : Nat → Prop} {a b : World} (h : Ch B F a b) (hB : B' ≤ B) (hF : ∀ k, k < B' → F k → F' k) : Ch B' F' a b :=
  ⟨h.os, h.tape, h.output, h.size, fun i hi hf => h.block i (by omega) (fun e => hf (hF i hi e))⟩
theorem Ch.drew {B : Nat} {F : Nat → Prop} {a b : World} (h : Ch B F a b) : Ch B F a b.drew := ⟨h.os, h.tape, h.output, h.size, h.block⟩
theorem Ch.of {B : Nat} {a b : World} (F : Nat → Prop) (h : Below B a b) : Ch B F a b := ⟨h.os, h.tape, h.output, h.size, fun i hi _ => h.block i hi⟩
theorem Ch.below {B : Nat} {F : Nat → Prop} {a b : World} (h : Ch B F a b) (hF : ∀ k, F k → B ≤ k) : Below B a b := ⟨h.os, h.tape, h.output, h.size, fun i hi => h.block i hi (fun e => by have := hF i e; omega)⟩
theorem Ch.alloc {B : Nat} {F : Nat → Prop} {a w : World} (h : Ch B F a w) (hB : B ≤ w.heap.size) (o : Obj) : Ch B F a (w.alloc o) :=
  h.trans (Ch.of F ((Below.refl B w).alloc hB o))
theorem Ch.setCell {B : Nat} {F : Nat → Prop} {a w : World} (h : Ch B F a w) {p : Addr} (hp : B ≤ p.block ∨ F p.block) (u : Value) : Ch B F a (w.setCell p u) :=
  h.trans ⟨rfl, rfl, rfl, by simp [World.setCell], fun k hk hf => Below.heap_setCell _ _ _ _ (by rintro rfl; rcases hp with hp | hp; omega; exact hf hp)⟩
theorem Ch.setRow {B : Nat} {F : Nat → Prop} {a w : World} (h : Ch B F a w) {g : Nat} (hp : B ≤ g ∨ F g) (cs : Array Value) : Ch B F a (w.setRow g cs) :=
  h.trans ⟨rfl, rfl, rfl, by simp [World.setRow], fun k hk hf => setRow_other w g k cs (by rintro rfl; rcases hp with hp | hp; omega; exact hf hp)⟩
theorem Ch.grown {B : Nat} {F : Nat → Prop} {a w w' : World} {row : Option Nat} (h : Ch B F a w) (hg : w.grownBy w' row) (hB : B ≤ w.heap.size) (hr : ∀ k, row = some k → B ≤ k ∨ F k) : Ch B F a w' :=
  h.trans ⟨hg.os, hg.tape, hg.output, hg.size, fun k hk hf => hg.block k (by omega) (fun e => by rcases hr k e.symm with h | h; omega; exact hf h)⟩
theorem Ch.cell {B : Nat} {F : Nat → Prop} {w w' : World} (h : Ch B F w w') {p : Addr} (hp : p.block < B) (hf : ¬ F p.block) : w'.cell? p = w.cell? p := World.cell?_of_block (w := w) (h.block p.block hp hf)
theorem Ch.frozen {B : Nat} {F : Nat → Prop} {w w' : World} (h : Ch B F w w') {p : Addr} (hp : p.block < B) (hf : ¬ F p.block) : w'.frozen? p = w.frozen? p := World.frozen?_of_block (w := w) (h.block p.block hp hf)

theorem Row.ch {w w' : World} {a : Option Addr} {cap : Nat} {zs : List Int} (h : Row w a cap zs) {F : Nat → Prop} (k : Ch w.heap.size F w w') (hF : ∀ x, a = some x → ¬ F x.block) : Row w' a cap zs := by
  obtain ⟨h1, h2, h3, h4⟩ := h
  refine ⟨h1, h2, h3, ?_⟩
  rcases h4 with h4 | ⟨b, off, ha, hc⟩
  · exact .inl h4
  · exact .inr ⟨b, off, ha, fun i hi => (k.cell (p := ⟨b, off + i, none⟩) (block_lt_of_cell (hc i hi)) (hF ⟨b, off, none⟩ ha)).trans (hc i hi)⟩

theorem heap_lt {w : World} {k : Nat} {o : Obj} (h : w.heap[k]? = some o) : k < w.heap.size := (Array.getElem?_eq_some_iff.1 h).1

theorem owns_keep {w w' : World} {base : Nat} {e : TypeId} {size : Nat} {v : Value} {n : Nat} {xs : List Value} (h : w.ownsRow base e size v n xs) (k : ∀ g, v.ownBlock = some g → w'.heap[g]? = w.heap[g]?) : w'.ownsRow base e size v n xs := by
  refine ⟨h.1, ?_⟩
  rcases h.2 with hn | ⟨g, cap, cur, rfl, hb, hgg, rest⟩
  · exact .inl hn
  · exact .inr ⟨g, cap, cur, rfl, hb, (k g rfl).trans hgg, rest⟩

theorem owns_base {w : World} {base base' : Nat} {e : TypeId} {size : Nat} {v : Value} {n : Nat} {xs : List Value} (h : w.ownsRow base e size v n xs) (k : ∀ g, v.ownBlock = some g → base' ≤ g) : w.ownsRow base' e size v n xs := by
  refine ⟨h.1, ?_⟩
  rcases h.2 with hn | ⟨g, cap, cur, rfl, hb, rest⟩
  · exact .inl hn
  · exact .inr ⟨g, cap, cur, rfl, k g rfl, rest⟩

theorem setCell_heap (w : World) (p i : Nat) (v : Value) (cur : Array Value) (t : TypeId) (fr : Nat × Nat) (h : w.heap[p]? = some (.cells cur t fr)) :
    (w.setCell ⟨p, i, none⟩ v).heap[p]? = some (.cells (cur.setIfInBounds i v) t fr) := by
  simp [World.setCell, Array.getElem?_modify, h]

/-- The outcomes: a slice that may begin in the midst of its row. -/
def OutAt (w : World) (v : Value) (zs : List Int) : Prop :=
  (v = .slice none 0 0 ∧ zs = []) ∨ ∃ g off cap cur, v = .slice (some ⟨g, off, none⟩) zs.length cap ∧ w.heap[g]? = some (.cells cur 5 (0, 0)) ∧ zs.length ≤ cap ∧ cap ≤ maxLen ∧ off + cap ≤ cur.size ∧
    ∀ i, i < zs.length → cur[off + i]? = some (.int .u8 (zs.getD i 0))

theorem OutAt.keep {w w' : World} {v : Value} {zs : List Int} (h : OutAt w v zs) (k : ∀ g, v.ownBlock = some g → w'.heap[g]? = w.heap[g]?) : OutAt w' v zs := by
  rcases h with h | ⟨g, off, cap, cur, rfl, hg, rest⟩
  · exact .inl h
  · exact .inr ⟨g, off, cap, cur, rfl, (k g rfl).trans hg, rest⟩

def wcells (x : Nat × List Int) : List Value := .int .i64 x.1 :: x.2.map (Value.int .u8)
def scells (l : List (Nat × List Int)) : List Value := l.flatMap wcells

/-- A device in memory, block by block. -/
structure DevC (w : World) (p gN gL cN cL : Nat) (vS vO : Value) (f : Int) (D : Dv) : Prop where
  cells : w.heap[p]? = some (.cells #[.slice (some ⟨gN, 0, none⟩) D.now.length cN, .slice (some ⟨gL, 0, none⟩) D.sure.length cL, vS, vO, .int .i64 f, .int .i64 D.ops, .bool D.dead] 72 (0, 0))
  now : Own 0 w (.slice (some ⟨gN, 0, none⟩) D.now.length cN) D.now
  sure : Own 0 w (.slice (some ⟨gL, 0, none⟩) D.sure.length cL) D.sure
  since : w.ownsRow 0 81 257 vS D.since.length (scells D.since)
  out : OutAt w vO D.out
  f1 : -9223372036854775808 ≤ f
  f2 : f ≤ 9223372036854775807
  fuse : max f (-1) = D.fuse
  pN : p ≠ gN
  pL : p ≠ gL
  NL : gN ≠ gL
  pS : vS.ownBlock ≠ some p
  NS : vS.ownBlock ≠ some gN
  LS : vS.ownBlock ≠ some gL
  pO : vO.ownBlock ≠ some p
  NO : vO.ownBlock ≠ some gN
  LO : vO.ownBlock ≠ some gL
  SO : ∀ g, vS.ownBlock = some g → vO.ownBlock ≠ some g

/-- Its blocks. -/
def foot (p gN gL : Nat) (vS vO : Value) (k : Nat) : Prop := k = p ∨ k = gN ∨ k = gL ∨ vS.ownBlock = some k ∨ vO.ownBlock = some k

/-- A device in memory: its blocks are among F. -/
def Dev (w : World) (p : Nat) (F : Nat → Prop) (D : Dv) : Prop :=
  D.ok ∧ (∀ k, F k → k < w.heap.size) ∧ ∃ gN gL cN cL vS vO f, DevC w p gN gL cN cL vS vO f D ∧ ∀ k, foot p gN gL vS vO k → F k

theorem DevC.keep {w w' : World} {p gN gL cN cL : Nat} {vS vO : Value} {f : Int} {D : Dv} (h : DevC w p gN gL cN cL vS vO f D) (k : ∀ g, foot p gN gL vS vO g → w'.heap[g]? = w.heap[g]?) : DevC w' p gN gL cN cL vS vO f D :=
  { h with
    cells := (k p (.inl rfl)).trans h.cells
    now := owns_keep h.now (fun g hg => k g (by simp [Value.ownBlock] at hg; exact .inr (.inl hg.symm)))
    sure := owns_keep h.sure (fun g hg => k g (by simp [Value.ownBlock] at hg; exact .inr (.inr (.inl hg.symm))))
    since := owns_keep h.since (fun g hg => k g (.inr (.inr (.inr (.inl hg)))))
    out := h.out.keep (fun g hg => k g (.inr (.inr (.inr (.inr hg))))) }

theorem Dev.keep {w w' : World} {p : Nat} {F : Nat → Prop} {D : Dv} (h : Dev w p F D) (hs : w.heap.size ≤ w'.heap.size) (k : ∀ g, F g → w'.heap[g]? = w.heap[g]?) : Dev w' p F D := by
  obtain ⟨h1, h2, gN, gL, cN, cL, vS, vO, f, h3, h4⟩ := h
  exact ⟨h1, fun g hg => Nat.lt_of_lt_of_le (h2 g hg) hs, gN, gL, cN, cL, vS, vO, f, h3.keep (fun g hg => k g (h4 g hg)), h4⟩

/-- Whatever turns elsewhere leaves a device as it is. -/
theorem Dev.ch {w w' : World} {p : Nat} {F G : Nat → Prop} {D : Dv} (h : Dev w p F D) (hc : Ch w.heap.size G w w') (hd : ∀ k, F k → ¬ G k) : Dev w' p F D :=
  h.keep hc.size (fun g hg => hc.block g (h.2.1 g hg) (hd g hg))

theorem Dev.below {w w' : World} {p : Nat} {F : Nat → Prop} {D : Dv} (h : Dev w p F D) (hc : Below w.heap.size w w') : Dev w' p F D :=
  h.ch (Ch.of (fun _ => False) hc) (fun _ _ h => h)

theorem Dev.p {w : World} {p : Nat} {F : Nat → Prop} {D : Dv} (h : Dev w p F D) : F p ∧ p < w.heap.size := by
  obtain ⟨_, h2, gN, gL, cN, cL, vS, vO, f, h3, h4⟩ := h
  exact ⟨h4 p (.inl rfl), h2 p (h4 p (.inl rfl))⟩

/-- A step of a device: what turned is its own or new. -/
def Step (F F' : Nat → Prop) (w w' : World) : Prop := Ch w.heap.size F w w' ∧ ∀ k, F' k → F k ∨ w.heap.size ≤ k

theorem Step.refl (F : Nat → Prop) (w : World) : Step F F w w := ⟨Ch.refl _ _ _, fun _ h => .inl h⟩
theorem Step.trans {F F1 F2 : Nat → Prop} {w w1 w2 : World} (h : Step F F1 w w1) (k : Step F1 F2 w1 w2) : Step F F2 w w2 := by
  refine ⟨h.1.trans (k.1.mono h.1.size (fun i hi hf => ?_)), fun i hi => ?_⟩
  · rcases h.2 i hf with h | h
    · exact h
    · omega
  · rcases k.2 i hi with k | k
    · exact h.2 i k
    · exact .inr (Nat.le_trans h.1.size k)
theorem Step.below {F F' : Nat → Prop} {w w' : World} (h : Step F F' w w') {B : Nat} (hB : B ≤ w.heap.size) (hF : ∀ k, F k → B ≤ k) : Below B w w' ∧ ∀ k, F' k → B ≤ k :=
  ⟨(h.1.mono hB (fun _ _ e => e)).below hF, fun k hk => by rcases h.2 k hk with h | h; exact hF k h; omega⟩

/-- The facts that a walk over a device wants. -/
theorem DevC.at {w : World} {p gN gL cN cL : Nat} {vS vO : Value} {f : Int} {D : Dv} (h : DevC w p gN gL cN cL vS vO f D) :
    w.cell? ⟨p, 0, none⟩ = some (.slice (some ⟨gN, 0, none⟩) D.now.length cN) ∧ w.cell? ⟨p, 1, none⟩ = some (.slice (some ⟨gL, 0, none⟩) D.sure.length cL) ∧ w.cell? ⟨p, 2, none⟩ = some vS ∧ w.cell? ⟨p, 3, none⟩ = some vO ∧
    w.cell? ⟨p, 4, none⟩ = some (.int .i64 f) ∧ w.cell? ⟨p, 5, none⟩ = some (.int .i64 D.ops) ∧ w.cell? ⟨p, 6, none⟩ = some (.bool D.dead) ∧ ∀ i, w.frozen? ⟨p, i, none⟩ = false := by
  have hc := h.cells
  refine ⟨?_, ?_, ?_, ?_, ?_, ?_, ?_, fun i => ?_⟩
  all_goals first | (rw [cell_of_row w p _ _ _ (0, 0) hc]; rfl) | skip
  unfold World.frozen?
  rw [hc]
  simp
end Go.Proofs.Ytojckbhbnalkeaa.Oct
