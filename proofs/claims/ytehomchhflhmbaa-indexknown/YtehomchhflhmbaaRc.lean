/-
  What of memory has turned; rows of one's own, kept.
-/
import Derived.Test.YtehomchhflhmbaaR
import Derived.Deep.MidRow
import Derived.Laws.CopyOwn
import Derived.OwnWalk
namespace Go.Proofs.Ytehomchhflhmbaa.Oct
open Go.RowKit

/-- Below block B nothing has turned but what F names. -/
structure Ch (B : Nat) (F : Nat → Prop) (w w' : World) : Prop where
  os : w'.os = w.os
  tape : w'.tape = w.tape
  output : w'.output = w.output
  size : w.heap.size ≤ w'.heap.size
  block : ∀ k, k < B → ¬ F k → w'.heap[k]? = w.heap[k]?

theorem Ch.refl (B : Nat) (F : Nat → Prop) (w : World) : Ch B F w w := ⟨rfl, rfl, rfl, Nat.le_refl _, fun _ _ _ => rfl⟩
theorem Ch.trans {B : Nat} {F : Nat → Prop} {a b c : World} (h : Ch B F a b) (k : Ch B F b c) : Ch B F a c :=
  ⟨k.os.trans h.os, k.tape.trans h.tape, k.output.trans h.output, Nat.le_trans h.size k.size, fun i hi hf => (k.block i hi hf).trans (h.block i hi hf)⟩
theorem Ch.mono {B B' : Nat} {F F' : Nat → Prop} {a b : World} (h : Ch B F a b) (hB : B' ≤ B) (hF : ∀ k, k < B' → F k → F' k) : Ch B' F' a b :=
  ⟨h.os, h.tape, h.output, h.size, fun i hi hf => h.block i (by omega) (fun e => hf (hF i hi e))⟩
theorem Ch.drew {B : Nat} {F : Nat → Prop} {a b : World} (h : Ch B F a b) : Ch B F a b.drew := ⟨h.os, h.tape, h.output, h.size, h.block⟩
theorem Ch.of {B : Nat} {a b : World} (F : Nat → Prop) (h : Below B a b) : Ch B F a b := ⟨h.os, h.tape, h.output, h.size, fun i hi _ => h.block i hi⟩
theorem Ch.below {B : Nat} {F : Nat → Prop} {a b : World} (h : Ch B F a b) (hF : ∀ k, F k → B ≤ k) : Below B a b := ⟨h.os, h.tape, h.output, h.size, fun i hi => h.block i hi (fun e => by have := hF i e; omega)⟩
theorem Ch.alloc {B : Nat} {F : Nat → Prop} {a w : World} (h : Ch B F a w) (hB : B ≤ w.heap.size) (o : Obj) : Ch B F a (w.alloc o) :=
  h.trans (Ch.of F ((Below.refl B w).alloc hB o))
theorem Ch.setCell {B : Nat} {F : Nat → Prop} {a w : World} (h : Ch B F a w) {p : Addr} (hp : B ≤ p.block ∨ F p.block) (u : Value) : Ch B F a (w.setCell p u) :=
  h.trans ⟨rfl, rfl, rfl, by simp [World.setCell], fun k hk hf => Below.heap_setCell _ _ _ _ (by rintro rfl; rcases hp with hp | hp; omega; exact hf hp)⟩
theorem Ch.setRow {B : Nat} {F : Nat → Prop} {a w : World} (h : Ch B F a w) {g : Nat} (hp : B ≤ g ∨ F g) (cs : Array Value) : Ch B F a (w.setRow g cs) :=
  h.trans ⟨rfl, rfl, rfl, by simp [World.setRow], fun k hk hf => setRow_other w g k cs (by rintro rfl; rcases hp with hp | hp; omega; exact hf hp)⟩
theorem Ch.grown {B : Nat} {F : Nat → Prop} {a w w' : World} {row : Option Nat} (h : Ch B F a w) (hg : w.grownBy w' row) (hB : B ≤ w.heap.size) (hr : ∀ k, row = some k → B ≤ k ∨ F k) : Ch B F a w' :=
  h.trans ⟨hg.os, hg.tape, hg.output, hg.size, fun k hk hf => hg.block k (by omega) (fun e => by rcases hr k e.symm with h | h; omega; exact hf h)⟩
theorem Ch.cell {B : Nat} {F : Nat → Prop} {w w' : World} (h : Ch B F w w') {p : Addr} (hp : p.block < B) (hf : ¬ F p.block) : w'.cell? p = w.cell? p := World.cell?_of_block (w := w) (h.block p.block hp hf)
theorem Ch.frozen {B : Nat} {F : Nat → Prop} {w w' : World} (h : Ch B F w w') {p : Addr} (hp : p.block < B) (hf : ¬ F p.block) : w'.frozen? p = w.frozen? p := World.frozen?_of_block (w := w) (h.block p.block hp hf)

theorem Row.ch {w w' : World} {a : Option Addr} {cap : Nat} {zs : List Int} (h : Row w a cap zs) {F : Nat → Prop} (k : Ch w.heap.size F w w') (hF : ∀ x, a = some x → ¬ F x.block) : Row w' a cap zs := by
  obtain ⟨h1, h2, h3, h4⟩ := h
  refine ⟨h1, h2, h3, ?_⟩
  rcases h4 with h4 | ⟨b, off, ha, hc⟩
  · exact .inl h4
  · exact .inr ⟨b, off, ha, fun i hi => (k.cell (p := ⟨b, off + i, none⟩) (block_lt_of_cell (hc i hi)) (hF ⟨b, off, none⟩ ha)).trans (hc i hi)⟩

theorem heap_lt {w : World} {k : Nat} {o : Obj} (h : w.heap[k]? = some o) : k < w.heap.size := (Array.getElem?_eq_some_iff.1 h).1

theorem owns_keep {w w' : World} {base : Nat} {e : TypeId} {size : Nat} {v : Value} {n : Nat} {xs : List Value} (h : w.ownsRow base e size v n xs) (k : ∀ g, v.ownBlock = some g → w'.heap[g]? = w.heap[g]?) : w'.ownsRow base e size v n xs := by
  refine ⟨h.1, ?_⟩
  rcases h.2 with hn | ⟨g, cap, cur, rfl, hb, hgg, rest⟩
  · exact .inl hn
  · exact .inr ⟨g, cap, cur, rfl, hb, (k g rfl).trans hgg, rest⟩

theorem owns_base {w : World} {base base' : Nat} {e : TypeId} {size : Nat} {v : Value} {n : Nat} {xs : List Value} (h : w.ownsRow base e size v n xs) (k : ∀ g, v.ownBlock = some g → base' ≤ g) : w.ownsRow base' e size v n xs := by
  refine ⟨h.1, ?_⟩
  rcases h.2 with hn | ⟨g, cap, cur, rfl, hb, rest⟩
  · exact .inl hn
  · exact .inr ⟨g, cap, cur, rfl, k g rfl, rest⟩

theorem setCell_heap (w : World) (p i : Nat) (v : Value) (cur : Array Value) (t : TypeId) (fr : Nat × Nat) (h : w.heap[p]? = some (.cells cur t fr)) :
    (w.setCell ⟨p, i, none⟩ v).heap[p]? = some (.cells (cur.setIfInBounds i v) t fr) := by
  simp [World.setCell, Array.getElem?_modify, h]

/-- A step of a thing in memory: what turned is its own or new. -/
def Step (F F' : Nat → Prop) (w w' : World) : Prop := Ch w.heap.size F w w' ∧ ∀ k, F' k → F k ∨ w.heap.size ≤ k

theorem Step.refl (F : Nat → Prop) (w : World) : Step F F w w := ⟨Ch.refl _ _ _, fun _ h => .inl h⟩
theorem Step.trans {F F1 F2 : Nat → Prop} {w w1 w2 : World} (h : Step F F1 w w1) (k : Step F1 F2 w1 w2) : Step F F2 w w2 := by
  refine ⟨h.1.trans (k.1.mono h.1.size (fun i hi hf => ?_)), fun i hi => ?_⟩
  · rcases h.2 i hf with h | h
    · exact h
    · omega
  · rcases k.2 i hi with k | k
    · exact h.2 i k
    · exact .inr (Nat.le_trans h.1.size k)
theorem Step.below {F F' : Nat → Prop} {w w' : World} (h : Step F F' w w') {B : Nat} (hB : B ≤ w.heap.size) (hF : ∀ k, F k → B ≤ k) : Below B w w' ∧ ∀ k, F' k → B ≤ k :=
  ⟨(h.1.mono hB (fun _ _ e => e)).below hF, fun k hk => by rcases h.2 k hk with h | h; exact hF k h; omega⟩

theorem Own.lt2 {base g n cap : Nat} {w : World} {zs : List Int} (h : Own base w (.slice (some ⟨g, 0, none⟩) n cap) zs) : base ≤ g ∧ g < w.heap.size := World.ownsRow.lt h g rfl

theorem Own.kept {base g n cap : Nat} {w w' : World} {zs : List Int} (h : Own base w (.slice (some ⟨g, 0, none⟩) n cap) zs) (k : w'.heap[g]? = w.heap[g]?) : Own base w' (.slice (some ⟨g, 0, none⟩) n cap) zs :=
  owns_keep h (fun x hx => by simp [Value.ownBlock] at hx; rw [← hx]; exact k)

theorem Own.zero {base g n cap : Nat} {w : World} {zs : List Int} (h : Own base w (.slice (some ⟨g, 0, none⟩) n cap) zs) : Own 0 w (.slice (some ⟨g, 0, none⟩) n cap) zs :=
  owns_base h (fun _ _ => Nat.zero_le _)

theorem made_own {B g N : Nat} {w : World} (h : w.ownsRow B 5 1 (.slice (some ⟨g, 0, none⟩) N N) N (madeCells (Value.int .u8 0).cells (N * 1)).toList) : Own B w (.slice (some ⟨g, 0, none⟩) N N) (List.replicate N 0) := by
  unfold Own
  rw [show (Value.int .u8 0).cells = #[Value.int .u8 0] from rfl, toList_madeCells_one, Nat.mul_one] at h
  rw [List.length_replicate, List.map_replicate]
  exact h

theorem bys_rep (n : Nat) : Bys (List.replicate n 0) := fun z hz => by rw [(List.mem_replicate.1 hz).2]; omega

theorem Ch.set {w : World} {p : Nat} {F : Nat → Prop} (hp : F p) (i : Nat) (v : Value) : Ch w.heap.size F w (w.setCell ⟨p, i, none⟩ v) := (Ch.refl _ F w).setCell (p := ⟨p, i, none⟩) (.inr hp) v

theorem size_setCell (w : World) (a : Addr) (v : Value) : (w.setCell a v).heap.size = w.heap.size := by simp [World.setCell]

theorem Step.of {F : Nat → Prop} {w w' : World} (h : Ch w.heap.size F w w') : Step F F w w' := ⟨h, fun _ h => .inl h⟩
theorem Step.ofB {F : Nat → Prop} {w w' : World} (h : Below w.heap.size w w') : Step F F w w' := Step.of (Ch.of F h)

theorem Row.take' {w : World} {a : Option Addr} {cap : Nat} {zs : List Int} (h : Row w a cap zs) (k c : Nat) (hk : k ≤ zs.length) (hkc : k ≤ c) (hc : c ≤ cap) : Row w a c (zs.take k) := by
  obtain ⟨h1, h2, h3, h4⟩ := h
  refine ⟨fun z hz => h1 z (List.mem_of_mem_take hz), by rw [List.length_take]; omega, by omega, ?_⟩
  rcases h4 with h4 | ⟨b, off, ha, hcell⟩
  · exact .inl (by rw [h4, List.take_nil])
  · refine .inr ⟨b, off, ha, fun i hi => ?_⟩
    rw [List.length_take] at hi
    rw [hcell i (by omega), List.getD_eq_getElem?_getD, List.getD_eq_getElem?_getD, List.getElem?_take, if_pos (by omega)]

theorem row0 (w : World) : Row w none 0 [] := ⟨fun z hz => (by cases hz), Nat.le_refl _, by simp [maxLen], .inl rfl⟩
end Go.Proofs.Ytehomchhflhmbaa.Oct
