/-
  A device of pages, plainly.
-/
import Derived.Test.YtojckbhbnalkeaaGreatR
import Derived.Deep.AppendLies
import Derived.Deep.MidRow
import Derived.Laws.CopyOwn
namespace Go.Proofs.YtojckbhbnalkeaaGreat.Oct
open Go.RowKit

/-- A device, plainly. -/
structure Dv where
  n : Nat
  now : List Int
  sure : List Int
  since : List (Nat × List Int)
  out : List Int
  fuse : Int
  ops : Nat
  dead : Bool

def bitAt (c : Int) (s : Nat) : Bool := decide (c / 2 ^ s % 2 = 1)

/-- The first s sectors of a page are written where the choice says so. -/
def ontoS (L : List Int) (pg : Nat) (b : List Int) (c : Int) (s : Nat) : List Int :=
  L.mapIdx fun i x => if i / 256 = pg ∧ i % 256 / 64 < s ∧ bitAt c (i % 256 / 64) = true then b.getD (i % 256) 0 else x

def onto (L : List Int) (pg : Nat) (b : List Int) (c : Int) : List Int := ontoS L pg b c 4

theorem ontoS_len (L : List Int) (pg : Nat) (b : List Int) (c : Int) (s : Nat) : (ontoS L pg b c s).length = L.length := by simp [ontoS]
theorem onto_len (L : List Int) (pg : Nat) (b : List Int) (c : Int) : (onto L pg b c).length = L.length := ontoS_len ..

theorem ontoS_at (L : List Int) (pg : Nat) (b : List Int) (c : Int) (s i : Nat) (hi : i < L.length) :
    (ontoS L pg b c s).getD i 0 = if i / 256 = pg ∧ i % 256 / 64 < s ∧ bitAt c (i % 256 / 64) = true then b.getD (i % 256) 0 else L.getD i 0 := by
  unfold ontoS
  simp only [List.getD_eq_getElem?_getD, List.getElem?_mapIdx, List.getElem?_eq_getElem hi, Option.map_some, Option.getD_some]

theorem ontoS_zero (L : List Int) (pg : Nat) (b : List Int) (c : Int) : ontoS L pg b c 0 = L := by
  refine eq_of_getD (ontoS_len ..) fun i hi => ?_
  rw [ontoS_len] at hi
  rw [ontoS_at _ _ _ _ _ _ hi, if_neg (by omega)]

theorem ontoS_skip (L : List Int) (pg : Nat) (b : List Int) (c : Int) (s : Nat) (hs : bitAt c s = false) : ontoS L pg b c (s + 1) = ontoS L pg b c s := by
  refine eq_of_getD (by simp [ontoS_len]) fun i hi => ?_
  rw [ontoS_len] at hi
  rw [ontoS_at _ _ _ _ _ _ hi, ontoS_at _ _ _ _ _ _ hi]
  by_cases h : i % 256 / 64 = s
  · rw [if_neg (by rw [h, hs]; simp), if_neg (by omega)]
  · have e : (i % 256 / 64 < s + 1) = (i % 256 / 64 < s) := propext (by omega)
    simp only [e]

/-- Cells laid over others, from a place on. -/
def lay' (L : List Int) (off : Nat) (cs : List Int) : List Int := L.take off ++ (cs ++ L.drop (off + cs.length))

theorem lay'_len (L : List Int) (off : Nat) (cs : List Int) (h : off + cs.length ≤ L.length) : (lay' L off cs).length = L.length := by simp [lay']; omega

theorem lay'_at (L : List Int) (off : Nat) (cs : List Int) (h : off + cs.length ≤ L.length) (i : Nat) :
    (lay' L off cs).getD i 0 = if off ≤ i ∧ i < off + cs.length then cs.getD (i - off) 0 else L.getD i 0 := by
  unfold lay'
  have hl : (L.take off).length = off := by simp; omega
  rw [app_at, hl]
  by_cases h1 : i < off
  · rw [if_pos h1, if_neg (by omega)]
    simp [List.getD_eq_getElem?_getD, h1]
  · rw [if_neg h1, app_at]
    by_cases h2 : i - off < cs.length
    · rw [if_pos h2, if_pos (by omega)]
    · rw [if_neg h2, if_neg (by omega)]
      simp only [List.getD_eq_getElem?_getD, List.getElem?_drop]
      rw [show off + cs.length + (i - off - cs.length) = i by omega]

/-- Sector s of a page's bytes. -/
def sect (b : List Int) (s : Nat) : List Int := (b.drop (s * 64)).take 64

theorem sect_len {b : List Int} (hb : b.length = 256) {s : Nat} (hs : s < 4) : (sect b s).length = 64 := by simp [sect]; omega
theorem sect_at {b : List Int} (i s : Nat) (hi : i < 64) : (sect b s).getD i 0 = b.getD (s * 64 + i) 0 := by
  simp [sect, List.getD_eq_getElem?_getD, hi, List.getElem?_drop]

theorem ontoS_lay (L : List Int) (pg : Nat) (b : List Int) (c : Int) (s : Nat) (hb : b.length = 256) (h4 : s < 4) (hL : pg * 256 + 256 ≤ L.length) (hs : bitAt c s = true) :
    ontoS L pg b c (s + 1) = lay' (ontoS L pg b c s) (pg * 256 + s * 64) (sect b s) := by
  have hl : (sect b s).length = 64 := sect_len hb h4
  have hfit : pg * 256 + s * 64 + (sect b s).length ≤ (ontoS L pg b c s).length := by rw [ontoS_len, hl]; omega
  refine eq_of_getD (by rw [lay'_len _ _ _ hfit, ontoS_len, ontoS_len]) fun i hi => ?_
  rw [ontoS_len] at hi
  rw [lay'_at _ _ _ hfit, ontoS_at _ _ _ _ _ _ hi, ontoS_at _ _ _ _ _ _ hi, hl]
  by_cases h : pg * 256 + s * 64 ≤ i ∧ i < pg * 256 + s * 64 + 64
  · have h1 : i / 256 = pg := by omega
    have h2 : i % 256 / 64 = s := by omega
    rw [if_pos h, sect_at _ _ (by omega), if_pos ⟨h1, by omega, by rw [h2]; exact hs⟩]
    congr 1
    omega
  · rw [if_neg h]
    by_cases h1 : i / 256 = pg
    · have h2 : ¬ i % 256 / 64 = s := by omega
      have e : (i % 256 / 64 < s + 1) = (i % 256 / 64 < s) := propext (by omega)
      simp only [e]
    · rw [if_neg (by omega), if_neg (by omega)]

theorem onto_bys {L b : List Int} (hL : Bys L) (hb : Bys b) (pg : Nat) (c : Int) (s : Nat) : Bys (ontoS L pg b c s) := by
  intro z hz
  obtain ⟨i, hi, rfl⟩ := List.getElem_of_mem hz
  have hi' : i < L.length := by rw [ontoS_len] at hi; exact hi
  have := ontoS_at L pg b c s i hi'
  rw [List.getD_eq_getElem?_getD, List.getElem?_eq_getElem hi] at this
  simp only [Option.getD_some] at this
  rw [this]
  split
  · exact hb.at _
  · exact hL.at _

/-- What is left of a device's pages behind k of its writes. -/
def fallK (L : List Int) (l : List (Nat × List Int)) (ch : List Int) : Nat → List Int
  | 0 => L
  | k + 1 => onto (fallK L l ch k) (l.getD k (0, [])).1 (l.getD k (0, [])).2 (if k < ch.length then ch.getD k 0 else 15)

theorem fallK_len (L : List Int) (l : List (Nat × List Int)) (ch : List Int) (k : Nat) : (fallK L l ch k).length = L.length := by
  induction k with
  | zero => rfl
  | succ k ih => rw [fallK, onto_len, ih]

/-- A page. -/
def pageOf (L : List Int) (pg : Nat) : List Int := (L.drop (pg * 256)).take 256

structure Dv.ok (D : Dv) : Prop where
  n8 : 8 ≤ D.n
  n4 : D.n ≤ 4096
  now : D.now.length = D.n * 256
  sure : D.sure.length = D.n * 256
  bnow : Bys D.now
  bsure : Bys D.sure
  bout : Bys D.out
  since : ∀ x ∈ D.since, x.1 < D.n ∧ x.2.length = 256 ∧ Bys x.2
  fuse : -1 ≤ D.fuse

theorem fallK_bys {L : List Int} {l : List (Nat × List Int)} (ch : List Int) (hL : Bys L) (hl : ∀ x ∈ l, Bys x.2) (k : Nat) : Bys (fallK L l ch k) := by
  induction k with
  | zero => exact hL
  | succ k ih =>
    rw [fallK]
    refine onto_bys ih ?_ _ _ _
    rw [List.getD_eq_getElem?_getD]
    cases h : l[k]? with
    | none => intro z hz; simp at hz
    | some x => exact hl x (List.mem_of_getElem? h)

/-- An op that neither fails by the fuse nor is done yet. -/
def opD (D : Dv) : Dv := { D with ops := D.ops + 1, fuse := if 0 < D.fuse then D.fuse - 1 else D.fuse, out := D.out.tail }
def oc (D : Dv) : Int := D.out.getD 0 0 % 3
def dieD (D : Dv) : Dv := { D with ops := D.ops + 1, dead := true }
def wrD (D : Dv) (pg : Nat) (b : List Int) : Dv := { D with now := onto D.now pg b 15, since := D.since ++ [(pg, b)] }
def setD (D : Dv) : Dv := { D with sure := D.now, since := [] }

def writeD (D : Dv) (pg : Nat) (b : List Int) : Dv :=
  if D.dead then D else if D.fuse = 0 then wrD (dieD D) pg b else if oc D = 1 then opD D else wrD (opD D) pg b
def syncD (D : Dv) : Dv := if D.dead then D else if D.fuse = 0 then dieD D else if oc D = 1 then opD D else setD (opD D)
def readD (D : Dv) : Dv := if D.dead then D else if D.fuse = 0 then dieD D else opD D
/-- What a Write or a Sync says. -/
def saysD (D : Dv) : Int := if D.dead then 7 else if D.fuse = 0 then 7 else if oc D = 0 then 0 else 7
/-- Does a Read tell? -/
def tellsD (D : Dv) : Bool := !D.dead && !decide (D.fuse = 0) && !decide (oc D = 1)
def fuseD (D : Dv) (f : Int) : Dv := if D.dead then D else { D with fuse := max f (-1) }
def outD (D : Dv) (l : List Int) : Dv := { D with out := D.out ++ l }
/-- A device whose pages are, and last, as L. -/
def newD (L : List Int) : Dv := { n := L.length / 256, now := L, sure := L, since := [], out := [], fuse := -1, ops := 0, dead := false }
def crashD (D : Dv) (ch : List Int) : Dv := newD (fallK D.sure D.since ch D.since.length)

theorem Bys.tail {l : List Int} (h : Bys l) : Bys l.tail := fun z hz => h z (List.mem_of_mem_tail hz)

theorem opD_ok {D : Dv} (h : D.ok) : (opD D).ok := ⟨h.n8, h.n4, h.now, h.sure, h.bnow, h.bsure, h.bout.tail, h.since, by have := h.fuse; simp only [opD]; split <;> omega⟩
theorem dieD_ok {D : Dv} (h : D.ok) : (dieD D).ok := ⟨h.n8, h.n4, h.now, h.sure, h.bnow, h.bsure, h.bout, h.since, h.fuse⟩
theorem setD_ok {D : Dv} (h : D.ok) : (setD D).ok := ⟨h.n8, h.n4, h.now, h.now, h.bnow, h.bnow, h.bout, fun x hx => by simp [setD] at hx, h.fuse⟩
theorem wrD_ok {D : Dv} (h : D.ok) {pg : Nat} {b : List Int} (hp : pg < D.n) (hb : b.length = 256) (hy : Bys b) : (wrD D pg b).ok :=
  ⟨h.n8, h.n4, by simp only [wrD, onto_len]; exact h.now, h.sure, onto_bys h.bnow hy _ _ _, h.bsure, h.bout, fun x hx => by
    rcases List.mem_append.1 hx with hx | hx
    · exact h.since x hx
    · simp at hx; subst hx; exact ⟨hp, hb, hy⟩, h.fuse⟩
theorem fuseD_ok {D : Dv} (h : D.ok) (f : Int) : (fuseD D f).ok := by
  unfold fuseD
  split
  · exact h
  · exact ⟨h.n8, h.n4, h.now, h.sure, h.bnow, h.bsure, h.bout, h.since, by show -1 ≤ max f (-1); omega⟩
theorem outD_ok {D : Dv} (h : D.ok) {l : List Int} (hl : Bys l) : (outD D l).ok := ⟨h.n8, h.n4, h.now, h.sure, h.bnow, h.bsure, h.bout.app hl, h.since, h.fuse⟩
theorem newD_ok {L : List Int} (h : Bys L) (n : Nat) (hl : L.length = n * 256) (h8 : 8 ≤ n) (h4 : n ≤ 4096) : (newD L).ok := by
  have e : L.length / 256 = n := by omega
  refine ⟨?_, ?_, ?_, ?_, h, h, fun z hz => by simp [newD] at hz, fun x hx => by simp [newD] at hx, by simp [newD]⟩
  all_goals (simp only [newD]; rw [e]; assumption)
theorem crashD_ok {D : Dv} (h : D.ok) (ch : List Int) : (crashD D ch).ok :=
  newD_ok (fallK_bys ch h.bsure (fun x hx => (h.since x hx).2.2) _) D.n (by rw [fallK_len, h.sure]) h.n8 h.n4
theorem writeD_ok {D : Dv} (h : D.ok) {pg : Nat} {b : List Int} (hp : pg < D.n) (hb : b.length = 256) (hy : Bys b) : (writeD D pg b).ok := by
  unfold writeD
  split
  · exact h
  · split
    · exact wrD_ok (dieD_ok h) hp hb hy
    · split
      · exact opD_ok h
      · exact wrD_ok (opD_ok h) hp hb hy
theorem syncD_ok {D : Dv} (h : D.ok) : (syncD D).ok := by
  unfold syncD
  split
  · exact h
  · split
    · exact dieD_ok h
    · split
      · exact opD_ok h
      · exact setD_ok (opD_ok h)
theorem readD_ok {D : Dv} (h : D.ok) : (readD D).ok := by
  unfold readD
  split
  · exact h
  · split
    · exact dieD_ok h
    · exact opD_ok h
end Go.Proofs.YtojckbhbnalkeaaGreat.Oct

/-
  What of memory has turned; rows of a device's own; a device in memory.
-/
namespace Go.Proofs.YtojckbhbnalkeaaGreat.Oct
open Go.RowKit

/-- Below block B nothing has turned but what F names. -/
structure Ch (B : Nat) (F : Nat → Prop) (w w' : World) : Prop where
  os : w'.os = w.os
  tape : w'.tape = w.tape
  output : w'.output = w.output
  size : w.heap.size ≤ w'.heap.size
  block : ∀ k, k < B → ¬ F k → w'.heap[k]? = w.heap[k]?

theorem Ch.refl (B : Nat) (F : Nat → Prop) (w : World) : Ch B F w w := ⟨rfl, rfl, rfl, Nat.le_refl _, fun _ _ _ => rfl⟩
theorem Ch.trans {B : Nat} {F : Nat → Prop} {a b c : World} (h : Ch B F a b) (k : Ch B F b c) : Ch B F a c :=
  ⟨k.os.trans h.os, k.tape.trans h.tape, k.output.trans h.output, Nat.le_trans h.size k.size, fun i hi hf => (k.block i hi hf).trans (h.block i hi hf)⟩
theorem Ch.mono {B B' : Nat} {F F' : Nat → Prop} {a b : World} (h : Ch B F a b) (hB : B' ≤ B) (hF : ∀ k, k < B' → F k → F' k) : Ch B' F' a b :=
  ⟨h.os, h.tape, h.output, h.size, fun i hi hf => h.block i (by omega) (fun e => hf (hF i hi e))⟩
theorem Ch.drew {B : Nat} {F : Nat → Prop} {a b : World} (h : Ch B F a b) : Ch B F a b.drew := ⟨h.os, h.tape, h.output, h.size, h.block⟩
theorem Ch.of {B : Nat} {a b : World} (F : Nat → Prop) (h : Below B a b) : Ch B F a b := ⟨h.os, h.tape, h.output, h.size, fun i hi _ => h.block i hi⟩
theorem Ch.below {B : Nat} {F : Nat → Prop} {a b : World} (h : Ch B F a b) (hF : ∀ k, F k → B ≤ k) : Below B a b := ⟨h.os, h.tape, h.output, h.size, fun i hi => h.block i hi (fun e => by have := hF i e; omega)⟩
theorem Ch.alloc {B : Nat} {F : Nat → Prop} {a w : World} (h : Ch B F a w) (hB : B ≤ w.heap.size) (o : Obj) : Ch B F a (w.alloc o) :=
  h.trans (Ch.of F ((Below.refl B w).alloc hB o))
theorem Ch.setCell {B : Nat} {F : Nat → Prop} {a w : World} (h : Ch B F a w) {p : Addr} (hp : B ≤ p.block ∨ F p.block) (u : Value) : Ch B F a (w.setCell p u) :=
  h.trans ⟨rfl, rfl, rfl, by simp [World.setCell], fun k hk hf => Below.heap_setCell _ _ _ _ (by rintro rfl; rcases hp with hp | hp; omega; exact hf hp)⟩
theorem Ch.setRow {B : Nat} {F : Nat → Prop} {a w : World} (h : Ch B F a w) {g : Nat} (hp : B ≤ g ∨ F g) (cs : Array Value) : Ch B F a (w.setRow g cs) :=
  h.trans ⟨rfl, rfl, rfl, by simp [World.setRow], fun k hk hf => setRow_other w g k cs (by rintro rfl; rcases hp with hp | hp; omega; exact hf hp)⟩
theorem Ch.grown {B : Nat} {F : Nat → Prop} {a w w' : World} {row : Option Nat} (h : Ch B F a w) (hg : w.grownBy w' row) (hB : B ≤ w.heap.size) (hr : ∀ k, row = some k → B ≤ k ∨ F k) : Ch B F a w' :=
  h.trans ⟨hg.os, hg.tape, hg.output, hg.size, fun k hk hf => hg.block k (by omega) (fun e => by rcases hr k e.symm with h | h; omega; exact hf h)⟩
theorem Ch.cell {B : Nat} {F : Nat → Prop} {w w' : World} (h : Ch B F w w') {p : Addr} (hp : p.block < B) (hf : ¬ F p.block) : w'.cell? p = w.cell? p := World.cell?_of_block (w := w) (h.block p.block hp hf)
theorem Ch.frozen {B : Nat} {F : Nat → Prop} {w w' : World} (h : Ch B F w w') {p : Addr} (hp : p.block < B) (hf : ¬ F p.block) : w'.frozen? p = w.frozen? p := World.frozen?_of_block (w := w) (h.block p.block hp hf)

theorem Row.ch {w w' : World} {a : Option Addr} {cap : Nat} {zs : List Int} (h : Row w a cap zs) {F : Nat → Prop} (k : Ch w.heap.size F w w') (hF : ∀ x, a = some x → ¬ F x.block) : Row w' a cap zs := by
  obtain ⟨h1, h2, h3, h4⟩ := h
  refine ⟨h1, h2, h3, ?_⟩
  rcases h4 with h4 | ⟨b, off, ha, hc⟩
  · exact .inl h4
  · exact .inr ⟨b, off, ha, fun i hi => (k.cell (p := ⟨b, off + i, none⟩) (block_lt_of_cell (hc i hi)) (hF ⟨b, off, none⟩ ha)).trans (hc i hi)⟩

theorem heap_lt {w : World} {k : Nat} {o : Obj} (h : w.heap[k]? = some o) : k < w.heap.size := (Array.getElem?_eq_some_iff.1 h).1

theorem owns_keep {w w' : World} {base : Nat} {e : TypeId} {size : Nat} {v : Value} {n : Nat} {xs : List Value} (h : w.ownsRow base e size v n xs) (k : ∀ g, v.ownBlock = some g → w'.heap[g]? = w.heap[g]?) : w'.ownsRow base e size v n xs := by
  refine ⟨h.1, ?_⟩
  rcases h.2 with hn | ⟨g, cap, cur, rfl, hb, hgg, rest⟩
  · exact .inl hn
  · exact .inr ⟨g, cap, cur, rfl, hb, (k g rfl).trans hgg, rest⟩

theorem owns_base {w : World} {base base' : Nat} {e : TypeId} {size : Nat} {v : Value} {n : Nat} {xs : List Value} (h : w.ownsRow base e size v n xs) (k : ∀ g, v.ownBlock = some g → base' ≤ g) : w.ownsRow base' e size v n xs := by
  refine ⟨h.1, ?_⟩
  rcases h.2 with hn | ⟨g, cap, cur, rfl, hb, rest⟩
  · exact .inl hn
  · exact .inr ⟨g, cap, cur, rfl, k g rfl, rest⟩

theorem setCell_heap (w : World) (p i : Nat) (v : Value) (cur : Array Value) (t : TypeId) (fr : Nat × Nat) (h : w.heap[p]? = some (.cells cur t fr)) :
    (w.setCell ⟨p, i, none⟩ v).heap[p]? = some (.cells (cur.setIfInBounds i v) t fr) := by
  simp [World.setCell, Array.getElem?_modify, h]

/-- The outcomes: a slice that may begin in the midst of its row. -/
def OutAt (w : World) (v : Value) (zs : List Int) : Prop :=
  (v = .slice none 0 0 ∧ zs = []) ∨ ∃ g off cap cur, v = .slice (some ⟨g, off, none⟩) zs.length cap ∧ w.heap[g]? = some (.cells cur 5 (0, 0)) ∧ zs.length ≤ cap ∧ cap ≤ maxLen ∧ off + cap ≤ cur.size ∧
    ∀ i, i < zs.length → cur[off + i]? = some (.int .u8 (zs.getD i 0))

theorem OutAt.keep {w w' : World} {v : Value} {zs : List Int} (h : OutAt w v zs) (k : ∀ g, v.ownBlock = some g → w'.heap[g]? = w.heap[g]?) : OutAt w' v zs := by
  rcases h with h | ⟨g, off, cap, cur, rfl, hg, rest⟩
  · exact .inl h
  · exact .inr ⟨g, off, cap, cur, rfl, (k g rfl).trans hg, rest⟩

def wcells (x : Nat × List Int) : List Value := .int .i64 x.1 :: x.2.map (Value.int .u8)
def scells (l : List (Nat × List Int)) : List Value := l.flatMap wcells

/-- A device in memory, block by block. -/
structure DevC (w : World) (p gN gL cN cL : Nat) (vS vO : Value) (f : Int) (D : Dv) : Prop where
  cells : w.heap[p]? = some (.cells #[.slice (some ⟨gN, 0, none⟩) D.now.length cN, .slice (some ⟨gL, 0, none⟩) D.sure.length cL, vS, vO, .int .i64 f, .int .i64 D.ops, .bool D.dead] 89 (0, 0))
  now : Own 0 w (.slice (some ⟨gN, 0, none⟩) D.now.length cN) D.now
  sure : Own 0 w (.slice (some ⟨gL, 0, none⟩) D.sure.length cL) D.sure
  since : w.ownsRow 0 104 257 vS D.since.length (scells D.since)
  out : OutAt w vO D.out
  f1 : -9223372036854775808 ≤ f
  f2 : f ≤ 9223372036854775807
  fuse : max f (-1) = D.fuse
  pN : p ≠ gN
  pL : p ≠ gL
  NL : gN ≠ gL
  pS : vS.ownBlock ≠ some p
  NS : vS.ownBlock ≠ some gN
  LS : vS.ownBlock ≠ some gL
  pO : vO.ownBlock ≠ some p
  NO : vO.ownBlock ≠ some gN
  LO : vO.ownBlock ≠ some gL
  SO : ∀ g, vS.ownBlock = some g → vO.ownBlock ≠ some g

/-- Its blocks. -/
def foot (p gN gL : Nat) (vS vO : Value) (k : Nat) : Prop := k = p ∨ k = gN ∨ k = gL ∨ vS.ownBlock = some k ∨ vO.ownBlock = some k

/-- A device in memory: its blocks are among F. -/
def Dev (w : World) (p : Nat) (F : Nat → Prop) (D : Dv) : Prop :=
  D.ok ∧ (∀ k, F k → k < w.heap.size) ∧ ∃ gN gL cN cL vS vO f, DevC w p gN gL cN cL vS vO f D ∧ ∀ k, foot p gN gL vS vO k → F k

theorem DevC.keep {w w' : World} {p gN gL cN cL : Nat} {vS vO : Value} {f : Int} {D : Dv} (h : DevC w p gN gL cN cL vS vO f D) (k : ∀ g, foot p gN gL vS vO g → w'.heap[g]? = w.heap[g]?) : DevC w' p gN gL cN cL vS vO f D :=
  { h with
    cells := (k p (.inl rfl)).trans h.cells
    now := owns_keep h.now (fun g hg => k g (by simp [Value.ownBlock] at hg; exact .inr (.inl hg.symm)))
    sure := owns_keep h.sure (fun g hg => k g (by simp [Value.ownBlock] at hg; exact .inr (.inr (.inl hg.symm))))
    since := owns_keep h.since (fun g hg => k g (.inr (.inr (.inr (.inl hg)))))
    out := h.out.keep (fun g hg => k g (.inr (.inr (.inr (.inr hg))))) }

theorem Dev.keep {w w' : World} {p : Nat} {F : Nat → Prop} {D : Dv} (h : Dev w p F D) (hs : w.heap.size ≤ w'.heap.size) (k : ∀ g, F g → w'.heap[g]? = w.heap[g]?) : Dev w' p F D := by
  obtain ⟨h1, h2, gN, gL, cN, cL, vS, vO, f, h3, h4⟩ := h
  exact ⟨h1, fun g hg => Nat.lt_of_lt_of_le (h2 g hg) hs, gN, gL, cN, cL, vS, vO, f, h3.keep (fun g hg => k g (h4 g hg)), h4⟩

/-- Whatever turns elsewhere leaves a device as it is. -/
theorem Dev.ch {w w' : World} {p : Nat} {F G : Nat → Prop} {D : Dv} (h : Dev w p F D) (hc : Ch w.heap.size G w w') (hd : ∀ k, F k → ¬ G k) : Dev w' p F D :=
  h.keep hc.size (fun g hg => hc.block g (h.2.1 g hg) (hd g hg))

theorem Dev.below {w w' : World} {p : Nat} {F : Nat → Prop} {D : Dv} (h : Dev w p F D) (hc : Below w.heap.size w w') : Dev w' p F D :=
  h.ch (Ch.of (fun _ => False) hc) (fun _ _ h => h)

theorem Dev.p {w : World} {p : Nat} {F : Nat → Prop} {D : Dv} (h : Dev w p F D) : F p ∧ p < w.heap.size := by
  obtain ⟨_, h2, gN, gL, cN, cL, vS, vO, f, h3, h4⟩ := h
  exact ⟨h4 p (.inl rfl), h2 p (h4 p (.inl rfl))⟩

/-- A step of a device: what turned is its own or new. -/
def Step (F F' : Nat → Prop) (w w' : World) : Prop := Ch w.heap.size F w w' ∧ ∀ k, F' k → F k ∨ w.heap.size ≤ k

theorem Step.refl (F : Nat → Prop) (w : World) : Step F F w w := ⟨Ch.refl _ _ _, fun _ h => .inl h⟩
theorem Step.trans {F F1 F2 : Nat → Prop} {w w1 w2 : World} (h : Step F F1 w w1) (k : Step F1 F2 w1 w2) : Step F F2 w w2 := by
  refine ⟨h.1.trans (k.1.mono h.1.size (fun i hi hf => ?_)), fun i hi => ?_⟩
  · rcases h.2 i hf with h | h
    · exact h
    · omega
  · rcases k.2 i hi with k | k
    · exact h.2 i k
    · exact .inr (Nat.le_trans h.1.size k)
theorem Step.below {F F' : Nat → Prop} {w w' : World} (h : Step F F' w w') {B : Nat} (hB : B ≤ w.heap.size) (hF : ∀ k, F k → B ≤ k) : Below B w w' ∧ ∀ k, F' k → B ≤ k :=
  ⟨(h.1.mono hB (fun _ _ e => e)).below hF, fun k hk => by rcases h.2 k hk with h | h; exact hF k h; omega⟩

/-- The facts that a walk over a device wants. -/
theorem DevC.at {w : World} {p gN gL cN cL : Nat} {vS vO : Value} {f : Int} {D : Dv} (h : DevC w p gN gL cN cL vS vO f D) :
    w.cell? ⟨p, 0, none⟩ = some (.slice (some ⟨gN, 0, none⟩) D.now.length cN) ∧ w.cell? ⟨p, 1, none⟩ = some (.slice (some ⟨gL, 0, none⟩) D.sure.length cL) ∧ w.cell? ⟨p, 2, none⟩ = some vS ∧ w.cell? ⟨p, 3, none⟩ = some vO ∧
    w.cell? ⟨p, 4, none⟩ = some (.int .i64 f) ∧ w.cell? ⟨p, 5, none⟩ = some (.int .i64 D.ops) ∧ w.cell? ⟨p, 6, none⟩ = some (.bool D.dead) ∧ ∀ i, w.frozen? ⟨p, i, none⟩ = false := by
  have hc := h.cells
  refine ⟨?_, ?_, ?_, ?_, ?_, ?_, ?_, fun i => ?_⟩
  all_goals first | (rw [cell_of_row w p _ _ _ (0, 0) hc]; rfl) | skip
  unfold World.frozen?
  rw [hc]
  simp
end Go.Proofs.YtojckbhbnalkeaaGreat.Oct
