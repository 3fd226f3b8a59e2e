/-
  What a space in memory keeps, of whatever make it is; rows of deeds that came in.
-/
import Derived.Test.YtdmahobldghojaaSg
import Derived.Test.YtdmahobldghojaaOg
import Derived.Deep.Slices
import Derived.ChangeSame
import Derived.ProofKit
namespace Go.Proofs.Ytdmahobldghojaa.Oct
open Go.RowKit Go.ChangeShapes Go.WideShapes

def inB (S : List Int) (p : Int) : Bool := decide (0 ≤ p) && decide (p < (S.length : Int))

/-- How loading ends. -/
def LdS (Sp : World → Nat → (Nat → Prop) → List Int → Prop) (w : World) (zs : List Int) (n : Int) (e : Ending) (w' : World) : Prop :=
  Below w.heap.size w w' ∧ ((ldE zs n ≠ 0 ∧ e = .returned (.tuple #[.pointer none, .int .i64 (ldE zs n)])) ∨ (ldE zs n = 0 ∧ ∃ s F, e = .returned (.tuple #[.pointer (some ⟨s, 0, none⟩), .int .i64 0]) ∧ Sp w' s F (ldS zs n.toNat) ∧ ∀ k, F k → w.heap.size ≤ k))

/-- What is known of a space in memory: it stays where nothing of its own turns, and each call does what is said of it. -/
structure SpC (Sp : World → Nat → (Nat → Prop) → List Int → Prop) : Prop where
  ch : ∀ {w w' : World} {s : Nat} {F G : Nat → Prop} {S : List Int}, Sp w s F S → Ch w.heap.size G w w' → (∀ k, F k → ¬ G k) → Sp w' s F S
  lt : ∀ {w : World} {s : Nat} {F : Nat → Prop} {S : List Int}, Sp w s F S → ∀ k, F k → k < w.heap.size
  ok : ∀ {w : World} {s : Nat} {F : Nat → Prop} {S : List Int}, Sp w s F S → SpOk S
  new_no : ∀ (n : Int) (w : World), -9223372036854775808 ≤ n ∧ n ≤ 9223372036854775807 → ¬ (8 ≤ n ∧ n ≤ 4096) → Calls Try.prog 9 #[.int .i64 n] w fun e w' => e = .returned (.tuple #[.pointer none, .int .i64 1]) ∧ Below w.heap.size w w'
  new_yes : ∀ (n : Nat) (w : World), 8 ≤ n → n ≤ 4096 → Calls Try.prog 9 #[.int .i64 n] w fun e w' => ∃ s F, e = .returned (.tuple #[.pointer (some ⟨s, 0, none⟩), .int .i64 0]) ∧ Sp w' s F (newS n) ∧ Below w.heap.size w w' ∧ ∀ k, F k → w.heap.size ≤ k
  load : ∀ (n : Int) (a : Option Addr) (cap : Nat) (zs : List Int) (w : World), -9223372036854775808 ≤ n ∧ n ≤ 9223372036854775807 → Row w a cap zs → (a = none → cap = 0) → zs.length ≤ 1000000 → Calls Try.prog 30 #[.int .i64 n, .slice a zs.length cap] w (LdS Sp w zs n)
  alloc : ∀ {w : World} {s : Nat} {F : Nat → Prop} {S : List Int}, Sp w s F S → Calls Try.prog 10 #[.pointer (some ⟨s, 0, none⟩)] w fun e w' => e = .returned (.tuple #[.int .i64 (alN S), .int .i64 (alE S)]) ∧ ∃ F', Sp w' s F' (alL S) ∧ Step F F' w w'
  give : ∀ {w : World} {s : Nat} {F : Nat → Prop} {S : List Int}, Sp w s F S → ∀ p : Int, -9223372036854775808 ≤ p ∧ p ≤ 9223372036854775807 → Calls Try.prog 11 #[.pointer (some ⟨s, 0, none⟩), .int .i64 p] w fun e w' => e = .returned (.int .i64 (gvE S p)) ∧ ∃ F', Sp w' s F' (gvL S p) ∧ Step F F' w w'
  commit : ∀ {w : World} {s : Nat} {F : Nat → Prop} {S : List Int}, Sp w s F S → Calls Try.prog 12 #[.pointer (some ⟨s, 0, none⟩)] w fun e w' => e = .returned (.tuple #[]) ∧ ∃ F', Sp w' s F' (trS 1 0 S) ∧ Step F F' w w'
  doubt : ∀ {w : World} {s : Nat} {F : Nat → Prop} {S : List Int}, Sp w s F S → Calls Try.prog 18 #[.pointer (some ⟨s, 0, none⟩)] w fun e w' => e = .returned (.tuple #[]) ∧ ∃ F', Sp w' s F' (trS 1 3 S) ∧ Step F F' w w'
  abort : ∀ {w : World} {s : Nat} {F : Nat → Prop} {S : List Int}, Sp w s F S → Calls Try.prog 20 #[.pointer (some ⟨s, 0, none⟩)] w fun e w' => e = .returned (.tuple #[]) ∧ ∃ F', Sp w' s F' (trS 0 1 S) ∧ Step F F' w w'
  free : ∀ {w : World} {s : Nat} {F : Nat → Prop} {S : List Int}, Sp w s F S → Calls Try.prog 13 #[.pointer (some ⟨s, 0, none⟩)] w fun e w' => e = .returned (.int .i64 (S.count 0)) ∧ Below w.heap.size w w'
  used : ∀ {w : World} {s : Nat} {F : Nat → Prop} {S : List Int}, Sp w s F S → ∀ p : Int, -9223372036854775808 ≤ p ∧ p ≤ 9223372036854775807 → Calls Try.prog 26 #[.pointer (some ⟨s, 0, none⟩), .int .i64 p] w fun e w' => e = .returned (.bool (inB S p && !isB S p 0)) ∧ Below w.heap.size w w'
  own : ∀ {w : World} {s : Nat} {F : Nat → Prop} {S : List Int}, Sp w s F S → ∀ p : Int, -9223372036854775808 ≤ p ∧ p ≤ 9223372036854775807 → Calls Try.prog 24 #[.pointer (some ⟨s, 0, none⟩), .int .i64 p] w fun e w' => e = .returned (.bool (isB S p 2)) ∧ Below w.heap.size w w'
  bits : ∀ {w : World} {s : Nat} {F : Nat → Prop} {S : List Int}, Sp w s F S → Calls Try.prog 28 #[.pointer (some ⟨s, 0, none⟩)] w fun e w' => ∃ g c, e = .returned (.slice (some ⟨g, 0, none⟩) ((S.length + 7) / 8) c) ∧ Own w.heap.size w' (.slice (some ⟨g, 0, none⟩) ((S.length + 7) / 8) c) (bitL S) ∧ Below w.heap.size w w'
  clone : ∀ {w : World} {s : Nat} {F : Nat → Prop} {S : List Int}, Sp w s F S → Calls Try.prog 22 #[.pointer (some ⟨s, 0, none⟩)] w fun e w' => ∃ s' F', e = .returned (.pointer (some ⟨s', 0, none⟩)) ∧ Sp w' s' F' S ∧ Below w.heap.size w w' ∧ ∀ k, F' k → w.heap.size ≤ k

theorem SpC.below {Sp : World → Nat → (Nat → Prop) → List Int → Prop} (X : SpC Sp) {w w' : World} {s : Nat} {F : Nat → Prop} {S : List Int} (h : Sp w s F S) (hb : Below w.heap.size w w') : Sp w' s F S := X.ch h (Ch.of (fun _ => False) hb) (fun _ _ h => h)

set_option maxHeartbeats 1000000 in
set_option maxRecDepth 20000 in
/-- The statements' awake. -/
theorem awake10 {Sp : World → Nat → (Nat → Prop) → List Int → Prop} (X : SpC Sp) (w : World) : Calls Try.prog 8 #[] w fun e w' => e = .returned (.bool true) ∧ Below w.heap.size w w' := by
  have hn := X.new_yes 10 w (by omega) (by omega)
  rw [show ((10 : Nat) : Int) = 10 from rfl] at hn
  go_enter Try.func8, Try.ntmps8
  go_wp2_with fail
  refine hn.mono ?_
  clear hn
  rintro e w1 ⟨s, F, rfl, h1, hb1, hF⟩
  have ha := X.alloc h1
  rw [show alN (newS 10) = 2 by decide, show alE (newS 10) = 0 by decide] at ha
  have HB1 : Hid (Below w.heap.size w w1) := hb1
  have HF : Hid (∀ k, F k → w.heap.size ≤ k) := hF
  clear h1 hb1 hF
  go_wp2_with fail
  refine ha.mono ?_
  clear ha
  rintro e w2 ⟨rfl, F2, h2, st2⟩
  have hb := X.alloc h2
  rw [show alN (alL (newS 10)) = 3 by decide, show alE (alL (newS 10)) = 0 by decide] at hb
  have HB2 : Hid (Below w.heap.size w w2 ∧ ∀ k, F2 k → w.heap.size ≤ k) := by
    obtain ⟨b, f⟩ := st2.below HB1.out.size HF.out
    exact ⟨HB1.out.trans b, f⟩
  clear h2 st2 HB1 HF
  go_wp2_with fail
  refine hb.mono ?_
  clear hb
  rintro e w3 ⟨rfl, F3, h3, st3⟩
  have HB3 : Hid (Below w.heap.size w w3 ∧ ∀ k, F3 k → w.heap.size ≤ k) := by
    obtain ⟨b, f⟩ := st3.below HB2.out.1.size HB2.out.2
    exact ⟨HB2.out.1.trans b, f⟩
  have H3 : Hid (Sp w3 s F3 (alL (alL (newS 10)))) := h3
  have hg := X.give h3 2 (by omega)
  rw [show gvE (alL (alL (newS 10))) 2 = 0 by decide] at hg
  clear h3 st3 HB2
  go_wp2_with (first | (go_at_call 11; refine hg.mono ?_; clear hg; rintro e w4 ⟨rfl, F4, h4, st4⟩; have HB4 : Hid (Below w.heap.size w w4 ∧ ∀ k, F4 k → w.heap.size ≤ k) := (by obtain ⟨b, f⟩ := st4.below HB3.out.1.size HB3.out.2; exact ⟨HB3.out.1.trans b, f⟩); have hfr := X.free h4; rw [show (gvL (alL (alL (newS 10))) 2).count 0 = 7 by decide] at hfr; have H4 : Hid (Sp w4 s F4 (gvL (alL (alL (newS 10))) 2)) := h4; clear h4 st4) | (go_at_call 13; refine hfr.mono ?_; clear hfr; rintro e w5 ⟨rfl, hb5⟩; have HB5 : Hid (Below w.heap.size w w5) := HB4.out.1.trans (hb5.mono HB4.out.1.size); have ho := X.own (X.below H4.out hb5) 3 (by omega); rw [show isB (gvL (alL (alL (newS 10))) 2) 3 2 = true by decide] at ho; clear hb5) | (go_at_call 24; refine ho.mono ?_; clear ho; rintro e w6 ⟨rfl, hb6⟩; have HB6 : Hid (Below w.heap.size w w6) := HB5.out.trans (hb6.mono HB5.out.size); clear hb6))
  go_ret
  exact ⟨rfl, HB6.out⟩

/-- A deed, plainly. -/
structure D2 where
  do' : Int
  page : Int
def noD2 : D2 := ⟨0, 0⟩

/-- A deed in memory. -/
structure D2At (w : World) (b o : Nat) (d : D2) : Prop where
  c0 : w.cell? ⟨b, o, none⟩ = some (.int .i64 d.do')
  c1 : w.cell? ⟨b, o + 1, none⟩ = some (.int .i64 d.page)
  wd : -9223372036854775808 ≤ d.do' ∧ d.do' ≤ 9223372036854775807
  wp : -9223372036854775808 ≤ d.page ∧ d.page ≤ 9223372036854775807

theorem D2At.below {w w' : World} {b o : Nat} {d : D2} (h : D2At w b o d) (k : Below w.heap.size w w') : D2At w' b o d :=
  { h with
    c0 := (k.cell (p := ⟨b, o, none⟩) (block_lt_of_cell h.c0)).trans h.c0
    c1 := (k.cell (p := ⟨b, o + 1, none⟩) (block_lt_of_cell h.c1)).trans h.c1 }

/-- A row of deeds. -/
def IsD2 (w : World) (a : Option Addr) (cap : Nat) (l : List D2) : Prop :=
  l.length ≤ cap ∧ cap ≤ maxLen ∧ (l = [] ∨ ∃ b off, a = some ⟨b, off, none⟩ ∧ ∀ i, i < l.length → D2At w b (off + i * 2) (l.getD i noD2))

theorem IsD2.below {w w' : World} {a : Option Addr} {cap : Nat} {l : List D2} (h : IsD2 w a cap l) (hb : Below w.heap.size w w') : IsD2 w' a cap l := by
  obtain ⟨h1, h2, h3⟩ := h
  refine ⟨h1, h2, ?_⟩
  rcases h3 with h3 | ⟨b, off, e, hd⟩
  · exact .inl h3
  · exact .inr ⟨b, off, e, fun i hi => (hd i hi).below hb⟩
theorem IsD2.at {w : World} {a : Option Addr} {cap : Nat} {l : List D2} (h : IsD2 w a cap l) (i : Nat) (hi : i < l.length) : ∃ b off, a = some ⟨b, off, none⟩ ∧ D2At w b (off + i * 2) (l.getD i noD2) := by
  rcases h.2.2 with h | ⟨b, off, rfl, hd⟩
  · rw [h] at hi; exact absurd hi (by simp)
  · exact ⟨b, off, rfl, hd i hi⟩

theorem cellsD2 : Try.prog.cellsOf 36 = 2 := by kernel_rfl
theorem cellsI : Try.prog.cellsOf 3 = 1 := by kernel_rfl

set_option maxRecDepth 20000 in
theorem open_d2 {H : Type} {enc : TypeId × Value → H} {w : World} {base fuel : Nat} {held : Bool} {cs : List Value} {x : DataW H × List MemPlace} (h : DataW.trod enc Try.prog w base (fun _ => true) held fuel 36 cs = some x) :
    ∃ d : D2, cs = [.int .i64 d.do', .int .i64 d.page] ∧ (-9223372036854775808 ≤ d.do' ∧ d.do' ≤ 9223372036854775807) ∧ (-9223372036854775808 ≤ d.page ∧ d.page ≤ 9223372036854775807) := by
  obtain ⟨xs, n, _, _, hl, hlen, hf⟩ := DataW.trod_struct Try.underlying36 h
  rw [cellsD2] at hl
  match cs, hl with
  | [v0, v1], _ =>
    match xs, hlen with
    | [y0, y1], _ =>
      have g0 := hf 0 _ rfl
      have g1 := hf 1 _ rfl
      simp [cellsI] at g0 g1
      obtain ⟨n0, e0, _, w0⟩ := DataW.trod_int Try.underlying3 g0
      obtain ⟨n1, e1, _, w1⟩ := DataW.trod_int Try.underlying3 g1
      simp at e0 e1
      subst e0 e1
      exact ⟨⟨n0, n1⟩, rfl, i64_wf w0, i64_wf w1⟩

set_option maxRecDepth 20000 in
theorem open_d2s {H : Type} {enc : TypeId × Value → H} {w : World} {base fuel : Nat} {held : Bool} {a : Option Addr} {len cap : Nat} {x : DataW H × List MemPlace} (h : DataW.trod enc Try.prog w base (fun _ => true) held fuel 31 [.slice a len cap] = some x) :
    ∃ l : List D2, len = l.length ∧ IsD2 w a cap l := by
  rcases Deep.open_slice Try.underlying31 h with ⟨hcs, _⟩ | ⟨x, l, c, m, n, D, Pl, hcs, _, hl, hm, hmm, _, hx⟩
  · simp at hcs
    obtain ⟨rfl, rfl, rfl⟩ := hcs
    exact ⟨[], rfl, Nat.le_refl _, by simp [maxLen], .inl rfl⟩
  · simp at hcs
    obtain ⟨rfl, rfl, rfl⟩ := hcs
    have hlm : len ≤ m := by rw [hmm]; split <;> omega
    have each : ∀ i, i < len → ∃ d : D2, ∀ (b off : Nat), x = ⟨b, off, none⟩ → D2At w b (off + i * 2) d := by
      intro i hi
      obtain ⟨cs', h1, h2⟩ := hx i (by omega)
      rw [cellsD2] at h1
      obtain ⟨_, hlen, hcell⟩ := World.cells?_some h1
      obtain ⟨d, rfl, wd, wp⟩ := open_d2 h2
      refine ⟨d, fun b off e => ?_⟩
      subst e
      have q : ∀ j, ((⟨b, off, none⟩ : Addr).add (i * 2)).add j = ⟨b, off + i * 2 + j, none⟩ := fun j => by rw [Addr.add_lit, Addr.add_lit]
      have e0 := hcell 0 (by omega)
      have e1 := hcell 1 (by omega)
      rw [q] at e0 e1
      exact ⟨by simpa using e0, by simpa using e1, wd, wp⟩
    have : Inhabited D2 := ⟨noD2⟩
    obtain ⟨f, hf⟩ := Deep.choose_lt each
    refine ⟨(List.range len).map f, by simp, by simpa using hl, hm, ?_⟩
    by_cases h0 : len = 0
    · exact .inl (by simp [h0])
    · refine .inr ?_
      obtain ⟨b, off, spot⟩ := x
      have hspot : spot = none := by
        obtain ⟨cs', h1, h2⟩ := hx 0 (by omega)
        rw [cellsD2] at h1
        obtain ⟨_, hlen, hcell⟩ := World.cells?_some h1
        have e0 := hcell 0 (by omega)
        obtain ⟨v, hv⟩ : ∃ v, w.cell? (((⟨b, off, spot⟩ : Addr).add (0 * 2)).add 0) = some v := ⟨_, e0.trans (List.getElem?_eq_getElem (by omega))⟩
        simpa [Addr.add] using World.cell?_spot hv
      subst hspot
      refine ⟨b, off, rfl, fun i hi => ?_⟩
      simp at hi
      have := hf i hi b off rfl
      rw [show ((List.range len).map f).getD i noD2 = f i by simp [List.getD_eq_getElem?_getD, hi]]
      exact this
end Go.Proofs.Ytdmahobldghojaa.Oct
