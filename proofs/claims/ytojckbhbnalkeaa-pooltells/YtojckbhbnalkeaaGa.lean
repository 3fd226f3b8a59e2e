/-
  A device of pages, plainly.
-/
import Derived.Test.YtojckbhbnalkeaaR
namespace Go.Proofs.Ytojckbhbnalkeaa.Oct
open Go.RowKit

/-- A device, plainly. -/
structure Dv where
  n : Nat
  now : List Int
  sure : List Int
  since : List (Nat × List Int)
  out : List Int
  fuse : Int
  ops : Nat
  dead : Bool

def bitAt (c : Int) (s : Nat) : Bool := decide (c / 2 ^ s % 2 = 1)

/-- The first s sectors of a page are written where the choice says so. -/
def ontoS (L : List Int) (pg : Nat) (b : List Int) (c : Int) (s : Nat) : List Int :=
  L.mapIdx fun i x => if i / 256 = pg ∧ i % 256 / 64 < s ∧ bitAt c (i % 256 / 64) = true then b.getD (i % 256) 0 else x

def onto (L : List Int) (pg : Nat) (b : List Int) (c : Int) : List Int := ontoS L pg b c 4

theorem ontoS_len (L : List Int) (pg : Nat) (b : List Int) (c : Int) (s : Nat) : (ontoS L pg b c s).length = L.length := by simp [ontoS]
theorem onto_len (L : List Int) (pg : Nat) (b : List Int) (c : Int) : (onto L pg b c).length = L.length := ontoS_len ..

theorem ontoS_at (L : List Int) (pg : Nat) (b : List Int) (c : Int) (s i : Nat) (hi : i < L.length) :
    (ontoS L pg b c s).getD i 0 = if i / 256 = pg ∧ i % 256 / 64 < s ∧ bitAt c (i % 256 / 64) = true then b.getD (i % 256) 0 else L.getD i 0 := by
  unfold ontoS
  simp only [List.getD_eq_getElem?_getD, List.getElem?_mapIdx, List.getElem?_eq_getElem hi, Option.map_some, Option.getD_some]

theorem ontoS_zero (L : List Int) (pg : Nat) (b : List Int) (c : Int) : ontoS L pg b c 0 = L := by
  refine eq_of_getD (ontoS_len ..) fun i hi => ?_
  rw [ontoS_len] at hi
  rw [ontoS_at _ _ _ _ _ _ hi, if_neg (by omega)]

theorem ontoS_skip (L : List Int) (pg : Nat) (b : List Int) (c : Int) (s : Nat) (hs : bitAt c s = false) : ontoS L pg b c (s + 1) = ontoS L pg b c s := by
  refine eq_of_getD (by simp [ontoS_len]) fun i hi => ?_
  rw [ontoS_len] at hi
  rw [ontoS_at _ _ _ _ _ _ hi, ontoS_at _ _ _ _ _ _ hi]
  by_cases h : i % 256 / 64 = s
  · rw [if_neg (by rw [h, hs]; simp), if_neg (by omega)]
  · have e : (i % 256 / 64 < s + 1) = (i % 256 / 64 < s) := propext (by omega)
    simp only [e]

/-- Cells laid over others, from a place on. -/
def lay' (L : List Int) (off : Nat) (cs : List Int) : List Int := L.take off ++ (cs ++ L.drop (off + cs.length))

theorem lay'_len (L : List Int) (off : Nat) (cs : List Int) (h : off + cs.length ≤ L.length) : (lay' L off cs).length = L.length := by simp [lay']; omega

theorem lay'_at (L : List Int) (off : Nat) (cs : List Int) (h : off + cs.length ≤ L.length) (i : Nat) :
    (lay' L off cs).getD i 0 = if off ≤ i ∧ i < off + cs.length then cs.getD (i - off) 0 else L.getD i 0 := by
  unfold lay'
  have hl : (L.take off).length = off := by simp; omega
  rw [app_at, hl]
  by_cases h1 : i < off
  · rw [if_pos h1, if_neg (by omega)]
    simp [List.getD_eq_getElem?_getD, h1]
  · rw [if_neg h1, app_at]
    by_cases h2 : i - off < cs.length
    · rw [if_pos h2, if_pos (by omega)]
    · rw [if_neg h2, if_neg (by omega)]
      simp only [List.getD_eq_getElem?_getD, List.getElem?_drop]
      rw [show off + cs.length + (i - off - cs.length) = i by omega]

/-- Sector s of a page's bytes. -/
def sect (b : List Int) (s : Nat) : List Int := (b.drop (s * 64)).take 64

theorem sect_len {b : List Int} (hb : b.length = 256) {s : Nat} (hs : s < 4) : (sect b s).length = 64 := by simp [sect]; omega
theorem sect_at {b : List Int} (i s : Nat) (hi : i < 64) : (sect b s).getD i 0 = b.getD (s * 64 + i) 0 := by
  simp [sect, List.getD_eq_getElem?_getD, hi, List.getElem?_drop]

theorem ontoS_lay (L : List Int) (pg : Nat) (b : List Int) (c : Int) (s : Nat) (hb : b.length = 256) (h4 : s < 4) (hL : pg * 256 + 256 ≤ L.length) (hs : bitAt c s = true) :
    ontoS L pg b c (s + 1) = lay' (ontoS L pg b c s) (pg * 256 + s * 64) (sect b s) := by
  have hl : (sect b s).length = 64 := sect_len hb h4
  have hfit : pg * 256 + s * 64 + (sect b s).length ≤ (ontoS L pg b c s).length := by rw [ontoS_len, hl]; omega
  refine eq_of_getD (by rw [lay'_len _ _ _ hfit, ontoS_len, ontoS_len]) fun i hi => ?_
  rw [ontoS_len] at hi
  rw [lay'_at _ _ _ hfit, ontoS_at _ _ _ _ _ _ hi, ontoS_at _ _ _ _ _ _ hi, hl]
  by_cases h : pg * 256 + s * 64 ≤ i ∧ i < pg * 256 + s * 64 + 64
  · have h1 : i / 256 = pg := by omega
    have h2 : i % 256 / 64 = s := by omega
    rw [if_pos h, sect_at _ _ (by omega), if_pos ⟨h1, by omega, by rw [h2]; exact hs⟩]
    congr 1
    omega
  · rw [if_neg h]
    by_cases h1 : i / 256 = pg
    · have h2 : ¬ i % 256 / 64 = s := by omega
      have e : (i % 256 / 64 < s + 1) = (i % 256 / 64 < s) := propext (by omega)
      simp only [e]
    · rw [if_neg (by omega), if_neg (by omega)]

theorem onto_bys {L b : List Int} (hL : Bys L) (hb : Bys b) (pg : Nat) (c : Int) (s : Nat) : Bys (ontoS L pg b c s) := by
  intro z hz
  obtain ⟨i, hi, rfl⟩ := List.getElem_of_mem hz
  have hi' : i < L.length := by rw [ontoS_len] at hi; exact hi
  have := ontoS_at L pg b c s i hi'
  rw [List.getD_eq_getElem?_getD, List.getElem?_eq_getElem hi] at this
  simp only [Option.getD_some] at this
  rw [this]
  split
  · exact hb.at _
  · exact hL.at _

/-- What is left of a device's pages behind k of its writes. -/
def fallK (L : List Int) (l : List (Nat × List Int)) (ch : List Int) : Nat → List Int
  | 0 => L
  | k + 1 => onto (fallK L l ch k) (l.getD k (0, [])).1 (l.getD k (0, [])).2 (if k < ch.length then ch.getD k 0 else 15)

theorem fallK_len (L : List Int) (l : List (Nat × List Int)) (ch : List Int) (k : Nat) : (fallK L l ch k).length = L.length := by
  induction k with
  | zero => rfl
  | succ k ih => rw [fallK, onto_len, ih]

/-- A page. -/
def pageOf (L : List Int) (pg : Nat) : List Int := (L.drop (pg * 256)).take 256

structure Dv.ok (D : Dv) : Prop where
  n8 : 8 ≤ D.n
  n4 : D.n ≤ 4096
  now : D.now.length = D.n * 256
  sure : D.sure.length = D.n * 256
  bnow : Bys D.now
  bsure : Bys D.sure
  bout : Bys D.out
  since : ∀ x ∈ D.since, x.1 < D.n ∧ x.2.length = 256 ∧ Bys x.2
  fuse : -1 ≤ D.fuse

theorem fallK_bys {L : List Int} {l : List (Nat × List Int)} (ch : List Int) (hL : Bys L) (hl : ∀ x ∈ l, Bys x.2) (k : Nat) : Bys (fallK L l ch k) := by
  induction k with
  | zero => exact hL
  | succ k ih =>
    rw [fallK]
    refine onto_bys ih ?_ _ _ _
    rw [List.getD_eq_getElem?_getD]
    cases h : l[k]? with
    | none => intro z hz; simp at hz
    | some x => exact hl x (List.mem_of_getElem? h)

/-- An op that neither fails by the fuse nor is done yet. -/
def opD (D : Dv) : Dv := { D with ops := D.ops + 1, fuse := if 0 < D.fuse then D.fuse - 1 else D.fuse, out := D.out.tail }
def oc (D : Dv) : Int := D.out.getD 0 0 % 3
def dieD (D : Dv) : Dv := { D with ops := D.ops + 1, dead := true }
def wrD (D : Dv) (pg : Nat) (b : List Int) : Dv := { D with now := onto D.now pg b 15, since := D.since ++ [(pg, b)] }
def setD (D : Dv) : Dv := { D with sure := D.now, since := [] }

def writeD (D : Dv) (pg : Nat) (b : List Int) : Dv :=
  if D.dead then D else if D.fuse = 0 then wrD (dieD D) pg b else if oc D = 1 then opD D else wrD (opD D) pg b
def syncD (D : Dv) : Dv := if D.dead then D else if D.fuse = 0 then dieD D else if oc D = 1 then opD D else setD (opD D)
def readD (D : Dv) : Dv := if D.dead then D else if D.fuse = 0 then dieD D else opD D
/-- What a Write or a Sync says. -/
def saysD (D : Dv) : Int := if D.dead then 7 else if D.fuse = 0 then 7 else if oc D = 0 then 0 else 7
/-- Does a Read tell? -/
def tellsD (D : Dv) : Bool := !D.dead && !decide (D.fuse = 0) && !decide (oc D = 1)
def fuseD (D : Dv) (f : Int) : Dv := if D.dead then D else { D with fuse := max f (-1) }
def outD (D : Dv) (l : List Int) : Dv := { D with out := D.out ++ l }
/-- A device whose pages are, and last, as L. -/
def newD (L : List Int) : Dv := { n := L.length / 256, now := L, sure := L, since := [], out := [], fuse := -1, ops := 0, dead := false }
def crashD (D : Dv) (ch : List Int) : Dv := newD (fallK D.sure D.since ch D.since.length)

theorem Bys.tail {l : List Int} (h : Bys l) : Bys l.tail := fun z hz => h z (List.mem_of_mem_tail hz)

theorem opD_ok {D : Dv} (h : D.ok) : (opD D).ok := ⟨h.n8, h.n4, h.now, h.sure, h.bnow, h.bsure, h.bout.tail, h.since, by have := h.fuse; simp only [opD]; split <;> omega⟩
theorem dieD_ok {D : Dv} (h : D.ok) : (dieD D).ok := ⟨h.n8, h.n4, h.now, h.sure, h.bnow, h.bsure, h.bout, h.since, h.fuse⟩
theorem setD_ok {D : Dv} (h : D.ok) : (setD D).ok := ⟨h.n8, h.n4, h.now, h.now, h.bnow, h.bnow, h.bout, fun x hx => by simp [setD] at hx, h.fuse⟩
theorem wrD_ok {D : Dv} (h : D.ok) {pg : Nat} {b : List Int} (hp : pg < D.n) (hb : b.length = 256) (hy : Bys b) : (wrD D pg b).ok :=
  ⟨h.n8, h.n4, by simp only [wrD, onto_len]; exact h.now, h.sure, onto_bys h.bnow hy _ _ _, h.bsure, h.bout, fun x hx => by
    rcases List.mem_append.1 hx with hx | hx
    · exact h.since x hx
    · simp at hx; subst hx; exact ⟨hp, hb, hy⟩, h.fuse⟩
theorem fuseD_ok {D : Dv} (h : D.ok) (f : Int) : (fuseD D f).ok := by
  unfold fuseD
  split
  · exact h
  · exact ⟨h.n8, h.n4, h.now, h.sure, h.bnow, h.bsure, h.bout, h.since, by show -1 ≤ max f (-1); omega⟩
theorem outD_ok {D : Dv} (h : D.ok) {l : List Int} (hl : Bys l) : (outD D l).ok := ⟨h.n8, h.n4, h.now, h.sure, h.bnow, h.bsure, h.bout.app hl, h.since, h.fuse⟩
theorem newD_ok {L : List Int} (h : Bys L) (n : Nat) (hl : L.length = n * 256) (h8 : 8 ≤ n) (h4 : n ≤ 4096) : (newD L).ok := by
  have e : L.length / 256 = n := by omega
  refine ⟨?_, ?_, ?_, ?_, h, h, fun z hz => by simp [newD] at hz, fun x hx => by simp [newD] at hx, by simp [newD]⟩
  all_goals (simp only [newD]; rw [e]; assumption)
theorem crashD_ok {D : Dv} (h : D.ok) (ch : List Int) : (crashD D ch).ok :=
  newD_ok (fallK_bys ch h.bsure (fun x hx => (h.since x hx).2.2) _) D.n (by rw [fallK_len, h.sure]) h.n8 h.n4
theorem writeD_ok {D : Dv} (h : D.ok) {pg : Nat} {b : List Int} (hp : pg < D.n) (hb : b.length = 256) (hy : Bys b) : (writeD D pg b).ok := by
  unfold writeD
  split
  · exact h
  · split
    · exact wrD_ok (dieD_ok h) hp hb hy
    · split
      · exact opD_ok h
      · exact wrD_ok (opD_ok h) hp hb hy
theorem syncD_ok {D : Dv} (h : D.ok) : (syncD D).ok := by
  unfold syncD
  split
  · exact h
  · split
    · exact dieD_ok h
    · split
      · exact opD_ok h
      · exact setD_ok (opD_ok h)
theorem readD_ok {D : Dv} (h : D.ok) : (readD D).ok := by
  unfold readD
  split
  · exact h
  · split
    · exact dieD_ok h
    · exact opD_ok h
end Go.Proofs.Ytojckbhbnalkeaa.Oct
