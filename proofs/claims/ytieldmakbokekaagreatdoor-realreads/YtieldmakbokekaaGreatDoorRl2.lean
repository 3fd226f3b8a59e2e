/-
  What the listed variables hold: float64info, float32info, deBruijn64tab, uint64pow10.
-/
import Derived.Test.YtieldmakbokekaaGreatDoorRy
import Derived.Test.YtieldmakbokekaaGreatDoorRows
import Derived.Lib.SmallJoins
import Derived.ProofKit
import Derived.LaidMore
import Derived.Lay
import Derived.SevenTiedAt
import Derived.Stop.Joined
namespace Go.Proofs.YtieldmakbokekaaGreatDoor.Oct
open Go.RowKit Go.ChangeShapes Go.WideShapes Go.Joins

theorem laid_mark {P : Program} {w : World} {n : String} {d : DataW Unit} : ∀ {l : List (String × DataW Unit)} {ps : List MemPlace}, DataW.LaidVars P w l ps → (n, d) ∈ l →
    ∃ g t cs fuel p, P.globalNamed n = some g ∧ (P.globals[g]?).map (·.type) = some t ∧ w.var? P n = some cs ∧ DataW.trod (fun _ => ()) P w 0 (fun _ => true) false fuel t cs.toList = some (d, p) ∧ ∀ x ∈ MemPlace.row ⟨g, 0, none⟩ cs.size, x ∈ ps
  | [], _, _, hm => by cases hm
  | (m, e) :: l, ps, h, hm => by
    obtain ⟨g, t, cs, fuel, p, q, hg, ht, hv, hd, hr, he⟩ := h
    rcases List.mem_cons.1 hm with hh | hm
    · cases hh
      exact ⟨g, t, cs, fuel, p, hg, ht, hv, hd, fun x hx => by rw [he]; simp [hx]⟩
    · obtain ⟨g', t', cs', fuel', p', h1, h2, h3, h4, h5⟩ := laid_mark hr hm
      exact ⟨g', t', cs', fuel', p', h1, h2, h3, h4, fun x hx => by rw [he]; simp [h5 x hx]⟩

theorem cellsFi : Tryz.prog.cellsOf 117 = 3 := by kernel_rfl
theorem cellsU : Tryz.prog.cellsOf 42 = 1 := by kernel_rfl
theorem cellsI : Tryz.prog.cellsOf 3 = 1 := by kernel_rfl

set_option maxRecDepth 100000 in
/-- A struct of floatInfo's kind that is listed: its cells, its block. -/
theorem info_at {l : List (String × DataW Unit)} {W : World} {name : String} {g : Nat} {a b c : Int} (h : laidMet Tryz.prog l W) (hg : Tryz.prog.globalNamed name = some g) (hty : (Tryz.prog.globals[g]?).map (·.type) = some 117)
    (hm : (name, .agg [.lit (.int .u64 a), .lit (.int .u64 b), .lit (.int .i64 c)]) ∈ l) :
    W.cell? ⟨g, 0, none⟩ = some (.int .u64 a) ∧ W.cell? ⟨g, 1, none⟩ = some (.int .u64 b) ∧ W.cell? ⟨g, 2, none⟩ = some (.int .i64 c) ∧ ∃ cc t, W.heap[g]? = some (.cells cc t (0, 0)) := by
  obtain ⟨ps, hl, _, hrows⟩ := h
  obtain ⟨g', t', cs, fuel, p, hg', ht', hvar, hd, hps⟩ := laid_mark hl hm
  obtain rfl := Option.some.inj (hg.symm.trans hg')
  obtain rfl := Option.some.inj (hty.symm.trans ht')
  obtain ⟨xs, n, _, e1, hlen, hlen2, hf⟩ := DataW.trod_struct Tryz.underlying117 hd
  rw [cellsFi] at hlen
  obtain ⟨cl⟩ := cs
  match cl, hlen with
  | [v0, v1, v2], _ =>
    match xs, hlen2 with
    | [y0, y1, y2], _ =>
      have g0 := hf 0 _ rfl
      have g1 := hf 1 _ rfl
      have g2 := hf 2 _ rfl
      simp [cellsU, cellsI] at g0 g1 g2
      obtain ⟨n0, q0, r0, _⟩ := DataW.trod_int Tryz.underlying42 g0
      obtain ⟨n1, q1, r1, _⟩ := DataW.trod_int Tryz.underlying42 g1
      obtain ⟨n2, q2, r2, _⟩ := DataW.trod_int Tryz.underlying3 g2
      simp at q0 q1 q2
      subst q0 q1 q2 r0 r1 r2
      simp at e1
      obtain ⟨⟨rfl, rfl, rfl⟩, _⟩ := e1
      have k0 := World.var?_cell hg hvar 0
      have k1 := World.var?_cell hg hvar 1
      have k2 := World.var?_cell hg hvar 2
      simp at k0 k1 k2
      exact ⟨k0, k1, k2, (hrows g 0 (hps _ (by simp [MemPlace.row]))).1⟩

def bruijn : List Int := [0, 1, 56, 2, 57, 49, 28, 3, 61, 58, 42, 50, 38, 29, 17, 4, 62, 47, 59, 36, 45, 43, 51, 22, 53, 39, 33, 30, 24, 18, 12, 5, 63, 55, 48, 27, 60, 41, 37, 16, 46, 35, 44, 21, 52, 32, 23, 11, 54, 26, 40, 15, 34, 20, 31, 10, 25, 14, 19, 9, 13, 8, 7, 6]

theorem shows_laid {w : World} (hL : laidMetH Tryz.prog Rows.realShowsRow.laid w) : Tab w ∧ Tz w ∧ Fi w := by
  rw [MakeChecks.laidMetH_plain _ _ _ (by kernel_rfl)] at hL
  have hT : Tab w := tab_at (g := 1) (t := 79) (e := 27) (n := 20) (by kernel_rfl) (by kernel_rfl) (by kernel_rfl) Tryz.underlying27 (by kernel_rfl) (by kernel_rfl) hL (List.mem_of_getElem? (i := 8) (by kernel_rfl))
  obtain ⟨a0, a1, a2, a3⟩ := info_at (g := 9) (a := 52) (b := 11) (c := -1023) hL (name := "internal/strconv.float64info") (by kernel_rfl) (by kernel_rfl) (List.mem_of_getElem? (i := 3) (by kernel_rfl))
  obtain ⟨_, _, _, b3⟩ := info_at (g := 7) (a := 23) (b := 8) (c := -127) hL (name := "internal/strconv.float32info") (by kernel_rfl) (by kernel_rfl) (List.mem_of_getElem? (i := 2) (by kernel_rfl))
  have hB : Lib.TabIs Tryz.prog w "math/bits.deBruijn64tab" .u8 bruijn := tab_at (g := 6) (t := 106) (e := 5) (n := 64) (by kernel_rfl) (by kernel_rfl) (by kernel_rfl) Tryz.underlying5 (by kernel_rfl) (by kernel_rfl) hL (List.mem_of_getElem? (i := 1) (by kernel_rfl))
  exact ⟨hT, hB.cell (g := 6) (by kernel_rfl) 15 (by decide), a0, a1, a2, a3, b3⟩

theorem reads_laid {w : World} (hL : laidMetH Tryz.prog Rows.realReadsRow.laid w) : Tab w ∧ Tz w ∧ Fi w := by
  rw [MakeChecks.laidMetH_plain _ _ _ (by kernel_rfl)] at hL
  have hT : Tab w := tab_at (g := 1) (t := 79) (e := 27) (n := 20) (by kernel_rfl) (by kernel_rfl) (by kernel_rfl) Tryz.underlying27 (by kernel_rfl) (by kernel_rfl) hL (List.mem_of_getElem? (i := 8) (by kernel_rfl))
  obtain ⟨a0, a1, a2, a3⟩ := info_at (g := 9) (a := 52) (b := 11) (c := -1023) hL (name := "internal/strconv.float64info") (by kernel_rfl) (by kernel_rfl) (List.mem_of_getElem? (i := 3) (by kernel_rfl))
  obtain ⟨_, _, _, b3⟩ := info_at (g := 7) (a := 23) (b := 8) (c := -127) hL (name := "internal/strconv.float32info") (by kernel_rfl) (by kernel_rfl) (List.mem_of_getElem? (i := 2) (by kernel_rfl))
  have hB : Lib.TabIs Tryz.prog w "math/bits.deBruijn64tab" .u8 bruijn := tab_at (g := 6) (t := 106) (e := 5) (n := 64) (by kernel_rfl) (by kernel_rfl) (by kernel_rfl) Tryz.underlying5 (by kernel_rfl) (by kernel_rfl) hL (List.mem_of_getElem? (i := 1) (by kernel_rfl))
  exact ⟨hT, hB.cell (g := 6) (by kernel_rfl) 15 (by decide), a0, a1, a2, a3, b3⟩
end Go.Proofs.YtieldmakbokekaaGreatDoor.Oct
