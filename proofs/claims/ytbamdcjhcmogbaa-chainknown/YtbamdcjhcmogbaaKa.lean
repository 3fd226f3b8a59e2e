/-
  Chains of pages, plainly.
-/
import Derived.Test.YtbamdcjhcmogbaaNu
import Derived.Test.YtbamdcjhcmogbaaZo
import Derived.Test.YtbamdcjhcmogbaaRi
namespace Go.Proofs.Ytbamdcjhcmogbaa.Oct
open Go.RowKit

/-- How many pages n bytes need. -/
def ned (n : Nat) : Nat := (n + 243) / 244
def nedI (n : Int) : Int := if n < 1 then 0 else (n - 1) / 244 + 1
theorem nedI_nat (n : Nat) : nedI n = ned n := by
  unfold nedI ned
  split <;> omega

/-- The bytes on page i, and where it goes on. -/
def prt (zs : List Int) (i : Nat) : List Int := (zs.drop (i * 244)).take 244
def nxt (pg : List Int) (i : Nat) : Int := if i + 1 < pg.length then pg.getD (i + 1) 0 else 0
def cpg (zs pg : List Int) (i : Nat) : Pg := ⟨5, 0, (prt zs i).length, nums 4 (nxt pg i).toNat ++ prt zs i⟩
def ctL (zs pg : List Int) : List (List Int) := (List.range pg.length).map fun i => sealL (cpg zs pg i)
/-- Pages that may be: from 2 to 4095, no two alike. -/
def CtOk (pg : List Int) : Prop := ∀ i, i < pg.length → (2 ≤ pg.getD i 0 ∧ pg.getD i 0 < 4096) ∧ ∀ k, k < i → pg.getD k 0 ≠ pg.getD i 0
def ctB (pg : List Int) : Bool := decide (∀ i, i < pg.length → (2 ≤ pg.getD i 0 ∧ pg.getD i 0 < 4096) ∧ ∀ k, k < i → pg.getD k 0 ≠ pg.getD i 0)
theorem ctB_iff {pg : List Int} : ctB pg = true ↔ CtOk pg := decide_eq_true_iff
def ctE (zs pg : List Int) : Int := if pg.length = ned zs.length then (if ctB pg then (if zs.length ≤ 1048576 then 0 else 3) else 1) else 1
def ctZ (zs pg : List Int) : List (List Int) := if ctE zs pg = 0 then ctL zs pg else []

theorem prt_len (zs : List Int) (i : Nat) : (prt zs i).length = min 244 (zs.length - i * 244) := by simp [prt]
theorem prt_bys {zs : List Int} (h : Bys zs) (i : Nat) : Bys (prt zs i) := fun z hz => h z (List.mem_of_mem_drop (List.mem_of_mem_take hz))
theorem nxt_in {pg : List Int} (h : CtOk pg) (i : Nat) : 0 ≤ nxt pg i ∧ nxt pg i < 4096 := by
  unfold nxt
  split
  · next h1 => have := (h (i + 1) h1).1; omega
  · omega
theorem cpg_bys {zs pg : List Int} (h : Bys zs) (i : Nat) : Bys (cpg zs pg i).body := (nums_bys _ _).app (prt_bys h i)
theorem cpg_len (zs pg : List Int) (i : Nat) : (cpg zs pg i).body.length = 4 + (prt zs i).length := by simp [cpg, nums_len]
theorem cpg_ok (zs pg : List Int) (i : Nat) : sealE (cpg zs pg i) = 0 := by
  have hp := prt_len zs i
  unfold sealE argP
  rw [decide_eq_true (by refine ⟨⟨by show (1 : Int) ≤ 5; omega, by show (5 : Int) ≤ 5; omega⟩, ⟨by show (0 : Int) ≤ 0; omega, by show (0 : Int) ≤ 255; omega⟩, ?_, ?_⟩ <;> (show _ ≤ _; simp only [cpg]; omega)), if_pos rfl, if_pos (by rw [cpg_len]; omega)]
theorem cpg_seal (zs pg : List Int) (i : Nat) : sealZ (cpg zs pg i) = sealL (cpg zs pg i) := by unfold sealZ; rw [if_pos (cpg_ok zs pg i)]
theorem cpg_256 (zs pg : List Int) (i : Nat) : (sealL (cpg zs pg i)).length = 256 := seal_len (by rw [cpg_len, prt_len]; omega)
theorem ctL_len (zs pg : List Int) : (ctL zs pg).length = pg.length := by simp [ctL]

/-- What a page says of a chain. -/
def nx (P : Pg) : Int := getI P.body 0 4
def ptB (P : Pg) : Bool := decide (P.kind = 5) && (decide (P.level = 0) && (decide (1 ≤ P.count ∧ P.count ≤ 244) && (decide (nx P ≠ 1 ∧ nx P < 4096 ∧ (nx P ≠ 0 → P.count = 244)) && nouB (P.body.drop (4 + P.count.toNat)))))
def ptE (zs : List Int) : Int := if opE zs = 0 then (if ptB (opP zs) then 0 else 4) else opE zs
def ptL (zs : List Int) : List Int := if ptE zs = 0 then ((opP zs).body.drop 4).take (opP zs).count.toNat else []
def ptN (zs : List Int) : Int := if ptE zs = 0 then nx (opP zs) else 0
theorem ptE_no {zs : List Int} (ho : opE zs = 0) (h : ptB (opP zs) = false) : ptE zs = 4 ∧ ptL zs = [] ∧ ptN zs = 0 := by
  have e : ptE zs = 4 := by unfold ptE; rw [if_pos ho, h]; rfl
  unfold ptL ptN
  rw [e]
  exact ⟨rfl, rfl, rfl⟩
theorem ptE_op {zs : List Int} (ho : opE zs ≠ 0) : ptE zs = opE zs ∧ ptL zs = [] ∧ ptN zs = 0 := by
  have e : ptE zs = opE zs := if_neg ho
  unfold ptL ptN
  rw [e, if_neg ho, if_neg ho]
  exact ⟨rfl, rfl, rfl⟩
end Go.Proofs.Ytbamdcjhcmogbaa.Oct
