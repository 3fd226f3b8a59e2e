/-
  No cell of these rows narrows 'for every input' (looked for: loops, veiled, ifaces, maps, wideKeys, modest, calm, conditions, laid).
  DERIVED. THE GIVEN ROWS OF THIS SEAT. 5 by the template 'for every input the law returns true; each argument reads behind the call as it read before'; 0 by the template 'total and deterministic' (their statements: YtaeooehilncokaaTotals.lean).
  GIVEN WITH THE SEED: the statements are not yours to turn. If you find one false, say at which input.
  Laid BY PROGRAM, IN A SANDBOX (cutbox-rows.mjs): the forced cells as the released guide's own fill.sh prints them over the translation 599c6572af3b944e… (all of the seat's roots in one cut). By AI agents, Wed Nov 11 2026. No macro, syntax, notation, axiom, sorry.
-/
import Derived.Test.YtaeooehilncokaaChecked
import GoSem.Claim
import GoSem.ClaimJoined
import GoSem.ClaimMapViews
import Derived.JoinedTies
import Derived.KernelRfl
namespace Go.Proofs.Ytaeooehilncokaa
/- THE CELL 'sum', in the pinned program and in every row, IS THE sha256 OF THE DUMP (.gsa) THAT YtaeooehilncokaaProg.lean LOADS. Nothing in Lean hashes anything: it is a label: what it is worth is what the hold of that sum in a sandbox is worth. -/
noncomputable def Try.pinned : Pinned := { name := "ytaeooehilncokaa", sum := "599c6572af3b944e7a9ad3036559186433f18c2180274ccd622fb81a803df887", checked := Try.checked }
namespace Rows
def none {H : Type} : Left H := { results := [], args := [] }

/-- 'escritoirelaw8.CellKnown': WHATEVER THE INPUT: true; the input reads as it did. -/
def cellKnownSpec : ChangeSpec := { name := "cellKnown", fn := fun _ => fun
  | [] => { results := [.lit (.bool true)], args := [] }
  | _ => none }
def cellKnownRow : OpenClaim := { program := "ytaeooehilncokaa", sum := "599c6572af3b944e7a9ad3036559186433f18c2180274ccd622fb81a803df887", func := "escritoire/escritoirelaw8.CellKnown", spec := "cellKnown", unfollowed := true, recurses := true, apart := false }
def CellKnownSaid : Prop := cellKnownRow.holds Try.pinned (OpenSpec.ofChange cellKnownSpec)

/-- ITS FALSE NEIGHBOUR: 'it returns false'. Refute it at one input. -/
def cellKnownWrong : ChangeSpec := { name := "cellKnown", fn := fun _ => fun
  | [] => { results := [.lit (.bool false)], args := [] }
  | _ => none }
def CellKnownWrongFalsely : Prop := cellKnownRow.holds Try.pinned (OpenSpec.ofChange cellKnownWrong)

/-- 'escritoirelaw8.CellLeaves': WHATEVER THE INPUT: true; the input reads as it did. -/
def cellLeavesSpec : ChangeSpec := { name := "cellLeaves", fn := fun _ => fun
  | [d] => { results := [.lit (.bool true)], args := [d] }
  | _ => none }
def cellLeavesRow : OpenClaim := { program := "ytaeooehilncokaa", sum := "599c6572af3b944e7a9ad3036559186433f18c2180274ccd622fb81a803df887", func := "escritoire/escritoirelaw8.CellLeaves", spec := "cellLeaves", unfollowed := true, recurses := true, apart := false }
def CellLeavesSaid : Prop := cellLeavesRow.holds Try.pinned (OpenSpec.ofChange cellLeavesSpec)

/-- ITS FALSE NEIGHBOUR: 'it returns false'. Refute it at one input. -/
def cellLeavesWrong : ChangeSpec := { name := "cellLeaves", fn := fun _ => fun
  | [d] => { results := [.lit (.bool false)], args := [d] }
  | _ => none }
def CellLeavesWrongFalsely : Prop := cellLeavesRow.holds Try.pinned (OpenSpec.ofChange cellLeavesWrong)

/-- 'escritoirelaw8.CellInners': WHATEVER THE INPUT: true; the input reads as it did. -/
def cellInnersSpec : ChangeSpec := { name := "cellInners", fn := fun _ => fun
  | [d1, d2] => { results := [.lit (.bool true)], args := [d1, d2] }
  | _ => none }
def cellInnersRow : OpenClaim := { program := "ytaeooehilncokaa", sum := "599c6572af3b944e7a9ad3036559186433f18c2180274ccd622fb81a803df887", func := "escritoire/escritoirelaw8.CellInners", spec := "cellInners", unfollowed := true, recurses := true, apart := false }
def CellInnersSaid : Prop := cellInnersRow.holds Try.pinned (OpenSpec.ofChange cellInnersSpec)

/-- ITS FALSE NEIGHBOUR: 'it returns false'. Refute it at one input. -/
def cellInnersWrong : ChangeSpec := { name := "cellInners", fn := fun _ => fun
  | [d1, d2] => { results := [.lit (.bool false)], args := [d1, d2] }
  | _ => none }
def CellInnersWrongFalsely : Prop := cellInnersRow.holds Try.pinned (OpenSpec.ofChange cellInnersWrong)

/-- 'escritoirelaw8.CellReads': WHATEVER THE INPUT: true; the input reads as it did. -/
def cellReadsSpec : ChangeSpec := { name := "cellReads", fn := fun _ => fun
  | [d] => { results := [.lit (.bool true)], args := [d] }
  | _ => none }
def cellReadsRow : OpenClaim := { program := "ytaeooehilncokaa", sum := "599c6572af3b944e7a9ad3036559186433f18c2180274ccd622fb81a803df887", func := "escritoire/escritoirelaw8.CellReads", spec := "cellReads", unfollowed := true, recurses := true, apart := false }
def CellReadsSaid : Prop := cellReadsRow.holds Try.pinned (OpenSpec.ofChange cellReadsSpec)

/-- ITS FALSE NEIGHBOUR: 'it returns false'. Refute it at one input. -/
def cellReadsWrong : ChangeSpec := { name := "cellReads", fn := fun _ => fun
  | [d] => { results := [.lit (.bool false)], args := [d] }
  | _ => none }
def CellReadsWrongFalsely : Prop := cellReadsRow.holds Try.pinned (OpenSpec.ofChange cellReadsWrong)

/-- 'escritoirelaw8.CellTexts': WHATEVER THE INPUT: true; the input reads as it did. -/
def cellTextsSpec : ChangeSpec := { name := "cellTexts", fn := fun _ => fun
  | [d1, d2] => { results := [.lit (.bool true)], args := [d1, d2] }
  | _ => none }
def cellTextsRow : OpenClaim := { program := "ytaeooehilncokaa", sum := "599c6572af3b944e7a9ad3036559186433f18c2180274ccd622fb81a803df887", func := "escritoire/escritoirelaw8.CellTexts", spec := "cellTexts", unfollowed := true, recurses := true, apart := false }
def CellTextsSaid : Prop := cellTextsRow.holds Try.pinned (OpenSpec.ofChange cellTextsSpec)

/-- ITS FALSE NEIGHBOUR: 'it returns false'. Refute it at one input. -/
def cellTextsWrong : ChangeSpec := { name := "cellTexts", fn := fun _ => fun
  | [d1, d2] => { results := [.lit (.bool false)], args := [d1, d2] }
  | _ => none }
def CellTextsWrongFalsely : Prop := cellTextsRow.holds Try.pinned (OpenSpec.ofChange cellTextsWrong)

/- THE SECOND FORM. 'bulk': how many values and letters a reading holds, each counted each time it is reached (what is shared counts as often as it is met; a slice's spare places count too). A statement '..UptoSaid' is the law's where the arguments, and the package variables that the reading takes, are together of bulk at most 1048576: NARROWER than '..Said'. Prove '..Said' where nothing that the law and all that it calls make is longer than what came in: it says more and counts as full. Else prove '..UptoSaid'. A law counts once. -/
mutual
def uptoBulk {H : Type} : DataW H → Nat
  | .lit (.string bytes) => bytes.length + 1
  | .lit _ => 1
  | .nil => 1
  | .ptr d => uptoBulk d + 1
  | .slice elems spare => uptoBulkAll elems + uptoBulkAll spare + 1
  | .agg parts => uptoBulkAll parts + 1
  | .iface _ d => uptoBulk d + 1
  | .map entries => uptoBulkEntries entries + 1
  | .held _ => 1
def uptoBulkAll {H : Type} : List (DataW H) → Nat
  | [] => 0
  | d :: r => uptoBulk d + uptoBulkAll r
def uptoBulkEntries {H : Type} : List (Lit × DataW H) → Nat
  | [] => 0
  | x :: r => uptoBulkEntry x + uptoBulkEntries r
def uptoBulkEntry {H : Type} : Lit × DataW H → Nat
  | (.string bytes, d) => bytes.length + uptoBulk d + 1
  | (_, d) => uptoBulk d + 1
 end
def uptoSmall : (H : Type) → List (DataW H) → Bool := fun _ ds => decide (uptoBulkAll ds ≤ 1048576)
def OpenSpec.upto (s : _root_.Go.ChangeSpec) : _root_.Go.OpenSpec := { _root_.Go.OpenSpec.ofChange s with cond := some uptoSmall }

/-- 'escritoirelaw8.CellKnown', WHERE WHAT IT READS IS OF BULK AT MOST 1048576: true; the input reads as it did. -/
def cellKnownUptoRow : OpenClaim := { program := "ytaeooehilncokaa", sum := "599c6572af3b944e7a9ad3036559186433f18c2180274ccd622fb81a803df887", func := "escritoire/escritoirelaw8.CellKnown", spec := "cellKnown", unfollowed := true, recurses := true, apart := false, narrowed := true }
def CellKnownUptoSaid : Prop := cellKnownUptoRow.holds Try.pinned (OpenSpec.upto cellKnownSpec)

/-- 'escritoirelaw8.CellLeaves', WHERE WHAT IT READS IS OF BULK AT MOST 1048576: true; the input reads as it did. -/
def cellLeavesUptoRow : OpenClaim := { program := "ytaeooehilncokaa", sum := "599c6572af3b944e7a9ad3036559186433f18c2180274ccd622fb81a803df887", func := "escritoire/escritoirelaw8.CellLeaves", spec := "cellLeaves", unfollowed := true, recurses := true, apart := false, narrowed := true }
def CellLeavesUptoSaid : Prop := cellLeavesUptoRow.holds Try.pinned (OpenSpec.upto cellLeavesSpec)

/-- 'escritoirelaw8.CellInners', WHERE WHAT IT READS IS OF BULK AT MOST 1048576: true; the input reads as it did. -/
def cellInnersUptoRow : OpenClaim := { program := "ytaeooehilncokaa", sum := "599c6572af3b944e7a9ad3036559186433f18c2180274ccd622fb81a803df887", func := "escritoire/escritoirelaw8.CellInners", spec := "cellInners", unfollowed := true, recurses := true, apart := false, narrowed := true }
def CellInnersUptoSaid : Prop := cellInnersUptoRow.holds Try.pinned (OpenSpec.upto cellInnersSpec)

/-- 'escritoirelaw8.CellReads', WHERE WHAT IT READS IS OF BULK AT MOST 1048576: true; the input reads as it did. -/
def cellReadsUptoRow : OpenClaim := { program := "ytaeooehilncokaa", sum := "599c6572af3b944e7a9ad3036559186433f18c2180274ccd622fb81a803df887", func := "escritoire/escritoirelaw8.CellReads", spec := "cellReads", unfollowed := true, recurses := true, apart := false, narrowed := true }
def CellReadsUptoSaid : Prop := cellReadsUptoRow.holds Try.pinned (OpenSpec.upto cellReadsSpec)

/-- 'escritoirelaw8.CellTexts', WHERE WHAT IT READS IS OF BULK AT MOST 1048576: true; the input reads as it did. -/
def cellTextsUptoRow : OpenClaim := { program := "ytaeooehilncokaa", sum := "599c6572af3b944e7a9ad3036559186433f18c2180274ccd622fb81a803df887", func := "escritoire/escritoirelaw8.CellTexts", spec := "cellTexts", unfollowed := true, recurses := true, apart := false, narrowed := true }
def CellTextsUptoSaid : Prop := cellTextsUptoRow.holds Try.pinned (OpenSpec.upto cellTextsSpec)

end Rows
end Go.Proofs.Ytaeooehilncokaa
