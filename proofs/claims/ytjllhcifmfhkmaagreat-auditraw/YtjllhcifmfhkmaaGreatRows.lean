/-
  No cell of these rows narrows 'for every input' (looked for: loops, veiled, ifaces, maps, wideKeys, modest, calm, conditions, laid).
  DERIVED. THE GIVEN ROWS OF THIS SEAT. 6 by the template 'for every input the law returns true; each argument reads behind the call as it read before'; 0 by the template 'total and deterministic' (their statements: YtjllhcifmfhkmaaGreatTotals.lean).
  GIVEN WITH THE SEED: the statements are not yours to turn. If you find one false, say at which input.
  Laid BY PROGRAM, IN A SANDBOX (cutbox-rows.mjs): the forced cells as the released guide's own fill.sh prints them over the translation 65a43e398aa3a4c6… (all of the seat's roots in one cut). By AI agents, Wed Nov 11 2026. No macro, syntax, notation, axiom, sorry.
-/
import Derived.Test.YtjllhcifmfhkmaaGreatChecked
import GoSem.Claim
import GoSem.ClaimJoined
import GoSem.ClaimMapViews
import Derived.JoinedTies
import Derived.KernelRfl
namespace Go.Proofs.YtjllhcifmfhkmaaGreat
/- THE CELL 'sum', in the pinned program and in every row, IS THE sha256 OF THE DUMP (.gsa) THAT YtjllhcifmfhkmaaGreatProg.lean LOADS. Nothing in Lean hashes anything: it is a label: what it is worth is what the hold of that sum in a sandbox is worth. -/
noncomputable def Tryz.pinned : Pinned := { name := "ytjllhcifmfhkmaagreat", sum := "65a43e398aa3a4c671601149fca6fe8ee182c4b3706bd3986a41449f893aae87", checked := Tryz.checked }
namespace Rows
def none {H : Type} : Left H := { results := [], args := [] }

/-- 'escritoirelaw12.AuditKnown': WHATEVER THE INPUT: true; the input reads as it did. -/
def auditKnownSpec : ChangeSpec := { name := "auditKnown", fn := fun _ => fun
  | [] => { results := [.lit (.bool true)], args := [] }
  | _ => none }
def auditKnownRow : OpenClaim := { program := "ytjllhcifmfhkmaagreat", sum := "65a43e398aa3a4c671601149fca6fe8ee182c4b3706bd3986a41449f893aae87", func := "escritoire/escritoirelaw12.AuditKnown", spec := "auditKnown", inPlace := ["internal/bytealg.Count", "internal/bytealg.IndexByte", "internal/bytealg.Index"], unfollowed := true, recurses := true, named := ["internal/bytealg.MaxLen"], apart := false }
def AuditKnownSaid : Prop := auditKnownRow.holds Tryz.pinned (OpenSpec.ofChange auditKnownSpec)

/-- ITS FALSE NEIGHBOUR: 'it returns false'. Refute it at one input. -/
def auditKnownWrong : ChangeSpec := { name := "auditKnown", fn := fun _ => fun
  | [] => { results := [.lit (.bool false)], args := [] }
  | _ => none }
def AuditKnownWrongFalsely : Prop := auditKnownRow.holds Tryz.pinned (OpenSpec.ofChange auditKnownWrong)

/-- 'escritoirelaw12.AuditOpens': WHATEVER THE INPUT: true; the input reads as it did. -/
def auditOpensSpec : ChangeSpec := { name := "auditOpens", fn := fun _ => fun
  | [d1, d2, d3] => { results := [.lit (.bool true)], args := [d1, d2, d3] }
  | _ => none }
def auditOpensRow : OpenClaim := { program := "ytjllhcifmfhkmaagreat", sum := "65a43e398aa3a4c671601149fca6fe8ee182c4b3706bd3986a41449f893aae87", func := "escritoire/escritoirelaw12.AuditOpens", spec := "auditOpens", inPlace := ["internal/bytealg.Count", "internal/bytealg.IndexByte", "internal/bytealg.Index"], unfollowed := true, recurses := true, named := ["internal/bytealg.MaxLen"], apart := false }
def AuditOpensSaid : Prop := auditOpensRow.holds Tryz.pinned (OpenSpec.ofChange auditOpensSpec)

/-- ITS FALSE NEIGHBOUR: 'it returns false'. Refute it at one input. -/
def auditOpensWrong : ChangeSpec := { name := "auditOpens", fn := fun _ => fun
  | [d1, d2, d3] => { results := [.lit (.bool false)], args := [d1, d2, d3] }
  | _ => none }
def AuditOpensWrongFalsely : Prop := auditOpensRow.holds Tryz.pinned (OpenSpec.ofChange auditOpensWrong)

/-- 'escritoirelaw12.AuditStruck': WHATEVER THE INPUT: true; the input reads as it did. -/
def auditStruckSpec : ChangeSpec := { name := "auditStruck", fn := fun _ => fun
  | [d1, d2, d3] => { results := [.lit (.bool true)], args := [d1, d2, d3] }
  | _ => none }
def auditStruckRow : OpenClaim := { program := "ytjllhcifmfhkmaagreat", sum := "65a43e398aa3a4c671601149fca6fe8ee182c4b3706bd3986a41449f893aae87", func := "escritoire/escritoirelaw12.AuditStruck", spec := "auditStruck", inPlace := ["internal/bytealg.Count", "internal/bytealg.IndexByte", "internal/bytealg.Index"], unfollowed := true, recurses := true, named := ["internal/bytealg.MaxLen"], apart := false }
def AuditStruckSaid : Prop := auditStruckRow.holds Tryz.pinned (OpenSpec.ofChange auditStruckSpec)

/-- ITS FALSE NEIGHBOUR: 'it returns false'. Refute it at one input. -/
def auditStruckWrong : ChangeSpec := { name := "auditStruck", fn := fun _ => fun
  | [d1, d2, d3] => { results := [.lit (.bool false)], args := [d1, d2, d3] }
  | _ => none }
def AuditStruckWrongFalsely : Prop := auditStruckRow.holds Tryz.pinned (OpenSpec.ofChange auditStruckWrong)

/-- 'escritoirelaw12.AuditRaw': WHATEVER THE INPUT: true; the input reads as it did. -/
def auditRawSpec : ChangeSpec := { name := "auditRaw", fn := fun _ => fun
  | [d1, d2] => { results := [.lit (.bool true)], args := [d1, d2] }
  | _ => none }
def auditRawRow : OpenClaim := { program := "ytjllhcifmfhkmaagreat", sum := "65a43e398aa3a4c671601149fca6fe8ee182c4b3706bd3986a41449f893aae87", func := "escritoire/escritoirelaw12.AuditRaw", spec := "auditRaw", inPlace := ["internal/bytealg.Count", "internal/bytealg.IndexByte", "internal/bytealg.Index"], unfollowed := true, recurses := true, named := ["internal/bytealg.MaxLen"], apart := false }
def AuditRawSaid : Prop := auditRawRow.holds Tryz.pinned (OpenSpec.ofChange auditRawSpec)

/-- ITS FALSE NEIGHBOUR: 'it returns false'. Refute it at one input. -/
def auditRawWrong : ChangeSpec := { name := "auditRaw", fn := fun _ => fun
  | [d1, d2] => { results := [.lit (.bool false)], args := [d1, d2] }
  | _ => none }
def AuditRawWrongFalsely : Prop := auditRawRow.holds Tryz.pinned (OpenSpec.ofChange auditRawWrong)

/-- 'escritoirelaw12.AuditWalks': WHATEVER THE INPUT: true; the input reads as it did. -/
def auditWalksSpec : ChangeSpec := { name := "auditWalks", fn := fun _ => fun
  | [d1, d2, d3] => { results := [.lit (.bool true)], args := [d1, d2, d3] }
  | _ => none }
def auditWalksRow : OpenClaim := { program := "ytjllhcifmfhkmaagreat", sum := "65a43e398aa3a4c671601149fca6fe8ee182c4b3706bd3986a41449f893aae87", func := "escritoire/escritoirelaw12.AuditWalks", spec := "auditWalks", inPlace := ["internal/bytealg.Count", "internal/bytealg.IndexByte", "internal/bytealg.Index"], unfollowed := true, recurses := true, named := ["internal/bytealg.MaxLen"], apart := false }
def AuditWalksSaid : Prop := auditWalksRow.holds Tryz.pinned (OpenSpec.ofChange auditWalksSpec)

/-- ITS FALSE NEIGHBOUR: 'it returns false'. Refute it at one input. -/
def auditWalksWrong : ChangeSpec := { name := "auditWalks", fn := fun _ => fun
  | [d1, d2, d3] => { results := [.lit (.bool false)], args := [d1, d2, d3] }
  | _ => none }
def AuditWalksWrongFalsely : Prop := auditWalksRow.holds Tryz.pinned (OpenSpec.ofChange auditWalksWrong)

/-- 'escritoirelaw12.AuditFails': WHATEVER THE INPUT: true; the input reads as it did. -/
def auditFailsSpec : ChangeSpec := { name := "auditFails", fn := fun _ => fun
  | [d1, d2, d3] => { results := [.lit (.bool true)], args := [d1, d2, d3] }
  | _ => none }
def auditFailsRow : OpenClaim := { program := "ytjllhcifmfhkmaagreat", sum := "65a43e398aa3a4c671601149fca6fe8ee182c4b3706bd3986a41449f893aae87", func := "escritoire/escritoirelaw12.AuditFails", spec := "auditFails", inPlace := ["internal/bytealg.Count", "internal/bytealg.IndexByte", "internal/bytealg.Index"], unfollowed := true, recurses := true, named := ["internal/bytealg.MaxLen"], apart := false }
def AuditFailsSaid : Prop := auditFailsRow.holds Tryz.pinned (OpenSpec.ofChange auditFailsSpec)

/-- ITS FALSE NEIGHBOUR: 'it returns false'. Refute it at one input. -/
def auditFailsWrong : ChangeSpec := { name := "auditFails", fn := fun _ => fun
  | [d1, d2, d3] => { results := [.lit (.bool false)], args := [d1, d2, d3] }
  | _ => none }
def AuditFailsWrongFalsely : Prop := auditFailsRow.holds Tryz.pinned (OpenSpec.ofChange auditFailsWrong)

/- THE SECOND FORM. 'bulk': how many values and letters a reading holds, each counted each time it is reached (what is shared counts as often as it is met; a slice's spare places count too). A statement '..UptoSaid' is the law's where the arguments, and the package variables that the reading takes, are together of bulk at most 1048576: NARROWER than '..Said'. Prove '..Said' where nothing that the law and all that it calls make is longer than what came in: it says more and counts as full. Else prove '..UptoSaid'. A law counts once. -/
mutual
def uptoBulk {H : Type} : DataW H → Nat
  | .lit (.string bytes) => bytes.length + 1
  | .lit _ => 1
  | .nil => 1
  | .ptr d => uptoBulk d + 1
  | .slice elems spare => uptoBulkAll elems + uptoBulkAll spare + 1
  | .agg parts => uptoBulkAll parts + 1
  | .iface _ d => uptoBulk d + 1
  | .map entries => uptoBulkEntries entries + 1
  | .held _ => 1
def uptoBulkAll {H : Type} : List (DataW H) → Nat
  | [] => 0
  | d :: r => uptoBulk d + uptoBulkAll r
def uptoBulkEntries {H : Type} : List (Lit × DataW H) → Nat
  | [] => 0
  | x :: r => uptoBulkEntry x + uptoBulkEntries r
def uptoBulkEntry {H : Type} : Lit × DataW H → Nat
  | (.string bytes, d) => bytes.length + uptoBulk d + 1
  | (_, d) => uptoBulk d + 1
 end
def uptoSmall : (H : Type) → List (DataW H) → Bool := fun _ ds => decide (uptoBulkAll ds ≤ 1048576)
def OpenSpec.upto (s : _root_.Go.ChangeSpec) : _root_.Go.OpenSpec := { _root_.Go.OpenSpec.ofChange s with cond := some uptoSmall }

/-- 'escritoirelaw12.AuditKnown', WHERE WHAT IT READS IS OF BULK AT MOST 1048576: true; the input reads as it did. -/
def auditKnownUptoRow : OpenClaim := { program := "ytjllhcifmfhkmaagreat", sum := "65a43e398aa3a4c671601149fca6fe8ee182c4b3706bd3986a41449f893aae87", func := "escritoire/escritoirelaw12.AuditKnown", spec := "auditKnown", inPlace := ["internal/bytealg.Count", "internal/bytealg.IndexByte", "internal/bytealg.Index"], unfollowed := true, recurses := true, named := ["internal/bytealg.MaxLen"], apart := false, narrowed := true }
def AuditKnownUptoSaid : Prop := auditKnownUptoRow.holds Tryz.pinned (OpenSpec.upto auditKnownSpec)

/-- 'escritoirelaw12.AuditOpens', WHERE WHAT IT READS IS OF BULK AT MOST 1048576: true; the input reads as it did. -/
def auditOpensUptoRow : OpenClaim := { program := "ytjllhcifmfhkmaagreat", sum := "65a43e398aa3a4c671601149fca6fe8ee182c4b3706bd3986a41449f893aae87", func := "escritoire/escritoirelaw12.AuditOpens", spec := "auditOpens", inPlace := ["internal/bytealg.Count", "internal/bytealg.IndexByte", "internal/bytealg.Index"], unfollowed := true, recurses := true, named := ["internal/bytealg.MaxLen"], apart := false, narrowed := true }
def AuditOpensUptoSaid : Prop := auditOpensUptoRow.holds Tryz.pinned (OpenSpec.upto auditOpensSpec)

/-- 'escritoirelaw12.AuditStruck', WHERE WHAT IT READS IS OF BULK AT MOST 1048576: true; the input reads as it did. -/
def auditStruckUptoRow : OpenClaim := { program := "ytjllhcifmfhkmaagreat", sum := "65a43e398aa3a4c671601149fca6fe8ee182c4b3706bd3986a41449f893aae87", func := "escritoire/escritoirelaw12.AuditStruck", spec := "auditStruck", inPlace := ["internal/bytealg.Count", "internal/bytealg.IndexByte", "internal/bytealg.Index"], unfollowed := true, recurses := true, named := ["internal/bytealg.MaxLen"], apart := false, narrowed := true }
def AuditStruckUptoSaid : Prop := auditStruckUptoRow.holds Tryz.pinned (OpenSpec.upto auditStruckSpec)

/-- 'escritoirelaw12.AuditRaw', WHERE WHAT IT READS IS OF BULK AT MOST 1048576: true; the input reads as it did. -/
def auditRawUptoRow : OpenClaim := { program := "ytjllhcifmfhkmaagreat", sum := "65a43e398aa3a4c671601149fca6fe8ee182c4b3706bd3986a41449f893aae87", func := "escritoire/escritoirelaw12.AuditRaw", spec := "auditRaw", inPlace := ["internal/bytealg.Count", "internal/bytealg.IndexByte", "internal/bytealg.Index"], unfollowed := true, recurses := true, named := ["internal/bytealg.MaxLen"], apart := false, narrowed := true }
def AuditRawUptoSaid : Prop := auditRawUptoRow.holds Tryz.pinned (OpenSpec.upto auditRawSpec)

/-- 'escritoirelaw12.AuditWalks', WHERE WHAT IT READS IS OF BULK AT MOST 1048576: true; the input reads as it did. -/
def auditWalksUptoRow : OpenClaim := { program := "ytjllhcifmfhkmaagreat", sum := "65a43e398aa3a4c671601149fca6fe8ee182c4b3706bd3986a41449f893aae87", func := "escritoire/escritoirelaw12.AuditWalks", spec := "auditWalks", inPlace := ["internal/bytealg.Count", "internal/bytealg.IndexByte", "internal/bytealg.Index"], unfollowed := true, recurses := true, named := ["internal/bytealg.MaxLen"], apart := false, narrowed := true }
def AuditWalksUptoSaid : Prop := auditWalksUptoRow.holds Tryz.pinned (OpenSpec.upto auditWalksSpec)

/-- 'escritoirelaw12.AuditFails', WHERE WHAT IT READS IS OF BULK AT MOST 1048576: true; the input reads as it did. -/
def auditFailsUptoRow : OpenClaim := { program := "ytjllhcifmfhkmaagreat", sum := "65a43e398aa3a4c671601149fca6fe8ee182c4b3706bd3986a41449f893aae87", func := "escritoire/escritoirelaw12.AuditFails", spec := "auditFails", inPlace := ["internal/bytealg.Count", "internal/bytealg.IndexByte", "internal/bytealg.Index"], unfollowed := true, recurses := true, named := ["internal/bytealg.MaxLen"], apart := false, narrowed := true }
def AuditFailsUptoSaid : Prop := auditFailsUptoRow.holds Tryz.pinned (OpenSpec.upto auditFailsSpec)

end Rows
end Go.Proofs.YtjllhcifmfhkmaaGreat
