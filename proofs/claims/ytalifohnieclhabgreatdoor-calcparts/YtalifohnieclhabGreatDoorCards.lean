/-
  DERIVED. GIVEN WITH THE SEED: THE CARDS: each row of YtalifohnieclhabGreatDoorRows.lean that lists a variable, with what it lists TIED to the program's text (the seventh form; the later family's looks); each row that meets fmt, with fmt's text TOLD by the authors' own Lean function (tested against real Go, not proved from fmt's source: count such statements apart). THE CARD IS WHAT COUNTS. Prove the row's statement (the work); the ties are given (YtalifohnieclhabGreatDoorTie.lean); close each card by the builder's one call (the guide's Derived/Test/ToyasCard.lean, 'card_holds'). Laid BY PROGRAM, IN A SANDBOX (cutbox-door.mjs). By AI agents, Wed Nov 11 2026. No macro, syntax, notation, axiom, sorry.
-/
import Derived.Test.YtalifohnieclhabGreatDoorRows
import GoSem.ClaimSeven
namespace Go.Proofs.YtalifohnieclhabGreatDoor
namespace Rows

/-- THE TIED CARD OF 'escritoirelaw4.CalcBlanks'. -/
def calcBlanksCard : Claim7 := { stood := { row := calcBlanksRow, standIns := [], harness := (true, "86278185bf082d999072017f91ed01f6dd32494313cd1f27063206c5b9e4c2ae"), looks := true }, kinds := [], alts := [], laidByText := true, laidKinds := [.data, .data, .widerDeep, .widerDeep, .data, .data, .data, .data, .data, .data, .sentinel, .sentinel, .pinned, .pinned, .pinned], laidTests := true, laidLooks := .later }
def CalcBlanksCardSaid : Prop := Claim7.holds Tryz.pinned (.plain (OpenSpec.ofChange calcBlanksSpec)) calcBlanksCard

/-- THE TIED CARD OF 'escritoirelaw4.CalcParts'. -/
def calcPartsCard : Claim7 := { stood := { row := calcPartsRow, standIns := [], harness := (true, "86278185bf082d999072017f91ed01f6dd32494313cd1f27063206c5b9e4c2ae"), looks := true }, kinds := [], alts := [], laidByText := true, laidKinds := [.data, .data, .widerDeep, .widerDeep, .data, .data, .data, .data, .data, .data, .sentinel, .sentinel, .pinned, .pinned, .pinned], laidTests := true, laidLooks := .later }
def CalcPartsCardSaid : Prop := Claim7.holds Tryz.pinned (.plain (OpenSpec.ofChange calcPartsSpec)) calcPartsCard

/-- THE TIED CARD OF 'escritoirelaw4.CalcDeep'. -/
def calcDeepCard : Claim7 := { stood := { row := calcDeepRow, standIns := [], harness := (true, "86278185bf082d999072017f91ed01f6dd32494313cd1f27063206c5b9e4c2ae"), looks := true }, kinds := [], alts := [], laidByText := true, laidKinds := [.data, .data, .widerDeep, .widerDeep, .data, .data, .data, .data, .data, .data, .sentinel, .sentinel, .pinned, .pinned, .pinned], laidTests := true, laidLooks := .later }
def CalcDeepCardSaid : Prop := Claim7.holds Tryz.pinned (.plain (OpenSpec.ofChange calcDeepSpec)) calcDeepCard

/-- THE TIED CARD OF 'escritoirelaw4.CalcNumbers'. -/
def calcNumbersCard : Claim7 := { stood := { row := calcNumbersRow, standIns := [], harness := (true, "86278185bf082d999072017f91ed01f6dd32494313cd1f27063206c5b9e4c2ae"), looks := true }, kinds := [], alts := [], laidByText := true, laidKinds := [.data, .data, .widerDeep, .widerDeep, .data, .data, .data, .data, .data, .data, .sentinel, .sentinel, .pinned, .pinned, .pinned], laidTests := true, laidLooks := .later }
def CalcNumbersCardSaid : Prop := Claim7.holds Tryz.pinned (.plain (OpenSpec.ofChange calcNumbersSpec)) calcNumbersCard

/-- THE SECOND FORM's CARD OF 'escritoirelaw4.CalcBlanks'. -/
def calcBlanksUptoCard : Claim7 := { stood := { row := calcBlanksUptoRow, standIns := [], harness := (true, "86278185bf082d999072017f91ed01f6dd32494313cd1f27063206c5b9e4c2ae"), looks := true }, kinds := [], alts := [], laidByText := true, laidKinds := [.data, .data, .widerDeep, .widerDeep, .data, .data, .data, .data, .data, .data, .sentinel, .sentinel, .pinned, .pinned, .pinned], laidTests := true, laidLooks := .later }
def CalcBlanksUptoCardSaid : Prop := Claim7.holds Tryz.pinned (.plain (OpenSpec.upto calcBlanksSpec)) calcBlanksUptoCard

/-- THE SECOND FORM's CARD OF 'escritoirelaw4.CalcParts'. -/
def calcPartsUptoCard : Claim7 := { stood := { row := calcPartsUptoRow, standIns := [], harness := (true, "86278185bf082d999072017f91ed01f6dd32494313cd1f27063206c5b9e4c2ae"), looks := true }, kinds := [], alts := [], laidByText := true, laidKinds := [.data, .data, .widerDeep, .widerDeep, .data, .data, .data, .data, .data, .data, .sentinel, .sentinel, .pinned, .pinned, .pinned], laidTests := true, laidLooks := .later }
def CalcPartsUptoCardSaid : Prop := Claim7.holds Tryz.pinned (.plain (OpenSpec.upto calcPartsSpec)) calcPartsUptoCard

/-- THE SECOND FORM's CARD OF 'escritoirelaw4.CalcDeep'. -/
def calcDeepUptoCard : Claim7 := { stood := { row := calcDeepUptoRow, standIns := [], harness := (true, "86278185bf082d999072017f91ed01f6dd32494313cd1f27063206c5b9e4c2ae"), looks := true }, kinds := [], alts := [], laidByText := true, laidKinds := [.data, .data, .widerDeep, .widerDeep, .data, .data, .data, .data, .data, .data, .sentinel, .sentinel, .pinned, .pinned, .pinned], laidTests := true, laidLooks := .later }
def CalcDeepUptoCardSaid : Prop := Claim7.holds Tryz.pinned (.plain (OpenSpec.upto calcDeepSpec)) calcDeepUptoCard

/-- THE SECOND FORM's CARD OF 'escritoirelaw4.CalcNumbers'. -/
def calcNumbersUptoCard : Claim7 := { stood := { row := calcNumbersUptoRow, standIns := [], harness := (true, "86278185bf082d999072017f91ed01f6dd32494313cd1f27063206c5b9e4c2ae"), looks := true }, kinds := [], alts := [], laidByText := true, laidKinds := [.data, .data, .widerDeep, .widerDeep, .data, .data, .data, .data, .data, .data, .sentinel, .sentinel, .pinned, .pinned, .pinned], laidTests := true, laidLooks := .later }
def CalcNumbersUptoCardSaid : Prop := Claim7.holds Tryz.pinned (.plain (OpenSpec.upto calcNumbersSpec)) calcNumbersUptoCard
end Rows
end Go.Proofs.YtalifohnieclhabGreatDoor
