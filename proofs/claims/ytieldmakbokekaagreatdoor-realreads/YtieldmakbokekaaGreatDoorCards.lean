/-
  DERIVED. GIVEN WITH THE SEED: THE CARDS: each row of YtieldmakbokekaaGreatDoorRows.lean that lists a variable, with what it lists TIED to the program's text (the seventh form; the later family's looks); each row that meets fmt, with fmt's text TOLD by the authors' own Lean function (tested against real Go, not proved from fmt's source: count such statements apart). THE CARD IS WHAT COUNTS. Prove the row's statement (the work); the ties are given (YtieldmakbokekaaGreatDoorTie.lean); close each card by the builder's one call (the guide's Derived/Test/ToyasCard.lean, 'card_holds'). Laid BY PROGRAM, IN A SANDBOX (cutbox-door.mjs). By AI agents, Wed Nov 11 2026. No macro, syntax, notation, axiom, sorry.
-/
import Derived.Test.YtieldmakbokekaaGreatDoorRows
import GoSem.ClaimSeven
namespace Go.Proofs.YtieldmakbokekaaGreatDoor
namespace Rows

/-- THE TIED CARD OF 'escritoirelaw3.RealShows'. -/
def realShowsCard : Claim7 := { stood := { row := realShowsRow, standIns := [], harness := (true, "4839cb7e09899002a70b1f74be92148831a0cc01804d3641fb4be98830487511"), looks := true }, kinds := [], alts := [], laidByText := true, laidKinds := [.data, .data, .widerDeep, .widerDeep, .data, .data, .data, .data, .data, .data, .sentinel, .sentinel, .pinned, .pinned, .pinned], laidTests := true, laidLooks := .later }
def RealShowsCardSaid : Prop := Claim7.holds Tryz.pinned (.plain (OpenSpec.ofChange realShowsSpec)) realShowsCard

/-- THE TIED CARD OF 'escritoirelaw3.RealReads'. -/
def realReadsCard : Claim7 := { stood := { row := realReadsRow, standIns := [], harness := (true, "4839cb7e09899002a70b1f74be92148831a0cc01804d3641fb4be98830487511"), looks := true }, kinds := [], alts := [], laidByText := true, laidKinds := [.data, .data, .widerDeep, .widerDeep, .data, .data, .data, .data, .data, .data, .sentinel, .sentinel, .pinned, .pinned, .pinned], laidTests := true, laidLooks := .later }
def RealReadsCardSaid : Prop := Claim7.holds Tryz.pinned (.plain (OpenSpec.ofChange realReadsSpec)) realReadsCard

/-- THE SECOND FORM's CARD OF 'escritoirelaw3.RealShows'. -/
def realShowsUptoCard : Claim7 := { stood := { row := realShowsUptoRow, standIns := [], harness := (true, "4839cb7e09899002a70b1f74be92148831a0cc01804d3641fb4be98830487511"), looks := true }, kinds := [], alts := [], laidByText := true, laidKinds := [.data, .data, .widerDeep, .widerDeep, .data, .data, .data, .data, .data, .data, .sentinel, .sentinel, .pinned, .pinned, .pinned], laidTests := true, laidLooks := .later }
def RealShowsUptoCardSaid : Prop := Claim7.holds Tryz.pinned (.plain (OpenSpec.upto realShowsSpec)) realShowsUptoCard

/-- THE SECOND FORM's CARD OF 'escritoirelaw3.RealReads'. -/
def realReadsUptoCard : Claim7 := { stood := { row := realReadsUptoRow, standIns := [], harness := (true, "4839cb7e09899002a70b1f74be92148831a0cc01804d3641fb4be98830487511"), looks := true }, kinds := [], alts := [], laidByText := true, laidKinds := [.data, .data, .widerDeep, .widerDeep, .data, .data, .data, .data, .data, .data, .sentinel, .sentinel, .pinned, .pinned, .pinned], laidTests := true, laidLooks := .later }
def RealReadsUptoCardSaid : Prop := Claim7.holds Tryz.pinned (.plain (OpenSpec.upto realReadsSpec)) realReadsUptoCard
end Rows
end Go.Proofs.YtieldmakbokekaaGreatDoor
