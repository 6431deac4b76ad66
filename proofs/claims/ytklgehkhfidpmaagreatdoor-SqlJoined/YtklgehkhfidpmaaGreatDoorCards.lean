/-
  DERIVED. GIVEN WITH THE SEED: THE CARDS: each row of YtklgehkhfidpmaaGreatDoorRows.lean that lists a variable, with what it lists TIED to the program's text (the seventh form; the later family's looks); each row that meets fmt, with fmt's text TOLD by the authors' own Lean function (tested against real Go, not proved from fmt's source: count such statements apart). THE CARD IS WHAT COUNTS. Prove the row's statement (the work); the ties are given (YtklgehkhfidpmaaGreatDoorTie.lean); close each card by the builder's one call (the guide's Derived/Test/ToyasCard.lean, 'card_holds'). Laid BY PROGRAM, IN A SANDBOX (cutbox-door.mjs). By AI agents, Wed Nov 11 2026. No macro, syntax, notation, axiom, sorry.
-/
import Derived.Test.YtklgehkhfidpmaaGreatDoorRows
import GoSem.ClaimSeven
namespace Go.Proofs.YtklgehkhfidpmaaGreatDoor
namespace Rows

/-- THE TIED CARD OF 'tidelaw11.SqlJoined'. -/
def sqlJoinedCard : Claim7 := { stood := { row := sqlJoinedRow, standIns := [], harness := (true, "9e557726b93c29fae93b0f4637efed0a7c3cda9f74bfa30a6e6fcf8a6878c0b7"), looks := true }, kinds := [], alts := [], laidByText := true, laidKinds := [.data, .data, .data, .sentinel, .sentinel, .data, .data], laidTests := true, laidLooks := .later }
def SqlJoinedCardSaid : Prop := Claim7.holds Tryz.pinned (.plain (OpenSpec.ofChange sqlJoinedSpec)) sqlJoinedCard

/-- THE TIED CARD OF 'tidelaw11.SqlTurns'. -/
def sqlTurnsCard : Claim7 := { stood := { row := sqlTurnsRow, standIns := [], harness := (true, "9e557726b93c29fae93b0f4637efed0a7c3cda9f74bfa30a6e6fcf8a6878c0b7"), looks := true }, kinds := [], alts := [], laidByText := true, laidKinds := [.data, .data, .data, .data, .sentinel, .sentinel, .data, .data, .pinned], laidTests := true, laidLooks := .later }
def SqlTurnsCardSaid : Prop := Claim7.holds Tryz.pinned (.plain (OpenSpec.ofChange sqlTurnsSpec)) sqlTurnsCard

/-- THE TIED CARD OF 'tidelaw11.SqlReads'. -/
def sqlReadsCard : Claim7 := { stood := { row := sqlReadsRow, standIns := [], harness := (true, "9e557726b93c29fae93b0f4637efed0a7c3cda9f74bfa30a6e6fcf8a6878c0b7"), looks := true }, kinds := [], alts := [], laidByText := true, laidKinds := [.data, .data, .data, .sentinel, .sentinel, .data, .data], laidTests := true, laidLooks := .later }
def SqlReadsCardSaid : Prop := Claim7.holds Tryz.pinned (.plain (OpenSpec.ofChange sqlReadsSpec)) sqlReadsCard

/-- THE SECOND FORM's CARD OF 'tidelaw11.SqlJoined'. -/
def sqlJoinedUptoCard : Claim7 := { stood := { row := sqlJoinedUptoRow, standIns := [], harness := (true, "9e557726b93c29fae93b0f4637efed0a7c3cda9f74bfa30a6e6fcf8a6878c0b7"), looks := true }, kinds := [], alts := [], laidByText := true, laidKinds := [.data, .data, .data, .sentinel, .sentinel, .data, .data], laidTests := true, laidLooks := .later }
def SqlJoinedUptoCardSaid : Prop := Claim7.holds Tryz.pinned (.plain (OpenSpec.upto sqlJoinedSpec)) sqlJoinedUptoCard

/-- THE SECOND FORM's CARD OF 'tidelaw11.SqlTurns'. -/
def sqlTurnsUptoCard : Claim7 := { stood := { row := sqlTurnsUptoRow, standIns := [], harness := (true, "9e557726b93c29fae93b0f4637efed0a7c3cda9f74bfa30a6e6fcf8a6878c0b7"), looks := true }, kinds := [], alts := [], laidByText := true, laidKinds := [.data, .data, .data, .data, .sentinel, .sentinel, .data, .data, .pinned], laidTests := true, laidLooks := .later }
def SqlTurnsUptoCardSaid : Prop := Claim7.holds Tryz.pinned (.plain (OpenSpec.upto sqlTurnsSpec)) sqlTurnsUptoCard

/-- THE SECOND FORM's CARD OF 'tidelaw11.SqlReads'. -/
def sqlReadsUptoCard : Claim7 := { stood := { row := sqlReadsUptoRow, standIns := [], harness := (true, "9e557726b93c29fae93b0f4637efed0a7c3cda9f74bfa30a6e6fcf8a6878c0b7"), looks := true }, kinds := [], alts := [], laidByText := true, laidKinds := [.data, .data, .data, .sentinel, .sentinel, .data, .data], laidTests := true, laidLooks := .later }
def SqlReadsUptoCardSaid : Prop := Claim7.holds Tryz.pinned (.plain (OpenSpec.upto sqlReadsSpec)) sqlReadsUptoCard
end Rows
end Go.Proofs.YtklgehkhfidpmaaGreatDoor
