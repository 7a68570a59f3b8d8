/-
  DERIVED. GIVEN WITH THE SEED: THE CARDS: each row of YtoopgkbefhoeiaaGreatDoorRows.lean that lists a variable, with what it lists TIED to the program's text (the seventh form; the later family's looks); each row that meets fmt, with fmt's text TOLD by the authors' own Lean function (tested against real Go, not proved from fmt's source: count such statements apart). THE CARD IS WHAT COUNTS. Prove the row's statement (the work); the ties are given (YtoopgkbefhoeiaaGreatDoorTie.lean); close each card by the builder's one call (the guide's Derived/Test/ToyasCard.lean, 'card_holds'). Laid BY PROGRAM, IN A SANDBOX (cutbox-door.mjs). By AI agents, Wed Nov 11 2026. No macro, syntax, notation, axiom, sorry.
-/
import Derived.Test.YtoopgkbefhoeiaaGreatDoorRows
import GoSem.ClaimSeven
namespace Go.Proofs.YtoopgkbefhoeiaaGreatDoor
namespace Rows

/-- THE TIED CARD OF 'pairlegallaw4.AsmReads'. -/
def asmReadsCard : Claim7 := { stood := { row := asmReadsRow, standIns := [], harness := (true, "5dec82019c3f86619c64f3f73a40c7317c14ad9d13637968ead29d7a898bfd4f"), looks := true }, kinds := [], alts := [], laidByText := true, laidKinds := [.data, .data, .data, .data, .sentinel, .sentinel, .data, .pinned], laidTests := true, laidLooks := .later }
def AsmReadsCardSaid : Prop := Claim7.holds Tryz.pinned (.plain (OpenSpec.ofChange asmReadsSpec)) asmReadsCard

/-- THE TIED CARD OF 'pairlegallaw4.AsmTurns'. -/
def asmTurnsCard : Claim7 := { stood := { row := asmTurnsRow, standIns := [], harness := (true, "5dec82019c3f86619c64f3f73a40c7317c14ad9d13637968ead29d7a898bfd4f"), looks := true }, kinds := [], alts := [], laidByText := true, laidKinds := [.data, .data, .data, .data, .sentinel, .sentinel, .data, .pinned], laidTests := true, laidLooks := .later }
def AsmTurnsCardSaid : Prop := Claim7.holds Tryz.pinned (.plain (OpenSpec.ofChange asmTurnsSpec)) asmTurnsCard

/-- THE TIED CARD OF 'pairlegallaw4.AsmWords'. -/
def asmWordsCard : Claim7 := { stood := { row := asmWordsRow, standIns := [], harness := (true, "5dec82019c3f86619c64f3f73a40c7317c14ad9d13637968ead29d7a898bfd4f"), looks := true }, kinds := [], alts := [], laidByText := true, laidKinds := [.data, .data, .data, .data, .sentinel, .sentinel, .data, .pinned], laidTests := true, laidLooks := .later }
def AsmWordsCardSaid : Prop := Claim7.holds Tryz.pinned (.plain (OpenSpec.ofChange asmWordsSpec)) asmWordsCard

/-- THE SECOND FORM's CARD OF 'pairlegallaw4.AsmReads'. -/
def asmReadsUptoCard : Claim7 := { stood := { row := asmReadsUptoRow, standIns := [], harness := (true, "5dec82019c3f86619c64f3f73a40c7317c14ad9d13637968ead29d7a898bfd4f"), looks := true }, kinds := [], alts := [], laidByText := true, laidKinds := [.data, .data, .data, .data, .sentinel, .sentinel, .data, .pinned], laidTests := true, laidLooks := .later }
def AsmReadsUptoCardSaid : Prop := Claim7.holds Tryz.pinned (.plain (OpenSpec.upto asmReadsSpec)) asmReadsUptoCard

/-- THE SECOND FORM's CARD OF 'pairlegallaw4.AsmTurns'. -/
def asmTurnsUptoCard : Claim7 := { stood := { row := asmTurnsUptoRow, standIns := [], harness := (true, "5dec82019c3f86619c64f3f73a40c7317c14ad9d13637968ead29d7a898bfd4f"), looks := true }, kinds := [], alts := [], laidByText := true, laidKinds := [.data, .data, .data, .data, .sentinel, .sentinel, .data, .pinned], laidTests := true, laidLooks := .later }
def AsmTurnsUptoCardSaid : Prop := Claim7.holds Tryz.pinned (.plain (OpenSpec.upto asmTurnsSpec)) asmTurnsUptoCard

/-- THE SECOND FORM's CARD OF 'pairlegallaw4.AsmWords'. -/
def asmWordsUptoCard : Claim7 := { stood := { row := asmWordsUptoRow, standIns := [], harness := (true, "5dec82019c3f86619c64f3f73a40c7317c14ad9d13637968ead29d7a898bfd4f"), looks := true }, kinds := [], alts := [], laidByText := true, laidKinds := [.data, .data, .data, .data, .sentinel, .sentinel, .data, .pinned], laidTests := true, laidLooks := .later }
def AsmWordsUptoCardSaid : Prop := Claim7.holds Tryz.pinned (.plain (OpenSpec.upto asmWordsSpec)) asmWordsUptoCard
end Rows
end Go.Proofs.YtoopgkbefhoeiaaGreatDoor
