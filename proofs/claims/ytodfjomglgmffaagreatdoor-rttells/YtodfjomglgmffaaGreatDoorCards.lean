/-
  DERIVED. GIVEN WITH THE SEED: THE CARDS: each row of YtodfjomglgmffaaGreatDoorRows.lean that lists a variable, with what it lists TIED to the program's text (the seventh form; the later family's looks); each row that meets fmt, with fmt's text TOLD by the authors' own Lean function (tested against real Go, not proved from fmt's source: count such statements apart). THE CARD IS WHAT COUNTS. Prove the row's statement (the work); the ties are given (YtodfjomglgmffaaGreatDoorTie.lean); close each card by the builder's one call (the guide's Derived/Test/ToyasCard.lean, 'card_holds'). Laid BY PROGRAM, IN A SANDBOX (cutbox-door.mjs). By AI agents, Wed Nov 11 2026. No macro, syntax, notation, axiom, sorry.
-/
import Derived.Test.YtodfjomglgmffaaGreatDoorRows
import GoSem.ClaimSeven
namespace Go.Proofs.YtodfjomglgmffaaGreatDoor
namespace Rows

/-- THE TIED CARD OF 'pairlegallaw6.RtTells'. -/
def rtTellsCard : Claim7 := { stood := { row := rtTellsRow, standIns := [], harness := (true, "c18d4a1ffa80ef13e8123ef534fb142b6e9276b7600f0ecb8146ba7d923bee77"), looks := true }, kinds := [], alts := [], laidByText := true, laidKinds := [.data, .data, .data, .data, .sentinel, .sentinel, .data, .data, .pinned], laidTests := true, laidLooks := .later }
def RtTellsCardSaid : Prop := Claim7.holds Tryz.pinned (.plain (OpenSpec.ofChange rtTellsSpec)) rtTellsCard

/-- THE SECOND FORM's CARD OF 'pairlegallaw6.RtTells'. -/
def rtTellsUptoCard : Claim7 := { stood := { row := rtTellsUptoRow, standIns := [], harness := (true, "c18d4a1ffa80ef13e8123ef534fb142b6e9276b7600f0ecb8146ba7d923bee77"), looks := true }, kinds := [], alts := [], laidByText := true, laidKinds := [.data, .data, .data, .data, .sentinel, .sentinel, .data, .data, .pinned], laidTests := true, laidLooks := .later }
def RtTellsUptoCardSaid : Prop := Claim7.holds Tryz.pinned (.plain (OpenSpec.upto rtTellsSpec)) rtTellsUptoCard
end Rows
end Go.Proofs.YtodfjomglgmffaaGreatDoor
