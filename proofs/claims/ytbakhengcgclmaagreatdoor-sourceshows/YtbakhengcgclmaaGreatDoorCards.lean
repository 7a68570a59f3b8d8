/-
  DERIVED. GIVEN WITH THE SEED: THE CARDS: each row of YtbakhengcgclmaaGreatDoorRows.lean that lists a variable, with what it lists TIED to the program's text (the seventh form; the later family's looks); each row that meets fmt, with fmt's text TOLD by the authors' own Lean function (tested against real Go, not proved from fmt's source: count such statements apart). THE CARD IS WHAT COUNTS. Prove the row's statement (the work); the ties are given (YtbakhengcgclmaaGreatDoorTie.lean); close each card by the builder's one call (the guide's Derived/Test/ToyasCard.lean, 'card_holds'). Laid BY PROGRAM, IN A SANDBOX (cutbox-door.mjs). By AI agents, Wed Nov 11 2026. No macro, syntax, notation, axiom, sorry.
-/
import Derived.Test.YtbakhengcgclmaaGreatDoorRows
import GoSem.ClaimSeven
namespace Go.Proofs.YtbakhengcgclmaaGreatDoor
namespace Rows

/-- THE TIED CARD OF 'pairlegallaw8.SourceShows'. -/
def sourceShowsCard : Claim7 := { stood := { row := sourceShowsRow, standIns := [], harness := (true, "f6c3b4d2b2767f38efb1ba488b8bfeb28a01c2c0d1f10e521470db1ba0f15e5d"), looks := false }, kinds := [], alts := [], laidByText := true, laidKinds := [.data, .data, .data, .data], laidTests := true, laidLooks := .later }
def SourceShowsCardSaid : Prop := Claim7.holds Tryz.pinned (.plain (OpenSpec.ofChange sourceShowsSpec)) sourceShowsCard

/-- THE SECOND FORM's CARD OF 'pairlegallaw8.SourceShows'. -/
def sourceShowsUptoCard : Claim7 := { stood := { row := sourceShowsUptoRow, standIns := [], harness := (true, "f6c3b4d2b2767f38efb1ba488b8bfeb28a01c2c0d1f10e521470db1ba0f15e5d"), looks := false }, kinds := [], alts := [], laidByText := true, laidKinds := [.data, .data, .data, .data], laidTests := true, laidLooks := .later }
def SourceShowsUptoCardSaid : Prop := Claim7.holds Tryz.pinned (.plain (OpenSpec.upto sourceShowsSpec)) sourceShowsUptoCard
end Rows
end Go.Proofs.YtbakhengcgclmaaGreatDoor
