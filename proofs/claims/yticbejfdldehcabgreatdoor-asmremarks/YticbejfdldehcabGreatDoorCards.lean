/-
  DERIVED. GIVEN WITH THE SEED: THE CARDS: each row of YticbejfdldehcabGreatDoorRows.lean that lists a variable, with what it lists TIED to the program's text (the seventh form; the later family's looks); each row that meets fmt, with fmt's text TOLD by the authors' own Lean function (tested against real Go, not proved from fmt's source: count such statements apart). THE CARD IS WHAT COUNTS. Prove the row's statement (the work); the ties are given (YticbejfdldehcabGreatDoorTie.lean); close each card by the builder's one call (the guide's Derived/Test/ToyasCard.lean, 'card_holds'). Laid BY PROGRAM, IN A SANDBOX (cutbox-door.mjs). By AI agents, Wed Nov 11 2026. No macro, syntax, notation, axiom, sorry.
-/
import Derived.Test.YticbejfdldehcabGreatDoorRows
import GoSem.ClaimSeven
namespace Go.Proofs.YticbejfdldehcabGreatDoor
namespace Rows

/-- THE TIED CARD OF 'pairlegallaw4.AsmRemarks'. -/
def asmRemarksCard : Claim7 := { stood := { row := asmRemarksRow, standIns := [], harness := (true, "3ce665893662b01aba866bdc6adc319519cc43d8c0e664c7708a3cc09205acd2"), looks := true }, kinds := [], alts := [], laidByText := true, laidKinds := [.data, .data, .data, .data, .sentinel, .sentinel, .data, .pinned], laidTests := true, laidLooks := .later }
def AsmRemarksCardSaid : Prop := Claim7.holds Tryz.pinned (.plain (OpenSpec.ofChange asmRemarksSpec)) asmRemarksCard

/-- THE SECOND FORM's CARD OF 'pairlegallaw4.AsmRemarks'. -/
def asmRemarksUptoCard : Claim7 := { stood := { row := asmRemarksUptoRow, standIns := [], harness := (true, "3ce665893662b01aba866bdc6adc319519cc43d8c0e664c7708a3cc09205acd2"), looks := true }, kinds := [], alts := [], laidByText := true, laidKinds := [.data, .data, .data, .data, .sentinel, .sentinel, .data, .pinned], laidTests := true, laidLooks := .later }
def AsmRemarksUptoCardSaid : Prop := Claim7.holds Tryz.pinned (.plain (OpenSpec.upto asmRemarksSpec)) asmRemarksUptoCard
end Rows
end Go.Proofs.YticbejfdldehcabGreatDoor
