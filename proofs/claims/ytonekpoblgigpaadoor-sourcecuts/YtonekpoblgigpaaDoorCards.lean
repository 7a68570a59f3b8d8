/-
  DERIVED. GIVEN WITH THE SEED: THE CARDS: each row of YtonekpoblgigpaaDoorRows.lean that lists a variable, with what it lists TIED to the program's text (the seventh form; the later family's looks); each row that meets fmt, with fmt's text TOLD by the authors' own Lean function (tested against real Go, not proved from fmt's source: count such statements apart). THE CARD IS WHAT COUNTS. Prove the row's statement (the work); the ties are given (YtonekpoblgigpaaDoorTie.lean); close each card by the builder's one call (the guide's Derived/Test/ToyasCard.lean, 'card_holds'). Laid BY PROGRAM, IN A SANDBOX (cutbox-door.mjs). By AI agents, Wed Nov 11 2026. No macro, syntax, notation, axiom, sorry.
-/
import Derived.Test.YtonekpoblgigpaaDoorRows
import GoSem.ClaimSeven
namespace Go.Proofs.YtonekpoblgigpaaDoor
namespace Rows

/-- THE TIED CARD OF 'pairlegallaw8.SourceCuts'. -/
def sourceCutsCard : Claim7 := { stood := { row := sourceCutsRow, standIns := [], harness := (true, "13696f3bf75ed53edd208acfa6a2899e5e6fac1f140f180b209ae8d9f21debc4"), looks := true }, kinds := [], alts := [], laidByText := true, laidKinds := [.data, .data, .data, .sentinel, .sentinel, .data], laidTests := true, laidLooks := .later }
def SourceCutsCardSaid : Prop := Claim7.holds Tryd.pinned (.plain (OpenSpec.ofChange sourceCutsSpec)) sourceCutsCard

/-- THE SECOND FORM's CARD OF 'pairlegallaw8.SourceCuts'. -/
def sourceCutsUptoCard : Claim7 := { stood := { row := sourceCutsUptoRow, standIns := [], harness := (true, "13696f3bf75ed53edd208acfa6a2899e5e6fac1f140f180b209ae8d9f21debc4"), looks := true }, kinds := [], alts := [], laidByText := true, laidKinds := [.data, .data, .data, .sentinel, .sentinel, .data], laidTests := true, laidLooks := .later }
def SourceCutsUptoCardSaid : Prop := Claim7.holds Tryd.pinned (.plain (OpenSpec.upto sourceCutsSpec)) sourceCutsUptoCard
end Rows
end Go.Proofs.YtonekpoblgigpaaDoor
