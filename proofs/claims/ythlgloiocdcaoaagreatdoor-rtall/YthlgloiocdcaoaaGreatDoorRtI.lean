/-
  Routines: a unit that calls them all is linked: closed.
-/
import Derived.Test.YthlgloiocdcaoaaGreatDoorRtH
import Derived.Test.YthlgloiocdcaoaaGreatDoorLkXz
namespace Go.Proofs.YthlgloiocdcaoaaGreatDoor
open Go.RowKit
set_option linter.unusedSimpArgs false
set_option linter.unusedVariables false

/-- The lines of the unit that calls the first k. -/
def callL (k : Nat) : List Ln := ⟨⟨#[109, 97, 105, 110]⟩, ⟨0, 0, 0, 0⟩, ⟨#[]⟩⟩ :: (List.range k).map fun j => ⟨⟨#[]⟩, ⟨26, 0, 0, 0⟩, sb (nmAt j)⟩
def allU : List Un := unL ++ [⟨⟨#[]⟩, callL 24⟩]
def allOk (R : Im × Int × Int) : Bool := R.2.1 == 0 && decide (R.1.words.length < 32768) && decide (R.1.units.length = 25)
theorem all_links : allOk (linkL allU [109, 97, 105, 110]) = true := by kernel_rfl
end Go.Proofs.YthlgloiocdcaoaaGreatDoor
