/-
  Types of numbers: how a type is written.
-/
import Derived.Test.YtonekpoblgigpaaDoorTyA
namespace Go.Proofs.YtonekpoblgigpaaDoor
open Go.RowKit
set_option linter.unusedSimpArgs false
set_option linter.unusedVariables false

/-- How a type of numbers is written. -/
def dgT (b : Int) : Array UInt8 := if b = 8 then #[56] else if b = 16 then #[49, 54] else if b = 32 then #[51, 50] else #[54, 52]
def nmT (b : Int) (s : Bool) : ByteArray := (if s = true then ⟨#[105]⟩ else ⟨#[117]⟩) ++ ⟨dgT b⟩
end Go.Proofs.YtonekpoblgigpaaDoor
