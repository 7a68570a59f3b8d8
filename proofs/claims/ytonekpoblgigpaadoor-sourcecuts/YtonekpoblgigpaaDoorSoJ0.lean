/-
  Texts: the document's Tokens.
-/
import Derived.Test.YtonekpoblgigpaaDoorSoH
import Derived.Test.YtonekpoblgigpaaDoorSoI
import Derived.Test.YtonekpoblgigpaaDoorR7G
namespace Go.Proofs.YtonekpoblgigpaaDoor
open Go.RowKit
set_option linter.unusedSimpArgs false
set_option linter.unusedVariables false
/-- Parts of a function's code. -/
def sL : Code → Code | .seq a _ => a | c => c
def sR : Code → Code | .seq _ b => b | c => c
def bB : Code → Code | .block _ b => b | c => c
def lB : Code → Code | .loop b => b | c => c
theorem sgn_cases (l : List UInt8) (i : Nat) (hi : i ≤ l.length) : (sgB (l.drop i) = [] ∧ sgn1 (l.drop i) = (2, tk0, 0)) ∨ (sgB (l.drop i) ≠ [] ∧ sgn1 (l.drop i) = (0, ⟨3, sgB (l.drop i), 0, 0, false, 0⟩, (sgB (l.drop i)).length) ∧ (sgB (l.drop i)).length ≤ 2 ∧ i + (sgB (l.drop i)).length ≤ l.length) := by
  unfold sgB sgn1
  cases hf : sgP.find? (fun p => Lib.hasPrefix (l.drop i) p) with
  | none => left; constructor <;> simp
  | some p =>
    right
    have hm := List.mem_of_find?_eq_some hf
    have hp := List.find?_some hf
    have h1 : ∀ p ∈ sgP, 1 ≤ p.length ∧ p.length ≤ 2 := by decide
    obtain ⟨a1, a2⟩ := h1 p hm
    simp only [Lib.hasPrefix] at hp
    have h2 := (List.isPrefixOf_iff_prefix.1 hp).length_le
    rw [List.length_drop] at h2
    simp only [Option.getD_some]
    refine ⟨?_, by first | rfl | trivial, a2, by omega⟩
    intro e; rw [e] at a1; simp at a1
end Go.Proofs.YtonekpoblgigpaaDoor
