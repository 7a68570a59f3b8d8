/-
  What came in, by its reading: an instruction.
-/
import Derived.Test.YtjkkcnokddpjgaaOpen
import Derived.Test.YtjkkcnokddpjgaaInsG
namespace Go.Proofs.Ytjkkcnokddpjgaa
open Go.RowKit Go.ChangeShapes Go.WideShapes Go.ChangeAt
set_option linter.unusedSimpArgs false
set_option linter.unusedVariables false

section
variable {H : Type} {enc : TypeId × Value → H} {W : World} {v : Value} {d : DataW H} {ps : List MemPlace} {r : Reach} {base : Nat}
set_option maxRecDepth 100000 in
theorem open_Instr (_hv : Value.okWide Try.prog W r base 23 v) (h : DataW.Trod enc Try.prog W 0 (fun _ => true) true 23 v d ps) : ∃ i : Ins, v = agg i ∧ I64 i.o ∧ I64 i.d ∧ I64 i.s ∧ I64 i.m := by
  obtain ⟨fuel, hf⟩ := h
  obtain ⟨i, hc, hw⟩ := open_cells4 hf
  have hv : ∃ cs : Array Value, v = .agg cs := by
    cases v <;> first | exact ⟨_, rfl⟩ | (simp [Value.cells, cells4] at hc)
  obtain ⟨cs, rfl⟩ := hv
  simp only [Value.cells, cells4] at hc
  obtain ⟨l⟩ := cs
  simp only at hc
  subst hc
  exact ⟨i, rfl, hw⟩
end
end Go.Proofs.Ytjkkcnokddpjgaa
