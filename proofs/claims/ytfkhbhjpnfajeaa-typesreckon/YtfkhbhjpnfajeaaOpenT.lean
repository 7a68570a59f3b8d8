/-
  What came in, by its reading: types of numbers.
-/
import Derived.Test.YtfkhbhjpnfajeaaTyA
import Derived.ProofKit
import Derived.OpenShut
namespace Go.Proofs.Ytfkhbhjpnfajeaa
open Go.RowKit Go.ChangeShapes Go.WideShapes Go.ChangeAt
set_option linter.unusedSimpArgs false
set_option linter.unusedVariables false

theorem Try.cellsIntT : Try.prog.cellsOf 3 = 1 := by kernel_rfl
theorem Try.cellsBoolT : Try.prog.cellsOf 4 = 1 := by kernel_rfl
theorem Try.cellsType : Try.prog.cellsOf 24 = 2 := by kernel_rfl
section
variable {H : Type} {enc : TypeId × Value → H} {W : World} {v : Value} {d : DataW H} {ps : List MemPlace} {r : Reach} {base : Nat}
set_option maxRecDepth 100000 in
theorem open_cellsT {fuel : Nat} {cs : List Value} {x : DataW H × List MemPlace} {spare : Nat → Bool} {held : Bool} {b0 : Nat} (h : DataW.trod enc Try.prog W b0 spare held fuel 24 cs = some x) :
    ∃ (b : Int) (s : Bool), cs = [.int .i64 b, .bool s] := by
  obtain ⟨xs, k, _, _, hlen, hxl, hf⟩ := DataW.trod_struct Try.underlying24 h
  rw [Try.cellsType] at hlen
  match xs, hxl, cs, hlen with
  | [y0, y1], _, [v0, v1], _ =>
    have g0 := hf 0 _ rfl
    have g1 := hf 1 _ rfl
    simp [Try.cellsIntT, Try.cellsBoolT] at g0 g1
    obtain ⟨z0, e0, _, w0⟩ := DataW.trod_int Try.underlying3 g0
    obtain ⟨z1, e1, _⟩ := DataW.trod_bool Try.underlying4 g1
    simp at e0 e1
    subst e0 e1
    exact ⟨z0, z1, rfl⟩
theorem open_Type (h : DataW.Trod enc Try.prog W 0 (fun _ => true) true 24 v d ps) : ∃ (b : Int) (s : Bool), v = .agg #[.int .i64 b, .bool s] := by
  obtain ⟨fuel, hf⟩ := h
  obtain ⟨b, s, hc⟩ := open_cellsT hf
  have hv : ∃ cs : Array Value, v = .agg cs := by
    cases v <;> first | exact ⟨_, rfl⟩ | (simp [Value.cells] at hc)
  obtain ⟨cs, rfl⟩ := hv
  simp only [Value.cells] at hc
  obtain ⟨l⟩ := cs
  simp only at hc
  subst hc
  exact ⟨b, s, rfl⟩
end
end Go.Proofs.Ytfkhbhjpnfajeaa
