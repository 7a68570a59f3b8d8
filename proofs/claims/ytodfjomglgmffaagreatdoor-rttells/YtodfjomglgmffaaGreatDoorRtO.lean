/-
  Routines: what the row's list gives.
-/
import Derived.Test.YtodfjomglgmffaaGreatDoorRdO
import Derived.Test.YtodfjomglgmffaaGreatDoorRtUz
namespace Go.Proofs.YtodfjomglgmffaaGreatDoor
open Go.RowKit
set_option linter.unusedSimpArgs false
set_option linter.unusedVariables false

theorem gSz : Tryz.prog.globalNamed "pairlegal/rt.sizes" = some 0 := by kernel_rfl
theorem tSz : (Tryz.prog.globals[0]?).map (·.type) = some 50 := by kernel_rfl
theorem cI1 : Tryz.prog.cellsOf 3 = 1 := by kernel_rfl
theorem cS3 : Tryz.prog.cellsOf 50 = 3 := by kernel_rfl
theorem gz_of {L : List (String × DataW Unit)} {W : World} (hL : laidMet Tryz.prog L W) (m : ("pairlegal/rt.sizes", Lib.tabData .i64 [1, 2, 4]) ∈ L) : Gz W := by
  obtain ⟨g, t, cs, fuel, p, a1, a2, a3, a4⟩ := Lib.laidMet.reads hL m
  obtain rfl := Option.some.inj (gSz.symm.trans a1)
  obtain rfl := Option.some.inj (tSz.symm.trans a2)
  have h := Lib.cells_of_tab Tryz.underlying50 Tryz.underlying3 cI1 cS3 a4
  obtain ⟨tk, fr, hh⟩ := heap_of_var gSz a3
  have e : cs = #[.int .i64 1, .int .i64 2, .int .i64 4] := Array.ext' (by rw [h]; rfl)
  exact ⟨tk, fr, by rw [hh, e]⟩
end Go.Proofs.YtodfjomglgmffaaGreatDoor
