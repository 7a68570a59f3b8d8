/-
  Names, Text and Units: the names are those of the chapter; each text is read, and is the unit of its name.
-/
import Derived.Test.YtodfjomglgmffaaGreatDoorCards
import Derived.Test.YtodfjomglgmffaaGreatDoorTie
import Derived.SevenTiedAt
import Derived.MakeChecks
import Derived.Test.YtodfjomglgmffaaGreatDoorRtTellsSaid
namespace Go.Proofs.YtodfjomglgmffaaGreatDoor.rtTells
open Go.ChangeShapes Go.WideShapes Go.ChangeAt Go.RowKit
set_option linter.unusedVariables false

theorem standNone (t : TypeId) (h : t ∈ [9, 3]) : Tryz.prog.wantsStandIn t = false := by
  simp only [List.mem_cons, List.not_mem_nil, or_false] at h
  rcases h with rfl | rfl <;> kernel_rfl

theorem cf1 : Rows.rtTellsRow.wfByText (OpenSpec.ofChange Rows.rtTellsSpec) = true := by kernel_rfl
theorem cf2 : true = Tryz.prog.looks [] := by kernel_rfl
theorem cf3 : false = Rows.rtTellsRow.goesBy Tryz.prog := by kernel_rfl
theorem cf4 : Tryz.prog.mainIs = some (true, "c18d4a1ffa80ef13e8123ef534fb142b6e9276b7600f0ecb8146ba7d923bee77".toList) := by kernel_rfl
theorem cf5 : Tryz.prog.funcNamed "pairlegal/pairlegallaw6.RtTells" = some 3 := by kernel_rfl

theorem card : Rows.RtTellsCardSaid :=
  Claim7.holds_tied_plain_at .later [] _ _ _ _ said (fun _ h => by cases h) cf1 (fun _ h => by cases h) rtTells_row_tie rfl ⟨rfl, rfl⟩ cf4 rfl
    (fun f fn hf hfn => by
      obtain rfl : f = 3 := Option.some.inj (cf5.symm.trans hf) |>.symm
      obtain rfl : fn = Tryz.f3 := (Option.some.inj (Tryz.func3.symm.trans hfn)).symm
      exact ⟨cf2, fun j t ht => by
        rw [Tryz.params3] at ht
        have hm := Array.mem_of_getElem? ht
        exact standNone t (by simpa using hm)⟩)
    cf3

end Go.Proofs.YtodfjomglgmffaaGreatDoor.rtTells

theorem Go.Proofs.YtodfjomglgmffaaGreatDoor.rtTells_holds : Go.Proofs.YtodfjomglgmffaaGreatDoor.Rows.RtTellsCardSaid := Go.Proofs.YtodfjomglgmffaaGreatDoor.rtTells.card
#print axioms Go.Proofs.YtodfjomglgmffaaGreatDoor.rtTells_holds
