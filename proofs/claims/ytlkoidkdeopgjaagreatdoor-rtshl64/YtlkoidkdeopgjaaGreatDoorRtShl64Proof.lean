/-
  The routine shl4 moves up the bits of numbers of 64 bits, whatever they are, wherever they and the stack lie apart from each other; all else stays as it was.
-/
import Derived.Test.YtlkoidkdeopgjaaGreatDoorCards
import Derived.Test.YtlkoidkdeopgjaaGreatDoorTie
import Derived.SevenTiedAt
import Derived.MakeChecks
import Derived.Test.YtlkoidkdeopgjaaGreatDoorRtShl64Said
namespace Go.Proofs.YtlkoidkdeopgjaaGreatDoor.rtShl64
open Go.ChangeShapes Go.WideShapes Go.ChangeAt Go.RowKit
set_option linter.unusedVariables false

theorem standNone (t : TypeId) (h : t ∈ [22, 3]) : Tryz.prog.wantsStandIn t = false := by
  simp only [List.mem_cons, List.not_mem_nil, or_false] at h
  rcases h with rfl | rfl <;> kernel_rfl

theorem cf1 : Rows.rtShl64Row.wfByText (OpenSpec.ofChange Rows.rtShl64Spec) = true := by kernel_rfl
theorem cf2 : true = Tryz.prog.looks [] := by kernel_rfl
theorem cf3 : false = Rows.rtShl64Row.goesBy Tryz.prog := by kernel_rfl
theorem cf4 : Tryz.prog.mainIs = some (true, "31a431bb1d7abeed5a5d3dc14d781d0dd723060d2fdb0ae527405603310b5b95".toList) := by kernel_rfl
theorem cf5 : Tryz.prog.funcNamed "pairlegal/pairlegallaw6.RtShl64" = some 8 := by kernel_rfl

theorem card : Rows.RtShl64CardSaid :=
  Claim7.holds_tied_plain_at .later [] _ _ _ _ said (fun _ h => by cases h) cf1 (fun _ h => by cases h) rtShl64_row_tie rfl ⟨rfl, rfl⟩ cf4 rfl
    (fun f fn hf hfn => by
      obtain rfl : f = 8 := Option.some.inj (cf5.symm.trans hf) |>.symm
      obtain rfl : fn = Tryz.f8 := (Option.some.inj (Tryz.func8.symm.trans hfn)).symm
      exact ⟨cf2, fun j t ht => by
        rw [Tryz.params8] at ht
        have hm := Array.mem_of_getElem? ht
        exact standNone t (by simpa using hm)⟩)
    cf3

end Go.Proofs.YtlkoidkdeopgjaaGreatDoor.rtShl64

theorem Go.Proofs.YtlkoidkdeopgjaaGreatDoor.rtShl64_holds : Go.Proofs.YtlkoidkdeopgjaaGreatDoor.Rows.RtShl64CardSaid := Go.Proofs.YtlkoidkdeopgjaaGreatDoor.rtShl64.card
#print axioms Go.Proofs.YtlkoidkdeopgjaaGreatDoor.rtShl64_holds
