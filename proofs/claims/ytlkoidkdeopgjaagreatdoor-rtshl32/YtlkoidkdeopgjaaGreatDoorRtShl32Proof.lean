/-
  The routine shl2 moves up the bits of numbers of 32 bits, whatever they are, wherever they and the stack lie apart from each other; all else stays as it was.
-/
import Derived.Test.YtlkoidkdeopgjaaGreatDoorCards
import Derived.Test.YtlkoidkdeopgjaaGreatDoorTie
import Derived.SevenTiedAt
import Derived.MakeChecks
import Derived.Test.YtlkoidkdeopgjaaGreatDoorRtShl32Said
namespace Go.Proofs.YtlkoidkdeopgjaaGreatDoor.rtShl32
open Go.ChangeShapes Go.WideShapes Go.ChangeAt Go.RowKit
set_option linter.unusedVariables false

theorem standNone (t : TypeId) (h : t ∈ [22, 3]) : Tryz.prog.wantsStandIn t = false := by
  simp only [List.mem_cons, List.not_mem_nil, or_false] at h
  rcases h with rfl | rfl <;> kernel_rfl

theorem cf1 : Rows.rtShl32Row.wfByText (OpenSpec.ofChange Rows.rtShl32Spec) = true := by kernel_rfl
theorem cf2 : true = Tryz.prog.looks [] := by kernel_rfl
theorem cf3 : false = Rows.rtShl32Row.goesBy Tryz.prog := by kernel_rfl
theorem cf4 : Tryz.prog.mainIs = some (true, "31a431bb1d7abeed5a5d3dc14d781d0dd723060d2fdb0ae527405603310b5b95".toList) := by kernel_rfl
theorem cf5 : Tryz.prog.funcNamed "pairlegal/pairlegallaw6.RtShl32" = some 7 := by kernel_rfl

theorem card : Rows.RtShl32CardSaid :=
  Claim7.holds_tied_plain_at .later [] _ _ _ _ said (fun _ h => by cases h) cf1 (fun _ h => by cases h) rtShl32_row_tie rfl ⟨rfl, rfl⟩ cf4 rfl
    (fun f fn hf hfn => by
      obtain rfl : f = 7 := Option.some.inj (cf5.symm.trans hf) |>.symm
      obtain rfl : fn = Tryz.f7 := (Option.some.inj (Tryz.func7.symm.trans hfn)).symm
      exact ⟨cf2, fun j t ht => by
        rw [Tryz.params7] at ht
        have hm := Array.mem_of_getElem? ht
        exact standNone t (by simpa using hm)⟩)
    cf3

end Go.Proofs.YtlkoidkdeopgjaaGreatDoor.rtShl32

theorem Go.Proofs.YtlkoidkdeopgjaaGreatDoor.rtShl32_holds : Go.Proofs.YtlkoidkdeopgjaaGreatDoor.Rows.RtShl32CardSaid := Go.Proofs.YtlkoidkdeopgjaaGreatDoor.rtShl32.card
#print axioms Go.Proofs.YtlkoidkdeopgjaaGreatDoor.rtShl32_holds
