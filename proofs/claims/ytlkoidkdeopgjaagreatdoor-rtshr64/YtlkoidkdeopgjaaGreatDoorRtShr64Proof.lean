/-
  The routine shr4 moves down the bits of numbers of 64 bits, whatever they are, wherever they and the stack lie apart from each other; all else stays as it was.
-/
import Derived.Test.YtlkoidkdeopgjaaGreatDoorCards
import Derived.Test.YtlkoidkdeopgjaaGreatDoorTie
import Derived.SevenTiedAt
import Derived.MakeChecks
import Derived.Test.YtlkoidkdeopgjaaGreatDoorRtShr64Said
namespace Go.Proofs.YtlkoidkdeopgjaaGreatDoor.rtShr64
open Go.ChangeShapes Go.WideShapes Go.ChangeAt Go.RowKit
set_option linter.unusedVariables false

theorem standNone (t : TypeId) (h : t ∈ [22, 3]) : Tryz.prog.wantsStandIn t = false := by
  simp only [List.mem_cons, List.not_mem_nil, or_false] at h
  rcases h with rfl | rfl <;> kernel_rfl

theorem cf1 : Rows.rtShr64Row.wfByText (OpenSpec.ofChange Rows.rtShr64Spec) = true := by kernel_rfl
theorem cf2 : true = Tryz.prog.looks [] := by kernel_rfl
theorem cf3 : false = Rows.rtShr64Row.goesBy Tryz.prog := by kernel_rfl
theorem cf4 : Tryz.prog.mainIs = some (true, "31a431bb1d7abeed5a5d3dc14d781d0dd723060d2fdb0ae527405603310b5b95".toList) := by kernel_rfl
theorem cf5 : Tryz.prog.funcNamed "pairlegal/pairlegallaw6.RtShr64" = some 11 := by kernel_rfl

theorem card : Rows.RtShr64CardSaid :=
  Claim7.holds_tied_plain_at .later [] _ _ _ _ said (fun _ h => by cases h) cf1 (fun _ h => by cases h) rtShr64_row_tie rfl ⟨rfl, rfl⟩ cf4 rfl
    (fun f fn hf hfn => by
      obtain rfl : f = 11 := Option.some.inj (cf5.symm.trans hf) |>.symm
      obtain rfl : fn = Tryz.f11 := (Option.some.inj (Tryz.func11.symm.trans hfn)).symm
      exact ⟨cf2, fun j t ht => by
        rw [Tryz.params11] at ht
        have hm := Array.mem_of_getElem? ht
        exact standNone t (by simpa using hm)⟩)
    cf3

end Go.Proofs.YtlkoidkdeopgjaaGreatDoor.rtShr64

theorem Go.Proofs.YtlkoidkdeopgjaaGreatDoor.rtShr64_holds : Go.Proofs.YtlkoidkdeopgjaaGreatDoor.Rows.RtShr64CardSaid := Go.Proofs.YtlkoidkdeopgjaaGreatDoor.rtShr64.card
#print axioms Go.Proofs.YtlkoidkdeopgjaaGreatDoor.rtShr64_holds
