/-
  The routine sdiv4 divides, with signs, numbers of 64 bits; by nought it ends badly, whatever they are, wherever they and the stack lie apart from each other; all else stays as it was.
-/
import Derived.Test.YtllhjafacmkooaaGreatDoorCards
import Derived.Test.YtllhjafacmkooaaGreatDoorTie
import Derived.SevenTiedAt
import Derived.MakeChecks
import Derived.Test.YtllhjafacmkooaaGreatDoorRtSdiv64Said
namespace Go.Proofs.YtllhjafacmkooaaGreatDoor.rtSdiv64
open Go.ChangeShapes Go.WideShapes Go.ChangeAt Go.RowKit
set_option linter.unusedVariables false

theorem standNone (t : TypeId) (h : t ∈ [22, 3]) : Tryz.prog.wantsStandIn t = false := by
  simp only [List.mem_cons, List.not_mem_nil, or_false] at h
  rcases h with rfl | rfl <;> kernel_rfl

theorem cf1 : Rows.rtSdiv64Row.wfByText (OpenSpec.ofChange Rows.rtSdiv64Spec) = true := by kernel_rfl
theorem cf2 : true = Tryz.prog.looks [] := by kernel_rfl
theorem cf3 : false = Rows.rtSdiv64Row.goesBy Tryz.prog := by kernel_rfl
theorem cf4 : Tryz.prog.mainIs = some (true, "9e276bfce6dd660b51d59bffda6cf0b864414f20b041d13c6d00fdb269b3c4d8".toList) := by kernel_rfl
theorem cf5 : Tryz.prog.funcNamed "pairlegal/pairlegallaw6.RtSdiv64" = some 14 := by kernel_rfl

theorem card : Rows.RtSdiv64CardSaid :=
  Claim7.holds_tied_plain_at .later [] _ _ _ _ said (fun _ h => by cases h) cf1 (fun _ h => by cases h) rtSdiv64_row_tie rfl ⟨rfl, rfl⟩ cf4 rfl
    (fun f fn hf hfn => by
      obtain rfl : f = 14 := Option.some.inj (cf5.symm.trans hf) |>.symm
      obtain rfl : fn = Tryz.f14 := (Option.some.inj (Tryz.func14.symm.trans hfn)).symm
      exact ⟨cf2, fun j t ht => by
        rw [Tryz.params14] at ht
        have hm := Array.mem_of_getElem? ht
        exact standNone t (by simpa using hm)⟩)
    cf3

end Go.Proofs.YtllhjafacmkooaaGreatDoor.rtSdiv64

theorem Go.Proofs.YtllhjafacmkooaaGreatDoor.rtSdiv64_holds : Go.Proofs.YtllhjafacmkooaaGreatDoor.Rows.RtSdiv64CardSaid := Go.Proofs.YtllhjafacmkooaaGreatDoor.rtSdiv64.card
#print axioms Go.Proofs.YtllhjafacmkooaaGreatDoor.rtSdiv64_holds
