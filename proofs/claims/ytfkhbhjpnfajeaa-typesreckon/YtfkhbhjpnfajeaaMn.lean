/-
  What bits mean, with a sign or without.
-/
import Derived.Test.YtfkhbhjpnfajeaaPlain
namespace Go.Proofs.Ytfkhbhjpnfajeaa
open Go.RowKit
set_option linter.unusedSimpArgs false
set_option linter.unusedVariables false

def mn (s : Bool) (n x : Int) : Int := if s = true then sgn n x else cut n x
theorem mn_cut (s : Bool) (n x : Int) : mn s n (cut n x) = mn s n x := by
  unfold mn
  rw [sgn_cut, cut_cut]
theorem cut_sgn {n : Int} (x : Int) : cut n (sgn n x) = cut n x := by
  unfold sgn
  split
  · exact cut_cut n x
  · unfold cut
    rw [Int.sub_emod, Int.emod_self, Int.emod_emod, Int.sub_zero, Int.emod_emod]
theorem cut_mn (s : Bool) (n x : Int) : cut n (mn s n x) = cut n x := by
  unfold mn
  split
  · exact cut_sgn x
  · exact cut_cut n x
end Go.Proofs.Ytfkhbhjpnfajeaa
