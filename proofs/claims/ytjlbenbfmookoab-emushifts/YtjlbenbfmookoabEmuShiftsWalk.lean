/-
  EmuShifts, walked.
-/
import Derived.Test.YtjlbenbfmookoabEmuShifts16
import Derived.Test.YtjlbenbfmookoabEmuShifts32
import Derived.Test.YtjlbenbfmookoabEmuShifts64
namespace Go.Proofs.Ytjlbenbfmookoab
open Go.RowKit
set_option linter.unusedSimpArgs false
set_option linter.unusedVariables false

theorem u_of {x : Int} (h : (Lit.int .u64 x).wf = true) : U x := by
  have h1 : IntKind.u64.min = 0 := rfl
  have h2 : IntKind.u64.max = 18446744073709551615 := rfl
  simp only [Lit.wf, Bool.and_eq_true, decide_eq_true_eq] at h
  unfold U
  omega
set_option maxRecDepth 100000 in
set_option maxHeartbeats 1000000 in
theorem walk_emuShifts (a W : Int) (sg : Bool) (w : World) (ha : (Lit.int .u64 a).wf = true) (_ : (Lit.int .i64 W).wf = true) :
    Calls Try.prog 5 #[.int .u64 a, .int .i64 W, .bool sg] w fun e w' => e = .returned (.bool true) ∧ Below w.heap.size w w' := by
  have hu := u_of ha
  by_cases h1 : W = 16
  · subst h1; exact shifts_16 a sg w hu
  by_cases h2 : W = 32
  · subst h2; exact shifts_32 a sg w hu
  by_cases h3 : W = 64
  · subst h3; exact shifts_64 a sg w hu
  have b1 : (W != 16) = true := by simp [h1]
  have b2 : (W != 32) = true := by simp [h2]
  have b3 : (W != 64) = true := by simp [h3]
  clear h1 h2 h3
  go_enter Try.func5, Try.ntmps5
  go_wp2_with fail
  refine (alive3 _).mono ?_
  rintro e w1 ⟨rfl, k1⟩
  go_wp2_with fail
  go_ret
  exact ⟨rfl, k1⟩
end Go.Proofs.Ytjlbenbfmookoab
