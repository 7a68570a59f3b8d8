/-
  EmuCarries, walked.
-/
import Derived.Test.YtjlbenbfmookoabEmuCarries16
import Derived.Test.YtjlbenbfmookoabEmuCarries32
namespace Go.Proofs.Ytjlbenbfmookoab
open Go.RowKit
set_option linter.unusedSimpArgs false
set_option linter.unusedVariables false

theorem u_ofC {x : Int} (h : (Lit.int .u64 x).wf = true) : U x := by
  have h1 : IntKind.u64.min = 0 := rfl
  have h2 : IntKind.u64.max = 18446744073709551615 := rfl
  simp only [Lit.wf, Bool.and_eq_true, decide_eq_true_eq] at h
  unfold U; omega
set_option maxRecDepth 100000 in
set_option maxHeartbeats 1000000 in
theorem walk_emuCarries (a b W : Int) (w : World) (ha : (Lit.int .u64 a).wf = true) (hb : (Lit.int .u64 b).wf = true) (_ : (Lit.int .i64 W).wf = true) :
    Calls Try.prog 4 #[.int .u64 a, .int .u64 b, .int .i64 W] w fun e w' => e = .returned (.bool true) ∧ Below w.heap.size w w' := by
  have hu := u_ofC ha
  have hv := u_ofC hb
  by_cases h1 : W = 16
  · subst h1; exact carries_16 a b w hu hv
  by_cases h2 : W = 32
  · subst h2; exact carries_32 a b w hu hv
  have b1 : (W != 16) = true := by simp [h1]
  have b2 : (W != 32) = true := by simp [h2]
  clear h1 h2
  go_enter Try.func4, Try.ntmps4
  go_wp2_with fail
  refine (alive3 _).mono ?_
  rintro e w1 ⟨rfl, k1⟩
  go_wp2_with fail
  go_ret
  exact ⟨rfl, k1⟩
end Go.Proofs.Ytjlbenbfmookoab
