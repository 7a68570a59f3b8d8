/-
  WordShifts, walked.
-/
import Derived.Test.YthoemilflefniaaBigP
import Derived.Test.YthoemilflefniaaPop1
import Derived.Test.YthoemilflefniaaShift
namespace Go.Proofs.Ythoemilflefniaa
open Go.RowKit
set_option linter.unusedSimpArgs false
set_option linter.unusedVariables false

theorem u_ofS {x : Int} (h : (Lit.int .u64 x).wf = true) : U x := by
  have h1 : IntKind.u64.min = 0 := rfl
  have h2 : IntKind.u64.max = 18446744073709551615 := rfl
  simp only [Lit.wf, Bool.and_eq_true, decide_eq_true_eq] at h
  unfold U; omega
theorem cut_mul_l (n x y : Int) : cut n (cut n x * y) = cut n (x * y) := by unfold cut; rw [Int.mul_emod, Int.emod_emod, ← Int.mul_emod]

set_option maxRecDepth 100000 in
set_option maxHeartbeats 4000000 in
theorem walk_wordShifts (a m n : Int) (s : Bool) (w : World) (wa : (Lit.int .u64 a).wf = true) (wm : (Lit.int .u64 m).wf = true) (_ : (Lit.int .i64 n).wf = true) :
    Calls Try.prog 4 #[.int .u64 a, .int .u64 m, .int .i64 n, .bool s] w fun e w' => e = .returned (.bool true) ∧ Below w.heap.size w w' := by
  have ha := u_ofS wa
  have hm := u_ofS wm
  clear wa wm
  rcases isW_or n with h | h
  · have A1 := fun w => shl_any a m n w h ha hm
    have D1 := fun w => shift_up a m n w h ha hm
    rw [cut_mul_l] at D1
    have D2 := fun w => shift_down a m n s w h ha hm
    have A2 : ∀ w, Calls Try.prog 24 #[.int .u64 a, .int .u64 m, .int .i64 n, .bool s] w fun e w' => e = .returned (.tuple #[.int .u64 (cut n (mn s n a / 2 ^ min m.toNat 64)), .int .i64 0]) ∧ Below w.heap.size w w' := by
      intro w
      cases s
      · rw [show mn false n a = cut n a from rfl, cut_div h]; exact shr_u a m n w h ha hm
      · exact shr_s a m n w h ha hm
    have A3 := fun w => bits_any a n w h ha
    have D3 := fun w => rones_any a n w h ha
    generalize cut n (a * 2 ^ min m.toNat 64) = V1 at *
    generalize cut n (mn s n a / 2 ^ min m.toNat 64) = V2 at *
    generalize pop n.toNat a.toNat = V3 at *
    clear h ha hm
    go_enter Try.func4, Try.ntmps4
    go_wp2_with fail
    refine (A1 _).mono ?_
    rintro e w1 ⟨rfl, k1⟩
    have K1 := hide k1
    clear k1
    go_wp2_with fail
    refine (D1 _).mono ?_
    rintro e w2 ⟨rfl, k2⟩
    have K2 := hide ((unhide K1).trans (k2.mono (unhide K1).size))
    clear k2
    go_wp2_with fail
    refine (A2 _).mono ?_
    rintro e w3 ⟨rfl, k3⟩
    have K3 := hide ((unhide K2).trans (k3.mono (unhide K2).size))
    clear k3
    go_wp2_with fail
    refine (D2 _).mono ?_
    rintro e w4 ⟨rfl, k4⟩
    have K4 := hide ((unhide K3).trans (k4.mono (unhide K3).size))
    clear k4
    go_wp2_with fail
    refine (A3 _).mono ?_
    rintro e w5 ⟨rfl, hw⟩
    subst w5
    go_wp2_with fail
    refine (D3 _).mono ?_
    rintro e w5 ⟨rfl, k5⟩
    have K5 := hide ((unhide K4).trans (k5.mono (unhide K4).size))
    clear k5
    go_wp2_with fail
    go_ret
    exact ⟨rfl, unhide K5⟩
  · have A1 := fun w => shl_no a m n w h
    have A2 := fun w => shr_no a m n s w h
    have A3 := fun w => bits_no a n w h
    have D := fun u s w => shift_no a m n u s w h
    have D3 := fun w => rones_no a n w h
    clear h ha hm
    go_enter Try.func4, Try.ntmps4
    go_wp2_with fail
    refine (A1 _).mono ?_
    rintro e w1 ⟨rfl, k1⟩
    have K1 := hide k1
    clear k1
    go_wp2_with fail
    refine (D _ _ _).mono ?_
    rintro e w2 ⟨rfl, k2⟩
    have K2 := hide ((unhide K1).trans (k2.mono (unhide K1).size))
    clear k2
    go_wp2_with fail
    refine (A2 _).mono ?_
    rintro e w3 ⟨rfl, k3⟩
    have K3 := hide ((unhide K2).trans (k3.mono (unhide K2).size))
    clear k3
    go_wp2_with fail
    refine (D _ _ _).mono ?_
    rintro e w4 ⟨rfl, k4⟩
    have K4 := hide ((unhide K3).trans (k4.mono (unhide K3).size))
    clear k4
    go_wp2_with fail
    refine (A3 _).mono ?_
    rintro e w5 ⟨rfl, hw⟩
    subst w5
    go_wp2_with fail
    refine (D3 _).mono ?_
    rintro e w5 ⟨rfl, k5⟩
    have K5 := hide ((unhide K4).trans (k5.mono (unhide K4).size))
    clear k5
    go_wp2_with fail
    go_ret
    exact ⟨rfl, unhide K5⟩
end Go.Proofs.Ythoemilflefniaa
