/-
  WordDoes, walked.
-/
import Derived.Test.YthoemilflefniaaBigO
import Derived.Test.YthoemilflefniaaRing
import Derived.Test.YthoemilflefniaaShift
import Derived.Test.YthoemilflefniaaDiv
namespace Go.Proofs.Ythoemilflefniaa
open Go.RowKit
set_option linter.unusedSimpArgs false
set_option linter.unusedVariables false

theorem u_ofD {x : Int} (h : (Lit.int .u64 x).wf = true) : U x := by
  have h1 : IntKind.u64.min = 0 := rfl
  have h2 : IntKind.u64.max = 18446744073709551615 := rfl
  simp only [Lit.wf, Bool.and_eq_true, decide_eq_true_eq] at h
  unfold U; omega
theorem cut_mn (s : Bool) (n x : Int) : cut n (mn s n x) = cut n x := by
  unfold mn sgn
  split
  · split
    · exact cut_cut n x
    · unfold cut
      rw [Int.sub_emod, Int.emod_self, Int.sub_zero, Int.emod_emod, Int.emod_emod]
  · exact cut_cut n x
theorem mn_zero {n : Int} (h : IsW n) (s : Bool) (x : Int) : mn s n x = 0 ↔ cut n x = 0 := by
  have c := cut_lt h x
  have d := cut_lo h x
  unfold mn sgn
  split
  · split <;> omega
  · exact Iff.rfl
theorem cut_mn_add (s : Bool) (n x y : Int) : cut n (mn s n x + mn s n y) = cut n (x + y) := by rw [← cut_add, cut_mn, cut_mn, cut_add]
theorem cut_mn_sub (s : Bool) (n x y : Int) : cut n (mn s n x - mn s n y) = cut n (x - y) := by rw [← cut_sub, cut_mn, cut_mn, cut_sub]
theorem cut_mn_mul (s : Bool) (n x y : Int) : cut n (mn s n x * mn s n y) = cut n (x * y) := by rw [← cut_mul, cut_mn, cut_mn, cut_mul]
theorem cut_quo {n : Int} (h : IsW n) (x y : Int) : cut n ((mn false n x).tdiv (mn false n y)) = cut n x / cut n y := by
  have a := cut_lo h x
  have b := cut_lo h y
  show cut n ((cut n x).tdiv (cut n y)) = _
  rw [Int.tdiv_eq_ediv_of_nonneg a]
  exact cut_of (Int.ediv_nonneg a b) (Int.lt_of_le_of_lt (Int.ediv_le_self _ a) (cut_lt h x))
theorem cut_rem {n : Int} (h : IsW n) (x y : Int) : cut n ((mn false n x).tmod (mn false n y)) = cut n x % cut n y := by
  have a := cut_lo h x
  have b := cut_lo h y
  show cut n ((cut n x).tmod (cut n y)) = _
  rw [Int.tmod_eq_emod_of_nonneg a]
  by_cases z : cut n y = 0
  · rw [z, Int.emod_zero]; exact cut_cut n x
  · exact cut_of (Int.emod_nonneg _ z) (Int.lt_trans (Int.emod_lt_of_pos _ (by omega)) (cut_lt h y))
/-- Div tells what Do tells. -/
theorem div_both (a b n : Int) (s : Bool) (h : IsW n) (ha : U a) (hb : U b) : ∃ V E : Int, (∀ w, Calls Try.prog 19 #[.int .u64 a, .int .u64 b, .int .i64 n, .bool s] w fun e w' => e = .returned (.tuple #[.int .u64 V, .int .i64 E]) ∧ Below w.heap.size w w') ∧ ∀ w, Calls Try.prog 16 #[.int .u8 47, .int .u64 a, .int .u64 b, .int .i64 n, .bool s] w fun e w' => e = .returned (.tuple #[.int .u64 V, .int .i64 E]) ∧ Below w.heap.size w w' := by
  by_cases z : cut n b = 0
  · exact ⟨0, 10, fun w => div_zero a b n s w h hb z, fun w => do_div0 a b n s w h ha hb ((mn_zero h s b).2 z)⟩
  · have hz : mn s n b ≠ 0 := fun e => z ((mn_zero h s b).1 e)
    refine ⟨cut n ((mn s n a).tdiv (mn s n b)), 0, fun w => ?_, fun w => do_div a b n s w h ha hb hz⟩
    cases s
    · rw [cut_quo h]; exact div_u a b n w h ha hb z
    · exact div_s a b n w h ha hb z
theorem rem_both (a b n : Int) (s : Bool) (h : IsW n) (ha : U a) (hb : U b) : ∃ V E : Int, (∀ w, Calls Try.prog 20 #[.int .u64 a, .int .u64 b, .int .i64 n, .bool s] w fun e w' => e = .returned (.tuple #[.int .u64 V, .int .i64 E]) ∧ Below w.heap.size w w') ∧ ∀ w, Calls Try.prog 16 #[.int .u8 37, .int .u64 a, .int .u64 b, .int .i64 n, .bool s] w fun e w' => e = .returned (.tuple #[.int .u64 V, .int .i64 E]) ∧ Below w.heap.size w w' := by
  by_cases z : cut n b = 0
  · exact ⟨0, 10, fun w => rem_zero a b n s w h hb z, fun w => do_rem0 a b n s w h ha hb ((mn_zero h s b).2 z)⟩
  · have hz : mn s n b ≠ 0 := fun e => z ((mn_zero h s b).1 e)
    refine ⟨cut n ((mn s n a).tmod (mn s n b)), 0, fun w => ?_, fun w => do_rem a b n s w h ha hb hz⟩
    cases s
    · rw [cut_rem h]; exact rem_u a b n w h ha hb z
    · exact rem_s a b n w h ha hb z
theorem less_both (a b n : Int) (s : Bool) (h : IsW n) (ha : U a) (hb : U b) : ∃ (L : Bool) (V : Int), (V == 1) = L ∧ (∀ w, Calls Try.prog 21 #[.int .u64 a, .int .u64 b, .int .i64 n, .bool s] w fun e w' => e = .returned (.tuple #[.bool L, .int .i64 0]) ∧ w' = w) ∧ ∀ w, Calls Try.prog 16 #[.int .u8 60, .int .u64 a, .int .u64 b, .int .i64 n, .bool s] w fun e w' => e = .returned (.tuple #[.int .u64 V, .int .i64 0]) ∧ Below w.heap.size w w' := by
  have L : ∀ w, Calls Try.prog 21 #[.int .u64 a, .int .u64 b, .int .i64 n, .bool s] w fun e w' => e = .returned (.tuple #[.bool (decide (mn s n a < mn s n b)), .int .i64 0]) ∧ w' = w := by
    intro w
    cases s
    · exact less_u a b n w h ha hb
    · exact less_s a b n w h ha hb
  by_cases z : mn s n a < mn s n b
  · refine ⟨true, cut n 1, ?_, ?_, fun w => do_less_yes a b n s w h ha hb z⟩
    · rcases h with rfl | rfl | rfl | rfl <;> decide
    · intro w; have := L w; rw [decide_eq_true z] at this; exact this
  · refine ⟨false, cut n 0, ?_, ?_, fun w => do_less_no a b n s w h ha hb z⟩
    · rcases h with rfl | rfl | rfl | rfl <;> decide
    · intro w; have := L w; rw [decide_eq_false z] at this; exact this
theorem sgn_i64 {n : Int} (h : IsW n) (x : Int) : I64 (sgn n x) := by
  have a := cut_lo h x
  have c := cut_lt h x
  have d := md_le h
  unfold sgn I64
  split
  · omega
  · refine ⟨?_, by omega⟩; omega
theorem less_no (a b n : Int) (s : Bool) (w : World) (h : NoW n) : Calls Try.prog 21 #[.int .u64 a, .int .u64 b, .int .i64 n, .bool s] w fun e w' => e = .returned (.tuple #[.bool false, .int .i64 1]) ∧ w' = w := by
  have WN := fun w => width_no n w h
  clear h
  go_enter Try.func21, Try.ntmps21
  go_wp2_with fail
  refine (WN _).mono ?_
  rintro e w1 ⟨rfl, hw⟩
  subst w1
  go_wp2_with fail
  go_ret2
  exact ⟨rfl, rfl⟩

set_option maxRecDepth 100000 in
set_option maxHeartbeats 4000000 in
theorem walk_wordDoes (a b n : Int) (s : Bool) (w : World) (wa : (Lit.int .u64 a).wf = true) (wb : (Lit.int .u64 b).wf = true) (_ : (Lit.int .i64 n).wf = true) :
    Calls Try.prog 3 #[.int .u64 a, .int .u64 b, .int .i64 n, .bool s] w fun e w' => e = .returned (.bool true) ∧ Below w.heap.size w w' := by
  have ha := u_ofD wa
  have hb := u_ofD wb
  clear wa wb
  have K0 := hide (Below.refl w.heap.size w)
  rcases isW_or n with h | h
  · have CU := fun w => cut_any a n w h ha
    have WI := fun w => width_yes n h w
    have RW := fun w => rwidth_yes n h w
    have WH := fun w => whole_any a w ha
    have b6 : (18446744073709551615 : Nat) < 4294967296 ^ 6 := by decide
    have FI := fun p w hp => fitW p a n w hp h (by unfold U at ha; omega)
    have SI := fun w => signed_any a n w h ha
    have ME := fun w => meant_any a n true w h ha
    rw [show mn true n a = sgn n a from rfl] at ME
    have IN := fun p w hp => int_any p (sgn n a) w hp (sgn_i64 h a)
    have A1 := fun w => add_any a b n w h ha hb
    have D1 := fun w => do_add a b n s w h ha hb
    have A2 := fun w => sub_any a b n w h ha hb
    have D2 := fun w => do_sub a b n s w h ha hb
    have A3 := fun w => mul_any a b n w h ha hb
    have D3 := fun w => do_mul a b n s w h ha hb
    rw [cut_mn_add] at D1
    rw [cut_mn_sub] at D2
    rw [cut_mn_mul] at D3
    obtain ⟨V4, E4, A4, D4⟩ := div_both a b n s h ha hb
    obtain ⟨V5, E5, A5, D5⟩ := rem_both a b n s h ha hb
    obtain ⟨L6, V6, hL, A6, D6⟩ := less_both a b n s h ha hb
    generalize cut n (a + b) = V1 at *
    generalize cut n (a - b) = V2 at *
    generalize cut n (a * b) = V3 at *
    generalize cut n a = C at *
    generalize sgn n a = G at *
    clear h ha hb b6
    subst hL
    go_enter Try.func3, Try.ntmps3
    go_wp2_with fail
    refine (CU _).mono ?_
    rintro e w1 ⟨rfl, hw1⟩
    subst w1
    go_wp2_with fail
    refine (WI _).mono ?_
    rintro e w2 ⟨rfl, hw2⟩
    subst w2
    go_wp2_with fail
    refine (RW _).mono ?_
    rintro e w3 ⟨rfl, k3⟩
    have K3 := hide ((unhide K0).trans (k3.mono (unhide K0).size))
    clear k3
    go_wp2_with fail
    refine (RW _).mono ?_
    rintro e w4 ⟨rfl, k4⟩
    have K4 := hide ((unhide K3).trans (k4.mono (unhide K3).size))
    clear k4
    go_wp2_with fail
    refine (WH _).mono ?_
    rintro e w5 ⟨rfl, k5, B5⟩
    have K5 := hide ((unhide K4).trans (k5.mono (unhide K4).size))
    have HB5 := hide B5
    clear k5 B5
    go_wp2_with fail
    refine (FI _ _ (unhide HB5)).mono ?_
    rintro e w6 ⟨rfl, k6⟩
    have K6 := hide ((unhide K5).trans (k6.mono (unhide K5).size))
    clear k6
    go_wp2_with fail
    refine (SI _).mono ?_
    rintro e w7 ⟨rfl, hw7⟩
    subst w7
    go_wp2_with fail
    refine (ME _).mono ?_
    rintro e w8 ⟨p8, rfl, -, k8, B8⟩
    have K8 := hide ((unhide K6).trans (k8.mono (unhide K6).size))
    have HB8 := hide B8
    clear k8 B8
    go_wp2_with fail
    refine (IN _ _ (unhide HB8)).mono ?_
    rintro e w9 ⟨hw9, rfl⟩
    subst w9
    go_wp2_with fail
    refine (RW _).mono ?_
    rintro e w10 ⟨rfl, k10⟩
    have K10 := hide ((unhide K8).trans (k10.mono (unhide K8).size))
    clear k10
    go_wp2_with fail
    refine (A1 _).mono ?_
    rintro e w11 ⟨rfl, k11⟩
    have K11 := hide ((unhide K10).trans (k11.mono (unhide K10).size))
    clear k11
    go_wp2_with fail
    refine (D1 _).mono ?_
    rintro e w12 ⟨rfl, k12⟩
    have K12 := hide ((unhide K11).trans (k12.mono (unhide K11).size))
    clear k12
    go_wp2_with fail
    refine (A2 _).mono ?_
    rintro e w13 ⟨rfl, k13⟩
    have K13 := hide ((unhide K12).trans (k13.mono (unhide K12).size))
    clear k13
    go_wp2_with fail
    refine (D2 _).mono ?_
    rintro e w14 ⟨rfl, k14⟩
    have K14 := hide ((unhide K13).trans (k14.mono (unhide K13).size))
    clear k14
    go_wp2_with fail
    refine (A3 _).mono ?_
    rintro e w15 ⟨rfl, k15⟩
    have K15 := hide ((unhide K14).trans (k15.mono (unhide K14).size))
    clear k15
    go_wp2_with fail
    refine (D3 _).mono ?_
    rintro e w16 ⟨rfl, k16⟩
    have K16 := hide ((unhide K15).trans (k16.mono (unhide K15).size))
    clear k16
    go_wp2_with fail
    refine (A4 _).mono ?_
    rintro e w17 ⟨rfl, k17⟩
    have K17 := hide ((unhide K16).trans (k17.mono (unhide K16).size))
    clear k17
    go_wp2_with fail
    refine (D4 _).mono ?_
    rintro e w18 ⟨rfl, k18⟩
    have K18 := hide ((unhide K17).trans (k18.mono (unhide K17).size))
    clear k18
    go_wp2_with fail
    refine (A5 _).mono ?_
    rintro e w19 ⟨rfl, k19⟩
    have K19 := hide ((unhide K18).trans (k19.mono (unhide K18).size))
    clear k19
    go_wp2_with fail
    refine (D5 _).mono ?_
    rintro e w20 ⟨rfl, k20⟩
    have K20 := hide ((unhide K19).trans (k20.mono (unhide K19).size))
    clear k20
    go_wp2_with fail
    refine (A6 _).mono ?_
    rintro e w21 ⟨rfl, hw21⟩
    subst w21
    go_wp2_with fail
    refine (D6 _).mono ?_
    rintro e w22 ⟨rfl, k22⟩
    have K22 := hide ((unhide K20).trans (k22.mono (unhide K20).size))
    clear k22
    go_wp2_with fail
    go_ret
    exact ⟨rfl, unhide K22⟩
  · have CU := fun w => cut_no a n w h
    have WI := fun w => width_no n w h
    have RW := fun w => rwidth_no n w h
    have SI := fun w => signed_no a n w h
    have A1 := fun w => add_no a b n w h
    have A2 := fun w => sub_no a b n w h
    have A3 := fun w => mul_no a b n w h
    have A4 := fun w => div_no a b n s w h
    have A5 := fun w => rem_no a b n s w h
    have A6 := fun w => less_no a b n s w h
    have DN := fun c w => do_no c a b n s w h
    clear h ha hb
    go_enter Try.func3, Try.ntmps3
    go_wp2_with fail
    refine (CU _).mono ?_
    rintro e w1 ⟨rfl, hw1⟩
    subst w1
    go_wp2_with fail
    refine (WI _).mono ?_
    rintro e w2 ⟨rfl, hw2⟩
    subst w2
    go_wp2_with fail
    refine (RW _).mono ?_
    rintro e w3 ⟨rfl, k3⟩
    have K3 := hide ((unhide K0).trans (k3.mono (unhide K0).size))
    clear k3
    go_wp2_with fail
    refine (RW _).mono ?_
    rintro e w4 ⟨rfl, k4⟩
    have K4 := hide ((unhide K3).trans (k4.mono (unhide K3).size))
    clear k4
    go_wp2_with fail
    refine (SI _).mono ?_
    rintro e w5 ⟨rfl, hw5⟩
    subst w5
    go_wp2_with fail
    refine (RW _).mono ?_
    rintro e w6 ⟨rfl, k6⟩
    have K6 := hide ((unhide K4).trans (k6.mono (unhide K4).size))
    clear k6
    go_wp2_with fail
    refine (A1 _).mono ?_
    rintro e w7 ⟨rfl, k7⟩
    have K7 := hide ((unhide K6).trans (k7.mono (unhide K6).size))
    clear k7
    go_wp2_with fail
    refine (DN _ _).mono ?_
    rintro e w8 ⟨rfl, k8⟩
    have K8 := hide ((unhide K7).trans (k8.mono (unhide K7).size))
    clear k8
    go_wp2_with fail
    refine (A2 _).mono ?_
    rintro e w9 ⟨rfl, k9⟩
    have K9 := hide ((unhide K8).trans (k9.mono (unhide K8).size))
    clear k9
    go_wp2_with fail
    refine (DN _ _).mono ?_
    rintro e w10 ⟨rfl, k10⟩
    have K10 := hide ((unhide K9).trans (k10.mono (unhide K9).size))
    clear k10
    go_wp2_with fail
    refine (A3 _).mono ?_
    rintro e w11 ⟨rfl, k11⟩
    have K11 := hide ((unhide K10).trans (k11.mono (unhide K10).size))
    clear k11
    go_wp2_with fail
    refine (DN _ _).mono ?_
    rintro e w12 ⟨rfl, k12⟩
    have K12 := hide ((unhide K11).trans (k12.mono (unhide K11).size))
    clear k12
    go_wp2_with fail
    refine (A4 _).mono ?_
    rintro e w13 ⟨rfl, k13⟩
    have K13 := hide ((unhide K12).trans (k13.mono (unhide K12).size))
    clear k13
    go_wp2_with fail
    refine (DN _ _).mono ?_
    rintro e w14 ⟨rfl, k14⟩
    have K14 := hide ((unhide K13).trans (k14.mono (unhide K13).size))
    clear k14
    go_wp2_with fail
    refine (A5 _).mono ?_
    rintro e w15 ⟨rfl, k15⟩
    have K15 := hide ((unhide K14).trans (k15.mono (unhide K14).size))
    clear k15
    go_wp2_with fail
    refine (DN _ _).mono ?_
    rintro e w16 ⟨rfl, k16⟩
    have K16 := hide ((unhide K15).trans (k16.mono (unhide K15).size))
    clear k16
    go_wp2_with fail
    refine (A6 _).mono ?_
    rintro e w17 ⟨rfl, hw17⟩
    subst w17
    go_wp2_with fail
    refine (DN _ _).mono ?_
    rintro e w18 ⟨rfl, k18⟩
    have K18 := hide ((unhide K16).trans (k18.mono (unhide K16).size))
    clear k18
    go_wp2_with fail
    go_ret
    exact ⟨rfl, unhide K18⟩
end Go.Proofs.Ythoemilflefniaa
