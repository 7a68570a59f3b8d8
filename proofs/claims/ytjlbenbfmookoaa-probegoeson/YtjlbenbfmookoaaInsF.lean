/-
  The fields that a kind has, by instr.fieldsOf.
-/
import Derived.Test.YtjlbenbfmookoaaChecked
import Derived.Test.YtjlbenbfmookoaaInsM
namespace Go.Proofs.Ytjlbenbfmookoaa
open Go.RowKit
set_option linter.unusedSimpArgs false
set_option linter.unusedVariables false

/-- What fieldsOf answers. -/
def fo (o : Int) : Value := .tuple #[.agg #[.bool (hD o), .bool (hS o), .bool (hI o)], .int .i64 (ke o)]

theorem eq_no {o k : Int} (h : o ≠ k) : (o == k) = false := beq_eq_false_iff_ne.2 h

theorem kinds (o : Int) (h : kn o = true) : o = 0 ∨ o = 1 ∨ o = 2 ∨ o = 3 ∨ o = 4 ∨ o = 5 ∨ o = 6 ∨ o = 7 ∨ o = 8 ∨ o = 9 ∨ o = 10 ∨ o = 11 ∨ o = 12 ∨ o = 13 ∨ o = 14 ∨ o = 15 ∨ o = 16 ∨ o = 17 ∨ o = 18 ∨ o = 19 ∨ o = 20 ∨ o = 21 ∨ o = 22 ∨ o = 23 ∨ o = 24 ∨ o = 25 ∨ o = 26 ∨ o = 27 ∨ o = 28 ∨ o = 29 ∨ o = 30 ∨ o = 31 ∨ o = 32 := by
  unfold kn at h; simp only [decide_eq_true_eq] at h; omega

set_option maxHeartbeats 4000000 in
theorem fo_known (o : Int) (w : World) (h : kn o = true) : Calls Try.prog 36 #[.int .i64 o] w fun e w' => e = .returned (fo o) ∧ Below w.heap.size w w' := by
  rcases kinds o h with rfl | rfl | rfl | rfl | rfl | rfl | rfl | rfl | rfl | rfl | rfl | rfl | rfl | rfl | rfl | rfl | rfl | rfl | rfl | rfl | rfl | rfl | rfl | rfl | rfl | rfl | rfl | rfl | rfl | rfl | rfl | rfl | rfl
  all_goals
    clear h
    go_enter Try.func36, Try.ntmps36
    go_wp2
    refine bodyPost_ret (v := fo _) (by simp [results, Try.results36, go_sem, fo]; decide) rfl ⟨rfl, ?_⟩
    exact (Below.refl _ _).alloc (Nat.le_refl _) _

theorem unk (o : Int) (h : kn o = false) : ∀ k : Int, 0 ≤ k ∧ k ≤ 32 → o ≠ k := by
  unfold kn at h; simp only [decide_eq_false_iff_not] at h; omega

set_option maxHeartbeats 4000000 in
theorem fo_unknown (o : Int) (w : World) (h : kn o = false) : Calls Try.prog 36 #[.int .i64 o] w fun e w' => e = .returned (fo o) ∧ Below w.heap.size w w' := by
  have ev : fo o = .tuple #[.agg #[.bool false, .bool false, .bool false], .int .i64 1] := by unfold fo; rw [(kn_no h).1, (kn_no h).2.1, (kn_no h).2.2, ke_no h]
  rw [ev]
  clear ev
  replace h := unk o h
  have e0 := eq_no (h 0 (by omega))
  have e1 := eq_no (h 1 (by omega))
  have e2 := eq_no (h 2 (by omega))
  have e3 := eq_no (h 3 (by omega))
  have e4 := eq_no (h 4 (by omega))
  have e5 := eq_no (h 5 (by omega))
  have e6 := eq_no (h 6 (by omega))
  have e7 := eq_no (h 7 (by omega))
  have e8 := eq_no (h 8 (by omega))
  have e9 := eq_no (h 9 (by omega))
  have e10 := eq_no (h 10 (by omega))
  have e11 := eq_no (h 11 (by omega))
  have e12 := eq_no (h 12 (by omega))
  have e13 := eq_no (h 13 (by omega))
  have e14 := eq_no (h 14 (by omega))
  have e15 := eq_no (h 15 (by omega))
  have e16 := eq_no (h 16 (by omega))
  have e17 := eq_no (h 17 (by omega))
  have e18 := eq_no (h 18 (by omega))
  have e19 := eq_no (h 19 (by omega))
  have e20 := eq_no (h 20 (by omega))
  have e21 := eq_no (h 21 (by omega))
  have e22 := eq_no (h 22 (by omega))
  have e23 := eq_no (h 23 (by omega))
  have e24 := eq_no (h 24 (by omega))
  have e25 := eq_no (h 25 (by omega))
  have e26 := eq_no (h 26 (by omega))
  have e27 := eq_no (h 27 (by omega))
  have e28 := eq_no (h 28 (by omega))
  have e29 := eq_no (h 29 (by omega))
  have e30 := eq_no (h 30 (by omega))
  have e31 := eq_no (h 31 (by omega))
  have e32 := eq_no (h 32 (by omega))
  clear h
  go_enter Try.func36, Try.ntmps36
  go_wp2
  refine bodyPost_ret (v := .tuple #[.agg #[.bool false, .bool false, .bool false], .int .i64 1]) (by simp [results, Try.results36, go_sem]) rfl ⟨rfl, ?_⟩
  exact (Below.refl _ _).alloc (Nat.le_refl _) _

theorem fo_any (o : Int) (w : World) : Calls Try.prog 36 #[.int .i64 o] w fun e w' => e = .returned (fo o) ∧ Below w.heap.size w w' := by
  by_cases h : kn o = true
  · exact fo_known o w h
  · exact fo_unknown o w (by simpa using h)
end Go.Proofs.Ytjlbenbfmookoaa
