/-
  WordSplits, walked.
-/
import Derived.Test.YthoemilflefniaaBigH
import Derived.Test.YthoemilflefniaaBigJ
import Derived.Test.YthoemilflefniaaSplit
import Derived.Test.YthoemilflefniaaOpenI
namespace Go.Proofs.Ythoemilflefniaa
open Go.RowKit
set_option linter.unusedSimpArgs false
set_option linter.unusedVariables false

set_option maxHeartbeats 1000000 in
theorem rsame_yes (xs : List Int) (va vb : Value) (w : World) (ha : Ints w va xs) (hb : Ints w vb xs) :
    Calls Try.prog 29 #[va, vb] w fun e w' => e = .returned (.bool true) ∧ Below w.heap.size w w' := by
  obtain ⟨ao, ca, rfl, hmax, hat⟩ := ha.at
  obtain ⟨bo, cb, rfl, _, hbt⟩ := hb.at
  clear ha hb
  have HA := hide hat
  have HB := hide hbt
  clear hat hbt
  unfold maxLen at hmax
  have hne : ((xs.length : Int) != (xs.length : Int)) = false := by simp
  go_enter Try.func29, Try.ntmps29
  go_wp2_with fail
  go_loopg [13] xs.length (fun g t wr => ∃ (i q : Nat), i ≤ xs.length ∧ g = xs.length - i ∧ t = .int .i64 i ∧ wr = w.drewN q)
  case atStart => exact ⟨0, 0, Nat.zero_le _, rfl, rfl, rfl⟩
  case round =>
    obtain ⟨i, q, hi, rfl, rfl, rfl⟩ := hrel
    by_cases hlt : i < xs.length
    · have hn : xs ≠ [] := by intro h; rw [h] at hlt; simp at hlt
      obtain ⟨b1, o1, rfl, h1, c1⟩ := (unhide HA) hn
      obtain ⟨b2, o2, rfl, h2, c2⟩ := (unhide HB) hn
      have x1 := c1 i hlt
      have x2 := c2 i hlt
      clear c1 c2
      have hee : (xs[i] != xs[i]) = false := by simp
      generalize xs[i] = y at *
      go_wp2_with fail
      go_quiet (fail)
      go_wp2_with fail
      go_roundg (xs.length - (i + 1))
      case measure => omega
      case rel => exact ⟨i + 1, _, by omega, rfl, by go_num, rfl⟩
    · go_wp2
      go_ret
      exact ⟨rfl, below_drewN (Below.refl _ _) _⟩
theorem rsplit_no (x W : Int) (w : World) (h : NoW W) :
    Calls Try.prog 28 #[.int .u64 x, .int .i64 W] w fun e w' => Below w.heap.size w w' ∧ e = .returned (.tuple #[.slice none 0 0, .int .i64 1]) := by
  have RW := hide (fun v => rwidth_no W v h)
  clear h
  go_enter Try.func28, Try.ntmps28
  go_wp2_with fail
  refine (unhide RW _).mono ?_
  rintro e w1 ⟨rfl, k1⟩
  have K1 := hide k1
  clear k1
  go_wp2_with fail
  go_ret2
  exact ⟨unhide K1, rfl⟩
theorem ints_new (w : World) (xs : List Int) (h0 : 1 ≤ xs.length) (h1 : xs.length ≤ 4) : Ints (w.alloc (.cells (xs.map int1).toArray 3)) (.slice (some ⟨w.heap.size, 0, none⟩) xs.length xs.length) xs := by
  refine ⟨by simp, _, _, rfl, Nat.le_refl _, by unfold maxLen; omega, (fun h => by cases h), fun _ => ⟨w.heap.size, 0, rfl, by simp, fun j hj => ?_⟩⟩
  rw [Nat.zero_add]
  simp [go_sem]
/-- What word.Split answers at a width. -/
theorem split_w (x W : Int) (w : World) (h : IsW W) (hx : U x) : Calls Try.prog 27 #[.int .u64 x, .int .i64 W] w fun e w' => Below w.heap.size w w' ∧ ∃ v, e = .returned (.tuple #[v, .int .i64 0]) ∧ Ints w' v (wl (cut W x) (kw W)) := by
  rcases h with rfl | rfl | rfl | rfl
  · refine (split_8 x w hx).mono ?_
    rintro e w' ⟨rfl, rfl⟩
    exact ⟨below_a _ _, _, rfl, ints_new w [cut 8 x % 65536] (by simp) (by simp)⟩
  · refine (split_16 x w hx).mono ?_
    rintro e w' ⟨rfl, rfl⟩
    exact ⟨below_a _ _, _, rfl, ints_new w [cut 16 x % 65536] (by simp) (by simp)⟩
  · refine (split_32 x w hx).mono ?_
    rintro e w' ⟨rfl, rfl⟩
    exact ⟨below_a _ _, _, rfl, ints_new w [cut 32 x % 65536, cut 32 x / 65536 % 65536] (by simp) (by simp)⟩
  · refine (split_64 x w hx).mono ?_
    rintro e w' ⟨rfl, rfl⟩
    exact ⟨below_a _ _, _, rfl, ints_new w [cut 64 x % 65536, cut 64 x / 65536 % 65536, cut 64 x / 65536 / 65536 % 65536, cut 64 x / 65536 / 65536 / 65536 % 65536] (by simp) (by simp)⟩
theorem u_ofW {x : Int} (h : (Lit.int .u64 x).wf = true) : U x := by
  have h1 : IntKind.u64.min = 0 := rfl
  have h2 : IntKind.u64.max = 18446744073709551615 := rfl
  simp only [Lit.wf, Bool.and_eq_true, decide_eq_true_eq] at h
  unfold U; omega
set_option maxRecDepth 100000 in
set_option maxHeartbeats 2000000 in
theorem walk_wordSplits (a W : Int) (L : List Int) (v : Value) (w : World) (ha : (Lit.int .u64 a).wf = true) (_ : (Lit.int .i64 W).wf = true) (hl : Ints w v L) (_ : ∀ x ∈ L, I64o x) :
    Calls Try.prog 5 #[.int .u64 a, .int .i64 W, v] w fun e w' => e = .returned (.bool true) ∧ Below w.heap.size w w' := by
  have hu := u_ofW ha
  have HI := hide hl
  clear ha hl
  rcases isW_or W with h | h
  · have SW := hide (fun w => split_w a W w h hu)
    have RS := hide (fun w => rsplit_any a W w h hu)
    clear h
    go_enter Try.func5, Try.ntmps5
    go_wp2_with fail
    refine (unhide SW _).mono ?_
    rintro e w1 ⟨k1, v1, rfl, i1⟩
    have K1 := hide k1
    have I1 := hide i1
    clear k1 i1
    go_wp2_with fail
    refine (unhide RS _).mono ?_
    rintro e w2 ⟨k2, v2, rfl, i2⟩
    have K2 := hide ((unhide K1).trans (k2.mono (unhide K1).size))
    have I2 := hide i2
    have I12 := hide (Ints.step (unhide I1) k2)
    clear k2 i2
    go_wp2_with fail
    refine (rsame_yes _ v1 v2 w2 (unhide I12) (unhide I2)).mono ?_
    rintro e w4 ⟨rfl, k4⟩
    have K4 := hide ((unhide K2).trans (k4.mono (unhide K2).size))
    have HL := hide (Ints.step (unhide HI) (unhide K4))
    have RJ := hide (rjoin_any L v w4 (unhide HL))
    clear k4
    go_wp2_with fail
    refine (join_any L v w4 (unhide HL)).mono ?_
    rintro e w5 ⟨rfl, rfl⟩
    unfold retJ
    generalize joinA L = J at *
    obtain ⟨J1, J2⟩ := J
    go_wp2_with fail
    refine (unhide RJ).mono ?_
    rintro e w6 ⟨rfl, k6⟩
    have K6 := hide k6
    clear k6
    unfold retJ
    have e1 : (J1 == J1) = true := by simp
    have e2 : (J2 == J2) = true := by simp
    go_wp2_with fail
    go_ret
    exact ⟨rfl, (unhide K4).trans ((unhide K6).mono (unhide K4).size)⟩
  · have SW := hide (fun w => split_no a W w h)
    have RS := hide (fun w => rsplit_no a W w h)
    clear h
    go_enter Try.func5, Try.ntmps5
    go_wp2_with fail
    refine (unhide SW _).mono ?_
    rintro e w1 ⟨rfl, rfl⟩
    go_wp2_with fail
    refine (unhide RS _).mono ?_
    rintro e w2 ⟨k2, rfl⟩
    have K2 := hide k2
    clear k2
    go_wp2_with fail
    refine (rsame_yes [] _ _ w2 (Lies.nil _ _) (Lies.nil _ _)).mono ?_
    rintro e w4 ⟨rfl, k4⟩
    have K4 := hide ((unhide K2).trans (k4.mono (unhide K2).size))
    have HL := hide (Ints.step (unhide HI) (unhide K4))
    have RJ := hide (rjoin_any L v w4 (unhide HL))
    clear k4
    go_wp2_with fail
    refine (join_any L v w4 (unhide HL)).mono ?_
    rintro e w5 ⟨rfl, rfl⟩
    unfold retJ
    generalize joinA L = J at *
    obtain ⟨J1, J2⟩ := J
    go_wp2_with fail
    refine (unhide RJ).mono ?_
    rintro e w6 ⟨rfl, k6⟩
    have K6 := hide k6
    clear k6
    unfold retJ
    have e1 : (J1 == J1) = true := by simp
    have e2 : (J2 == J2) = true := by simp
    go_wp2_with fail
    go_ret
    exact ⟨rfl, (unhide K4).trans ((unhide K6).mono (unhide K4).size)⟩
end Go.Proofs.Ythoemilflefniaa
