/-
  The document's answer, chapter 1: Width, Two and Fit.
-/
import Derived.Test.YtmjnihepgglbdaaBigF
import Derived.Test.YtmjnihepgglbdaaBigB
namespace Go.Proofs.Ytmjnihepgglbdaa
open Go.RowKit
set_option linter.unusedSimpArgs false
set_option linter.unusedVariables false

theorem p64 {k : Nat} (h : k ≤ 64) : (0 : Int) < 2 ^ k ∧ (2 : Int) ^ k ≤ 18446744073709551616 := by
  refine ⟨Int.pow_pos (by decide), ?_⟩
  have e : (2 : Int) ^ 64 = 2 ^ k * 2 ^ (64 - k) := by rw [← Int.pow_add]; congr 1; omega
  have h1 : (0 : Int) < 2 ^ k := Int.pow_pos (by decide)
  have h2 : (1 : Int) ≤ 2 ^ (64 - k) := Int.pow_pos (by decide)
  have h3 := Int.mul_le_mul_of_nonneg_left h2 (Int.le_of_lt h1)
  have h4 : (2 : Int) ^ 64 = 18446744073709551616 := by decide
  omega
theorem big6 : (18446744073709551616 : Int) < 4294967296 ^ 6 ∧ (18446744073709551616 : Int) < 4294967296 ^ 8 := by decide
theorem one_pow {k : Nat} (h : (2 : Int) ^ k ≤ 18446744073709551616) : (((1 : Int).natAbs : Nat) : Int) * 2 ^ k < 4294967296 ^ 8 := by
  have e : (((1 : Int).natAbs : Nat) : Int) * 2 ^ k = 2 ^ k := Int.one_mul _
  rw [e]
  exact Int.lt_of_le_of_lt h big6.2
theorem pow_abs {k : Nat} (h : (2 : Int) ^ k ≤ 18446744073709551616) (h0 : (0 : Int) < 2 ^ k) : ((2 : Int) ^ k).natAbs < 4294967296 ^ 6 ∧ ((((2 : Int) ^ k).natAbs : Nat) : Int) = 2 ^ k := by
  have e : ((((2 : Int) ^ k).natAbs : Nat) : Int) = 2 ^ k := Int.natAbs_of_nonneg (Int.le_of_lt h0)
  refine ⟨?_, e⟩
  omega
theorem two_any (k : Nat) (w : World) (hk : k ≤ 64) :
    Calls Try.prog 25 #[.int .i64 (k : Int)] w fun e w' => e = .returned (.pointer (some ⟨w.heap.size, 0, none⟩)) ∧ Below w.heap.size w w' ∧ Big w' w.heap.size (2 ^ k) := by
  have HN := hide (Big.new w)
  have KN := hide (below_a w (.cells #[.bool false, .slice none 0 0] 42))
  obtain ⟨p1, p2⟩ := p64 hk
  have hs : (w.alloc (.cells #[.bool false, .slice none 0 0] 42)).heap.size = w.heap.size + 1 := by simp
  have Z1 := hide (one_pow p2)
  go_enter Try.func25, Try.ntmps25
  go_wp2_with fail
  generalize w.alloc (.cells #[.bool false, .slice none 0 0] 42) = W at *
  refine (newI_any 1 W ⟨by decide, by decide⟩).mono ?_
  rintro e w1 ⟨rfl, k1, b1⟩
  have K1 := hide k1
  rw [hs] at b1
  have B1 := hide b1
  clear k1 b1
  go_wp2_with fail
  refine (lsh_any w.heap.size (w.heap.size + 1) k 1 w1 ((unhide HN).int.step (unhide K1)) (unhide B1) (by omega) (by omega) (unhide Z1)).mono ?_
  rintro e w2 ⟨rfl, k2, b2⟩
  rw [Int.one_mul] at b2
  have K2 := hide k2
  have B2 := hide b2
  clear k2 b2
  go_wp2_with fail
  go_ret
  exact ⟨rfl, (unhide KN).trans (((unhide K1).mono (by omega)).trans ((unhide K2).below (Nat.le_refl _) (by have := (unhide K1).size; omega))), unhide B2⟩
end Go.Proofs.Ytmjnihepgglbdaa
