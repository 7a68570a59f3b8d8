/-
  Plain facts on shifts of numbers cut to a width: no program in sight.
-/
import Derived.Test.YthoemilflefniaaPlain
namespace Go.Proofs.Ythoemilflefniaa
open Go.RowKit
set_option linter.unusedSimpArgs false
set_option linter.unusedVariables false

theorem md_nat {n : Int} (h : IsW n) : ∃ k : Nat, n = k ∧ k ≤ 64 ∧ md n = 2 ^ k := by
  rcases h with rfl | rfl | rfl | rfl
  · exact ⟨8, rfl, by decide, rfl⟩
  · exact ⟨16, rfl, by decide, rfl⟩
  · exact ⟨32, rfl, by decide, rfl⟩
  · exact ⟨64, rfl, by decide, rfl⟩
theorem cut_zero_of {n : Int} (h : IsW n) (a : Int) (k : Nat) (hk : n ≤ k) : cut n (a * 2 ^ k) = 0 := by
  obtain ⟨j, rfl, _, hm⟩ := md_nat h
  unfold cut; rw [hm]
  have : (2 : Int) ^ k = 2 ^ j * 2 ^ (k - j) := by rw [← Int.pow_add]; congr 1; omega
  rw [this, Int.mul_comm a, Int.mul_assoc]
  exact Int.mul_emod_right ..
theorem isW_le {n : Int} (h : IsW n) : 8 ≤ n ∧ n ≤ 64 := by rcases h with rfl | rfl | rfl | rfl <;> omega
theorem shl_min {n : Int} (h : IsW n) (a : Int) (k : Nat) : cut n (a * 2 ^ min k 64) = cut n (a * 2 ^ k) := by
  by_cases hk : k ≤ 64
  · rw [Nat.min_eq_left hk]
  · have := isW_le h
    rw [cut_zero_of h a (min k 64) (by omega), cut_zero_of h a k (by omega)]
theorem pow_le_pow {a b : Nat} (h : a ≤ b) : (2 : Int) ^ a ≤ 2 ^ b := by
  have : (2 : Nat) ^ a ≤ 2 ^ b := Nat.pow_le_pow_right (by decide) h
  exact_mod_cast this
theorem cut_div_zero {n : Int} (h : IsW n) (a : Int) (k : Nat) (hk : n ≤ k) : cut n a / 2 ^ k = 0 := by
  obtain ⟨j, rfl, _, hm⟩ := md_nat h
  have h1 := cut_lt h a
  rw [hm] at h1
  have h2 := pow_le_pow (a := j) (b := k) (by omega)
  exact Int.ediv_eq_zero_of_lt (cut_lo h a) (by omega)
theorem shr_min {n : Int} (h : IsW n) (a : Int) (k : Nat) : cut n a / 2 ^ min k 64 = cut n a / 2 ^ k := by
  by_cases hk : k ≤ 64
  · rw [Nat.min_eq_left hk]
  · have := isW_le h
    rw [cut_div_zero h a (min k 64) (by omega), cut_div_zero h a k (by omega)]
theorem up_down {n : Int} (h : IsW n) (a : Int) (k : Nat) : 0 ≤ cut n a / 2 ^ k * 2 ^ k ∧ cut n a / 2 ^ k * 2 ^ k < md n := by
  have hp : (0 : Int) < 2 ^ k := Int.pow_pos (by decide)
  have h0 := div_pow_le (cut n a) k (cut_lo h a)
  have h1 := Int.ediv_mul_le (cut n a) (Int.ne_of_gt hp)
  have h2 := cut_lt h a
  exact ⟨Int.mul_nonneg h0.1 (Int.le_of_lt hp), by omega⟩
theorem up_eq {n : Int} (h : IsW n) (a : Int) (k : Nat) : cut n (cut n a / 2 ^ k * 2 ^ k) = IntKind.u64.wrap (cut n a / 2 ^ k * 2 ^ k) := by
  have h1 := up_down h a k
  have h2 := md_le h
  rw [u64_wrap, cut_of h1.1 h1.2, Int.emod_eq_of_lt h1.1 (by omega)]
theorem up_zero {n : Int} (h : IsW n) (a : Int) (k : Nat) (hk : n ≤ k) : cut n (cut n a / 2 ^ k * 2 ^ k) = 0 := by
  rw [cut_div_zero h a k hk]; simp [cut]
theorem shl_shl (n a : Int) (i j : Nat) : cut n (cut n (a * 2 ^ i) * 2 ^ j) = cut n (a * 2 ^ (i + j)) := by
  rw [cut_mul_left, Int.mul_assoc, ← Int.pow_add]
theorem shl_succ (n a : Int) (i : Nat) : cut n (cut n (a * 2 ^ i) + cut n (a * 2 ^ i)) = cut n (a * 2 ^ (i + 1)) := by
  rw [cut_add, Int.pow_succ, ← Int.mul_assoc]; congr 1; omega
end Go.Proofs.Ythoemilflefniaa
