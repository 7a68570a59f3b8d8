/-
  Fit, Two at the widths; Meant.
-/
import Derived.Test.YtmjnihepgglbdaaPlain
import Derived.Test.YtmjnihepgglbdaaBigG
import Derived.Test.YtmjnihepgglbdaaBigD
import Derived.Test.YtmjnihepgglbdaaBigM1
import Derived.Test.YtmjnihepgglbdaaBigM2
namespace Go.Proofs.Ytmjnihepgglbdaa
open Go.RowKit
set_option linter.unusedSimpArgs false
set_option linter.unusedVariables false

theorem divOk_w {n x : Int} (h : IsW n) (h0 : 0 ≤ x) (h1 : x < 4294967296 ^ 6) : DivOk x (md n) := by
  have b6 : (4294967296 : Int) ^ 6 < 4294967296 ^ 8 := by decide
  have b8 : (18446744073709551616 : Int) < 4294967296 ^ 8 := by decide
  rcases h with rfl | rfl | rfl | rfl
  · rw [md_8]; exact divOk_short (by omega) (by omega) (by decide) (.inr (.inr (by decide)))
  · rw [md_16]; exact divOk_short (by omega) (by omega) (by decide) (.inr (.inr (by decide)))
  · rw [md_32]
    by_cases hl : x < 18446744073709551616
    · exact divOk_short (by omega) (by omega) (by decide) (.inr (.inl hl))
    · have e : (4294967296 : Int) = 4294967296 ^ 1 := by decide
      intro w v1 v2 d1 d2
      have := div_long1 v1 v2 x w d1 (by rw [← e]; exact d2) h1 (by omega)
      rw [← e] at this
      exact this
  · rw [md_64]
    by_cases hl : x < 18446744073709551616
    · exact divOk_short (by omega) (by omega) (by decide) (.inr (.inl hl))
    · have e : (18446744073709551616 : Int) = 4294967296 ^ 2 := by decide
      intro w v1 v2 d1 d2
      have := div_long2 v1 v2 x w d1 (by rw [← e]; exact d2) h1 (by omega)
      rw [← e] at this
      exact this
theorem w_nat {n : Int} (h : IsW n) : ∃ k : Nat, n = (k : Int) ∧ 8 ≤ k ∧ k ≤ 64 := by
  rcases h with rfl | rfl | rfl | rfl
  · exact ⟨8, rfl, by decide, by decide⟩
  · exact ⟨16, rfl, by decide, by decide⟩
  · exact ⟨32, rfl, by decide, by decide⟩
  · exact ⟨64, rfl, by decide, by decide⟩
theorem twoI (z : Int) (w : World) (h0 : 0 ≤ z) (h1 : z ≤ 64) :
    Calls Try.prog 25 #[.int .i64 z] w fun e w' => e = .returned (.pointer (some ⟨w.heap.size, 0, none⟩)) ∧ Below w.heap.size w w' ∧ Big w' w.heap.size (2 ^ z.toNat) := by
  obtain ⟨k, rfl⟩ : ∃ k : Nat, z = k := ⟨z.toNat, by omega⟩
  exact two_any k w (by omega)
theorem half_w {n : Int} (h : IsW n) : 2 * 2 ^ (n - 1).toNat = md n ∧ (0 : Int) < 2 ^ (n - 1).toNat ∧ 0 ≤ n - 1 ∧ n ≤ 64 ∧ 0 ≤ n := by
  rcases h with rfl | rfl | rfl | rfl <;> refine ⟨by decide, by decide, by decide, by decide, by decide⟩
theorem mn_abs {n : Int} (h : IsW n) (s : Bool) (x : Int) : (mn s n x).natAbs ≤ 18446744073709551615 := by
  have a := cut_lo h x
  have b := cut_hi h x
  have c := cut_lt h x
  have d := md_le h
  unfold mn sgn
  split
  · split <;> omega
  · omega

end Go.Proofs.Ytmjnihepgglbdaa
