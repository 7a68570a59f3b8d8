/-
  The mathematics of AsmRemarks: a first line that holds a remark alone makes nothing.
-/
import Derived.Test.YtoopgkbefhoeiaaGreatDoorRdA
namespace Go.Proofs.YtoopgkbefhoeiaaGreatDoor

/-- A text's bytes without line ends. -/
def noNl (s : List UInt8) : List UInt8 := s.filter (· != 10)
theorem rdT_fuel : ∀ (g g' : Nat) (t : List UInt8) (n n' : Nat) (acc : List Ln), t.length ≤ g → t.length ≤ g' → (rdT g t n acc).2.1 = 0 → rdT g' t n' acc = ((rdT g t n acc).1, 0, 0)
  | 0, g', t, n, n', acc, h, h', _ => by
    have : t = [] := List.eq_nil_of_length_eq_zero (by omega)
    subst this
    rw [rdT_nil, rdT_nil]
  | g + 1, g', t, n, n', acc, h, h', hz => by
    by_cases ht : t = []
    · subst ht; rw [rdT_nil, rdT_nil]
    · have hp := List.length_pos_iff.2 ht
      have hc := cut_less (c := 10) ht
      obtain ⟨k, rfl⟩ : ∃ k, g' = k + 1 := ⟨g' - 1, by omega⟩
      by_cases h1 : rmkA (Lib.cut t [10]).1 = []
      · rw [rdT_skip ht h1] at hz ⊢
        rw [rdT_skip ht h1]
        exact rdT_fuel g k _ _ _ _ (by omega) (by omega) hz
      · by_cases h2 : (linA (rmkA (Lib.cut t [10]).1)).2 = 0
        · rw [rdT_line ht h1 h2] at hz ⊢
          rw [rdT_line ht h1 h2]
          exact rdT_fuel g k _ _ _ _ (by omega) (by omega) hz
        · rw [rdT_bad ht h1 h2] at hz
          exact absurd hz h2
theorem index_at (c : UInt8) (b : List UInt8) : ∀ a : List UInt8, (∀ x ∈ a, x ≠ c) → Lib.index (a ++ c :: b) [c] = (a.length : Int)
  | [], _ => by simp [Lib.index]
  | x :: a, h => by
    have ih := index_at c b a (fun y hy => h y (by simp [hy]))
    have hx : c ≠ x := (h x (by simp)).symm
    rw [List.cons_append, Lib.index, ih]
    have : ((a.length : Int) == -1) = false := by simp
    simp [this, hx]
theorem cut_at (c : UInt8) (a b : List UInt8) (h : ∀ x ∈ a, x ≠ c) : Lib.cut (a ++ c :: b) [c] = (a, b, true) := by
  unfold Lib.cut
  rw [index_at c b a h, if_pos (by omega)]
  simp
theorem noNl_no (r : List UInt8) : ∀ x ∈ noNl r, x ≠ 10 := fun x hx => by simpa using (List.mem_filter.1 hx).2
theorem remarked {t r : List UInt8} (h : (readA t).2.1 = 0) : readA ([32, 32, 59] ++ noNl r ++ [10] ++ t) = ((readA t).1, 0, 0) ∨ (readA ([32, 32, 59] ++ noNl r ++ [10] ++ t)) = ([], 4, 0) ∨ (readA ([32, 32, 59] ++ noNl r ++ [10] ++ t)) = ([], 5, 0) := by
  unfold readA at h ⊢
  by_cases h1 : 1048576 < t.length
  · rw [if_pos h1] at h; cases h
  · rw [if_neg h1] at h ⊢
    by_cases h2 : 40000 < lcA t
    · rw [if_pos h2] at h; cases h
    · rw [if_neg h2] at h ⊢
      by_cases h3 : 1048576 < ([32, 32, 59] ++ noNl r ++ [10] ++ t).length
      · rw [if_pos h3]; exact .inr (.inl rfl)
      · rw [if_neg h3]
        by_cases h4 : 40000 < lcA ([32, 32, 59] ++ noNl r ++ [10] ++ t)
        · rw [if_pos h4]; exact .inr (.inr rfl)
        · rw [if_neg h4]
          left
          have e : [32, 32, 59] ++ noNl r ++ [10] ++ t = ([32, 32, 59] ++ noNl r) ++ 10 :: t := by simp
          have c1 := cut_at 10 ([32, 32, 59] ++ noNl r) t (fun x hx => by
            rcases List.mem_append.1 hx with h | h
            · simp at h; rcases h with rfl | rfl <;> decide
            · exact noNl_no r x h)
          have c2 : Lib.cut ([32, 32, 59] ++ noNl r) [59] = ([32, 32], noNl r, true) := cut_at 59 [32, 32] (noNl r) (by decide)
          have c3 : rmkA ([32, 32, 59] ++ noNl r) = [] := by unfold rmkA; rw [c2]; show trimA [32, 32] = []; decide
          rw [e]
          obtain ⟨g, hg⟩ : ∃ g, (([32, 32, 59] ++ noNl r) ++ 10 :: t).length = g + 1 := ⟨(([32, 32, 59] ++ noNl r) ++ t).length, by simp; omega⟩
          have hg2 : t.length ≤ g := by simp at hg; omega
          rw [hg, rdT_skip (by simp) (by rw [c1]; exact c3), c1]
          exact rdT_fuel t.length g t 0 _ [] (Nat.le_refl _) hg2 h
end Go.Proofs.YtoopgkbefhoeiaaGreatDoor
