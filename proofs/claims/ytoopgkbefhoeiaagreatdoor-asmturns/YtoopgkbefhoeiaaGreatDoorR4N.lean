/-
  Numbers in digits: what asm.number answers, by its digits; and the document's Number.
-/
import Derived.Test.YtoopgkbefhoeiaaGreatDoorR4M
namespace Go.Proofs.YtoopgkbefhoeiaaGreatDoor
open Go.RowKit
set_option linter.unusedSimpArgs false
set_option linter.unusedVariables false

theorem dec_from : ∀ (l : List UInt8) (n : Nat), dgs l = true → Lib.decFrom n l = some (vlN n l)
  | [], _, _ => rfl
  | c :: l, n, h => by
    unfold dgs at h
    rw [List.all_cons, Bool.and_eq_true] at h
    obtain ⟨h1, h2⟩ := h
    have h3 : 48 ≤ c.toNat ∧ c.toNat ≤ 57 := by simpa using h1
    have ih := dec_from l (10 * n + (c.toNat - 48)) h2
    unfold Lib.decFrom Lib.digitVal
    rw [if_pos h3]
    show Lib.decFrom (n * 10 + (c.toNat - 48)) l = some (vlN (10 * n + (c.toNat - 48)) l)
    rw [Nat.mul_comm]
    exact ih
theorem atoi_can {s : List UInt8} (h : can s = true) (hl : s.length ≤ 5) : Lib.atoiAll s = .ok (vlN 0 s : Int) := by
  rw [Lib.atoiAll_short s (by omega)]
  unfold can at h
  simp only [Bool.and_eq_true] at h
  obtain ⟨⟨h1, h2⟩, -⟩ := h
  cases s with
  | nil => simp at h1
  | cons b r =>
    have h3 : 48 ≤ b.toNat ∧ b.toNat ≤ 57 := by
      unfold dgs at h2
      rw [List.all_cons, Bool.and_eq_true] at h2
      simpa using h2.1
    have e1 : (b == 45) = false := by rw [beq_eq_false_iff_ne]; intro e; rw [e] at h3; exact absurd h3.1 (by decide)
    have e2 : (b == 43) = false := by rw [beq_eq_false_iff_ne]; intro e; rw [e] at h3; exact absurd h3.1 (by decide)
    simp only [Lib.atoi, e1, e2, Bool.false_eq_true, if_false]
    unfold Lib.decNat
    rw [if_neg (by simp), dec_from (b :: r) 0 h2]
    rfl
theorem nDig5 {u : Nat} (h : u < 100000) : Lib.nDigits u ≤ 5 := by
  have st : ∀ n k, Lib.nDigits (n / 10) ≤ k → 1 ≤ k → Lib.nDigits n ≤ k + 1 := by
    intro n k h1 h2
    rw [Lib.nDigits]
    split <;> omega
  have z : ∀ n, n < 10 → Lib.nDigits n ≤ 1 := fun n hn => by rw [Lib.nDigits_small hn]; omega
  exact st _ 4 (st _ 3 (st _ 2 (st _ 1 (z _ (by omega)) (by omega)) (by omega)) (by omega)) (by omega)
theorem numA_eq (s : List UInt8) (most : Int) (hm : most ≤ 65535) : numA s most = if can s = true ∧ s.length ≤ 5 ∧ (vlN 0 s : Int) ≤ most then some (vlN 0 s : Int) else none := by
  by_cases h : can s = true ∧ s.length ≤ 5 ∧ (vlN 0 s : Int) ≤ most
  · rw [if_pos h]
    obtain ⟨h1, h2, h3⟩ := h
    unfold numA
    rw [atoi_can h1 h2]
    simp only
    rw [if_neg]
    rintro (h | h | h)
    · omega
    · omega
    · exact h (by rw [Lib.itoa_nonneg, dec_can _ s rfl h1])
  · rw [if_neg h]
    unfold numA
    cases ha : Lib.atoiAll s with
    | ok v =>
      simp only
      by_cases hc : v < 0 ∨ most < v ∨ Lib.itoa v ≠ s
      · rw [if_pos hc]
      · exfalso
        apply h
        have h0 : ¬ v < 0 := fun e => hc (.inl e)
        have h1 : ¬ most < v := fun e => hc (.inr (.inl e))
        have h2 : Lib.itoa v = s := Classical.not_not.1 (fun e => hc (.inr (.inr e)))
        obtain ⟨n, rfl⟩ : ∃ n : Nat, v = n := ⟨v.toNat, by omega⟩
        rw [Lib.itoa_nonneg] at h2
        obtain ⟨c1, c2⟩ := can_dec n
        rw [h2] at c1 c2
        refine ⟨c1, ?_, by rw [c2]; omega⟩
        rw [← h2, Lib.decDigits_length]
        exact nDig5 (by omega)
    | «syntax» => rfl
    | range => rfl
end Go.Proofs.YtoopgkbefhoeiaaGreatDoor
