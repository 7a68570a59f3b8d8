/-
  Numbers in digits: plain lists, no program in sight.
-/
import Derived.Test.YtoopgkbefhoeiaaGreatDoorR4D
import Derived.Lib.AtoiTie
namespace Go.Proofs.YtoopgkbefhoeiaaGreatDoor
open Go.RowKit
set_option linter.unusedSimpArgs false
set_option linter.unusedVariables false

/-- All signs are digits. -/
def dgs (l : List UInt8) : Bool := l.all fun c => decide (48 ≤ c.toNat) && decide (c.toNat ≤ 57)
/-- What digits tell, behind a number. -/
def vlN (n : Nat) : List UInt8 → Nat
  | [] => n
  | c :: l => vlN (10 * n + (c.toNat - 48)) l
theorem vlN_snoc : ∀ (l : List UInt8) (n : Nat) (c : UInt8), vlN n (l ++ [c]) = 10 * vlN n l + (c.toNat - 48)
  | [], _, _ => rfl
  | _ :: l, n, c => vlN_snoc l _ c
theorem dgs_snoc (l : List UInt8) (c : UInt8) : dgs (l ++ [c]) = (dgs l && (decide (48 ≤ c.toNat) && decide (c.toNat ≤ 57))) := by unfold dgs; simp
/-- Digits as they are written. -/
def can (l : List UInt8) : Bool := !l.isEmpty && dgs l && (decide (l.length ≤ 1) || !(l.getD 0 0 == 48))
theorem vlN_ge : ∀ (l : List UInt8) (n : Nat), n ≤ vlN n l
  | [], _ => Nat.le_refl _
  | c :: l, n => Nat.le_trans (by omega) (vlN_ge l (10 * n + (c.toNat - 48)))
theorem dec_can : ∀ (k : Nat) (l : List UInt8), l.length = k → can l = true → Lib.decDigits (vlN 0 l) = l := by
  intro k
  induction k with
  | zero => intro l hl h; obtain rfl : l = [] := List.eq_nil_of_length_eq_zero hl; simp [can] at h
  | succ k ih =>
    intro l hl h
    rcases List.eq_nil_or_concat l with rfl | ⟨u, c, rfl⟩
    · simp at hl
    · rw [List.concat_eq_append] at *
      unfold can at h
      rw [dgs_snoc] at h
      simp only [Bool.and_eq_true, decide_eq_true_eq] at h
      obtain ⟨⟨-, hu, h48, h57⟩, hz⟩ := h
      rw [vlN_snoc]
      have hc : UInt8.ofNat (48 + (c.toNat - 48)) = c := by rw [show 48 + (c.toNat - 48) = c.toNat by omega]; simp
      by_cases hn : u = []
      · subst hn
        show Lib.decDigits (10 * 0 + (c.toNat - 48)) = [c]
        rw [Lib.decDigits, dif_pos (by omega), show 48 + (10 * 0 + (c.toNat - 48)) = 48 + (c.toNat - 48) by omega, hc]
      · have hlu : u.length = k := by simpa using hl
        obtain ⟨a, v, rfl⟩ : ∃ a v, u = a :: v := by cases u with | nil => exact absurd rfl hn | cons a v => exact ⟨a, v, rfl⟩
        have ha : ¬ a = 48 := by
          simp at hz
          exact hz
        have hcan : can (a :: v) = true := by unfold can; rw [hu]; simp [ha]
        have hp : 1 ≤ vlN 0 (a :: v) := by
          have h2 := vlN_ge v (10 * 0 + (a.toNat - 48))
          have h3 : a.toNat ≠ 48 := fun e => ha (UInt8.toNat_inj.1 e)
          have h4 : 48 ≤ a.toNat := by
            unfold dgs at hu
            simp at hu
            exact hu.1.1
          show 1 ≤ vlN (10 * 0 + (a.toNat - 48)) v
          omega
        rw [Lib.decDigits, dif_neg (by omega), show (10 * vlN 0 (a :: v) + (c.toNat - 48)) / 10 = vlN 0 (a :: v) by omega, show (10 * vlN 0 (a :: v) + (c.toNat - 48)) % 10 = c.toNat - 48 by omega, hc, ih _ hlu hcan]
theorem can_dec : ∀ (n : Nat), can (Lib.decDigits n) = true ∧ vlN 0 (Lib.decDigits n) = n := by
  intro n
  induction n using Nat.strongRecOn with
  | _ n ih =>
    by_cases h : n < 10
    · have e : Lib.decDigits n = [UInt8.ofNat (48 + n)] := by rw [Lib.decDigits, dif_pos h]
      have ht : (UInt8.ofNat (48 + n)).toNat = 48 + n := by rw [UInt8.toNat_ofNat']; omega
      rw [e]
      refine ⟨?_, ?_⟩
      · unfold can dgs; simp only [List.all_cons, List.all_nil, ht]; simp; omega
      · show 10 * 0 + ((UInt8.ofNat (48 + n)).toNat - 48) = n
        rw [ht]; omega
    · have e : Lib.decDigits n = Lib.decDigits (n / 10) ++ [UInt8.ofNat (48 + n % 10)] := by rw [Lib.decDigits, dif_neg h]
      have ht : (UInt8.ofNat (48 + n % 10)).toNat = 48 + n % 10 := by rw [UInt8.toNat_ofNat']; omega
      obtain ⟨c1, c2⟩ := ih (n / 10) (by omega)
      rw [e]
      refine ⟨?_, ?_⟩
      · unfold can at c1 ⊢
        rw [dgs_snoc, ht]
        simp only [Bool.and_eq_true] at c1 ⊢
        obtain ⟨⟨k1, k2⟩, k3⟩ := c1
        obtain ⟨a, v, hav⟩ : ∃ a v, Lib.decDigits (n / 10) = a :: v := by
          cases hq : Lib.decDigits (n / 10) with
          | nil => rw [hq] at k1; simp at k1
          | cons a v => exact ⟨a, v, rfl⟩
        refine ⟨⟨by simp, k2, by simp; omega⟩, ?_⟩
        rw [hav] at k3 c2 ⊢
        have ha : a ≠ 48 := by
          intro ea
          subst ea
          cases v with
          | nil =>
            have : vlN 0 [48] = n / 10 := c2
            have e0 : vlN 0 [48] = 0 := rfl
            omega
          | cons b v => simp at k3
        simp [ha]
      · rw [vlN_snoc, c2, ht]; omega
end Go.Proofs.YtoopgkbefhoeiaaGreatDoor
