/-
  Assemble as a plain function: what is right where places are told.
-/
import Derived.Test.YtodfjomglgmffaaGreatDoorAsP
import Derived.Test.YtodfjomglgmffaaGreatDoorAsR0
import Derived.Test.YtodfjomglgmffaaGreatDoorInsE2
namespace Go.Proofs.YtodfjomglgmffaaGreatDoor
open Go.RowKit Go.Maps
set_option linter.unusedSimpArgs false
set_option linter.unusedVariables false

theorem plc_right : ∀ (l : List Ln) (k : Nat) (A : Nmd) (n : Int), (plc l k A n).2.2.1 = 0 → ∀ x ∈ l, wrgL x = 0
  | [], _, _, _, _ => by simp
  | x :: l, k, A, n, h => by
    by_cases hw : wrgL x = 0
    · by_cases he : emp x.lab = true
      · by_cases ht : n + lng x.i.o ≤ 65536
        · rw [plc_ins hw he ht] at h
          intro y hy
          rcases List.mem_cons.1 hy with rfl | hy
          · exact hw
          · exact plc_right l _ _ _ h y hy
        · rw [plc_much hw he (by omega)] at h; simp at h
      · replace he : emp x.lab = false := by simpa using he
        by_cases ht : hasA A x.lab.toList = true
        · rw [plc_taken hw he ht] at h; simp at h
        · replace ht : hasA A x.lab.toList = false := by simpa using ht
          rw [plc_label hw he ht] at h
          intro y hy
          rcases List.mem_cons.1 hy with rfl | hy
          · exact hw
          · exact plc_right l _ _ _ h y hy
    · rw [plc_bad hw] at h; exact absurd h hw
theorem plc_pos : ∀ (l : List Ln) (k : Nat) (A : Nmd) (n : Int), 0 ≤ n → (∀ p ∈ A, 0 ≤ p.2) → ∀ p ∈ (plc l k A n).1, 0 ≤ p.2
  | [], _, _, _, _, h => h
  | x :: l, k, A, n, hn, h => by
    by_cases hw : wrgL x = 0
    · by_cases he : emp x.lab = true
      · by_cases ht : n + lng x.i.o ≤ 65536
        · rw [plc_ins hw he ht]
          exact plc_pos l _ _ _ (by have := lng_in x.i.o; omega) h
        · rw [plc_much hw he (by omega)]; simp
      · replace he : emp x.lab = false := by simpa using he
        by_cases ht : hasA A x.lab.toList = true
        · rw [plc_taken hw he ht]; simp
        · replace ht : hasA A x.lab.toList = false := by simpa using ht
          rw [plc_label hw he ht]
          refine plc_pos l _ _ _ hn fun p hp => ?_
          rcases List.mem_append.1 hp with hp | hp
          · exact h p hp
          · simp at hp; subst hp; exact hn
    · rw [plc_bad hw]; simp
theorem atA_pos {A : Nmd} (h : ∀ p ∈ A, 0 ≤ p.2) (k : List UInt8) : 0 ≤ atA A k := by
  unfold atA
  split
  · rename_i p e; exact h p (List.mem_of_find?_eq_some e)
  · exact Int.le_refl _
theorem plcA_right {l : List Ln} (h : (plcA l).2.2.1 = 0) : l.length ≤ 40000 ∧ ∀ x ∈ l, wrgL x = 0 := by
  unfold plcA at h
  by_cases hm : l.length ≤ 40000
  · rw [if_pos hm] at h; exact ⟨hm, plc_right _ _ _ _ h⟩
  · rw [if_neg hm] at h; simp at h
theorem plcA_pos (l : List Ln) : ∀ p ∈ (plcA l).1, 0 ≤ p.2 := by
  unfold plcA
  by_cases hm : l.length ≤ 40000
  · rw [if_pos hm]; exact plc_pos _ _ _ _ (by decide) (by simp)
  · rw [if_neg hm]; simp
/-- Labels where A has them. -/
def fndA (A : Nmd) (s : Unit) (k : List UInt8) : Unit × Int × Bool := (s, atA A k, hasA A k)
/-- Assemble. -/
def asmA (l : List Ln) : List Int × Int × Nat :=
  if (plcA l).2.2.1 = 0 then (if (rsv (fndA (plcA l).1) l 0 () []).1.2.1 = 0 then ((encA (rsv (fndA (plcA l).1) l 0 () []).1.1).1, 0, 0) else ([], (rsv (fndA (plcA l).1) l 0 () []).1.2.1, (rsv (fndA (plcA l).1) l 0 () []).1.2.2)) else ([], (plcA l).2.2.1, (plcA l).2.2.2)

end Go.Proofs.YtodfjomglgmffaaGreatDoor
