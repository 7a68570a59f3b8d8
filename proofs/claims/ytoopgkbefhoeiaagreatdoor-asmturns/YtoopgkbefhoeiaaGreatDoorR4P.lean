/-
  A text's lines: plain lists, no program in sight.
-/
import Derived.Test.YtoopgkbefhoeiaaGreatDoorR4A
namespace Go.Proofs.YtoopgkbefhoeiaaGreatDoor
open Go.RowKit
set_option linter.unusedSimpArgs false
set_option linter.unusedVariables false

/-- The lines of a text, behind what is read of one already. -/
def lns4 : List UInt8 → List UInt8 → List (List UInt8)
  | cur, [] => if cur = [] then [] else [cur]
  | cur, c :: l => if c = 10 then cur :: lns4 [] l else lns4 (cur ++ [c]) l
theorem first_ten : ∀ t : List UInt8, (10 : UInt8) ∈ t → ∃ a b, t = a ++ 10 :: b ∧ ∀ x ∈ a, x ≠ 10
  | [], h => by cases h
  | c :: t, h => by
    by_cases hc : c = 10
    · exact ⟨[], t, by rw [hc]; rfl, fun x hx => by cases hx⟩
    · have hm : (10 : UInt8) ∈ t := by rcases List.mem_cons.1 h with h | h; exact absurd h.symm hc; exact h
      obtain ⟨a, b, e, ha⟩ := first_ten t hm
      exact ⟨c :: a, b, by rw [e]; rfl, fun x hx => by rcases List.mem_cons.1 hx with rfl | hx; exact hc; exact ha x hx⟩
theorem lns4_cut : ∀ (t cur : List UInt8), cur ++ t ≠ [] → lns4 cur t = (cur ++ (Lib.cut t [10]).1) :: lns4 [] (Lib.cut t [10]).2.1
  | [], cur, h => by
    rw [cut_none 10 [] (fun x hx => by cases hx)]
    simp only [List.append_nil] at h ⊢
    simp [lns4, h]
  | c :: t, cur, h => by
    by_cases hc : c = 10
    · subst hc
      have e := cut_at 10 [] t (fun x hx => by cases hx)
      rw [List.nil_append] at e
      rw [e]
      simp [lns4]
    · have ih := lns4_cut t (cur ++ [c]) (by simp)
      rw [lns4, if_neg hc, ih]
      by_cases hm : ∀ x ∈ t, x ≠ 10
      · rw [cut_none 10 t hm, cut_none 10 (c :: t) (fun x hx => by rcases List.mem_cons.1 hx with rfl | hx; exact hc; exact hm x hx)]
        simp
      · obtain ⟨a, b, rfl, ha⟩ : ∃ a b, t = a ++ 10 :: b ∧ ∀ x ∈ a, x ≠ 10 := by
          have : (10 : UInt8) ∈ t := Classical.byContradiction fun h => hm fun x hx e => h (e ▸ hx)
          exact first_ten t this
        have e := cut_at 10 (c :: a) b (fun x hx => by rcases List.mem_cons.1 hx with rfl | hx; exact hc; exact ha x hx)
        rw [List.cons_append] at e
        rw [cut_at 10 a b ha, e]
        simp
theorem suffix_one (l : List UInt8) (h : l ≠ []) : Lib.hasSuffix l [10] = (l.getLast h == 10) := by
  rcases List.eq_nil_or_concat l with rfl | ⟨u, c, hu⟩
  · exact absurd rfl h
  · rw [List.concat_eq_append] at hu
    subst hu
    rw [Bool.eq_iff_iff, Lib.hasSuffix, List.isSuffixOf_iff_suffix]
    rw [show (u ++ [c]).getLast h = c by simp, beq_iff_eq]
    constructor
    · rintro ⟨v, e⟩; have := List.append_inj_right' e rfl; simpa using this.symm
    · rintro rfl; exact ⟨u, rfl⟩
theorem lns4_len : ∀ (t cur : List UInt8), ((lns4 cur t).length : Int) = Lib.countByte t 10 + (if t = [] then (if cur = [] then 0 else 1) else if Lib.hasSuffix t [10] = false then 1 else 0)
  | [], cur => by
    by_cases h : cur = []
    · simp [lns4, h, Lib.countByte]
    · simp [lns4, h, Lib.countByte]
  | c :: t, cur => by
    rw [if_neg (by simp), suffix_one _ (by simp)]
    by_cases hc : c = 10
    · subst hc
      have ih := lns4_len t []
      rw [lns4, if_pos rfl, List.length_cons]
      unfold Lib.countByte at *
      rw [List.count_cons_self]
      by_cases ht : t = []
      · subst ht; simp [lns4]
      · rw [if_neg ht, suffix_one t ht] at ih
        rw [List.getLast_cons ht]
        omega
    · have ih := lns4_len t (cur ++ [c])
      rw [lns4, if_neg hc]
      unfold Lib.countByte at *
      rw [List.count_cons_of_ne hc]
      by_cases ht : t = []
      · subst ht; simp [lns4, hc]
      · rw [if_neg ht, suffix_one t ht] at ih
        rw [List.getLast_cons ht]
        exact ih
theorem lcA_len (t : List UInt8) : lcA t = ((lns4 [] t).length : Int) := by
  rw [lns4_len]
  unfold lcA
  by_cases ht : t = []
  · subst ht; simp
  · rw [if_neg ht]
    have : t.isEmpty = false := by simpa using ht
    rw [this]
    by_cases h : Lib.hasSuffix t [10] = false
    · rw [if_pos ⟨rfl, h⟩, if_pos h]
    · rw [if_neg (fun e => h e.2), if_neg h]
/-- A list of lines read one by one. -/
def rdL : List (List UInt8) → Nat → List Ln → List Ln × Int × Int
  | [], _, acc => (acc, 0, 0)
  | s :: ls, n, acc =>
    if rmkA s = [] then rdL ls (n + 1) acc
    else if (linA (rmkA s)).2 = 0 then rdL ls (n + 1) (acc ++ [(linA (rmkA s)).1])
    else ([], (linA (rmkA s)).2, (n : Int))
theorem rdT_rdL : ∀ (g : Nat) (t : List UInt8) (n : Nat) (acc : List Ln), t.length ≤ g → rdT g t n acc = rdL (lns4 [] t) n acc
  | 0, t, n, acc, h => by
    obtain rfl : t = [] := List.eq_nil_of_length_eq_zero (by omega)
    rfl
  | g + 1, t, n, acc, h => by
    by_cases ht : t = []
    · subst ht; rw [rdT_nil]; rfl
    · have h1 := cut_less (c := 10) ht
      rw [lns4_cut t [] (by simpa using ht), rdT, if_neg ht, List.nil_append, rdL]
      rw [rdT_rdL g _ _ _ (by omega), rdT_rdL g _ _ _ (by omega)]
theorem readA_lines (t : List UInt8) : readA t = if 1048576 < t.length then ([], 4, 0) else if 40000 < (lns4 [] t).length then ([], 5, 0) else rdL (lns4 [] t) 0 [] := by
  unfold readA
  rw [lcA_len, rdT_rdL _ _ _ _ (Nat.le_refl _)]
  by_cases h : 40000 < (lns4 [] t).length
  · rw [if_pos h, if_pos (show (40000 : Int) < ((lns4 [] t).length : Int) by omega)]
  · rw [if_neg h, if_neg (show ¬ (40000 : Int) < ((lns4 [] t).length : Int) by omega)]
end Go.Proofs.YtoopgkbefhoeiaaGreatDoor
