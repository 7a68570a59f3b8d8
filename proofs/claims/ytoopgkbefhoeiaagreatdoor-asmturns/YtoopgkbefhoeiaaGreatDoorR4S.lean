/-
  A line as the document reads it is a line as asm reads it: plain lists, no program in sight.
-/
import Derived.Test.YtoopgkbefhoeiaaGreatDoorR4R
import Derived.Test.YtoopgkbefhoeiaaGreatDoorR4P
namespace Go.Proofs.YtoopgkbefhoeiaaGreatDoor
open Go.RowKit
set_option linter.unusedSimpArgs false
set_option linter.unusedVariables false

theorem first_of (c : UInt8) : ∀ t : List UInt8, c ∈ t → ∃ a b, t = a ++ c :: b ∧ ∀ x ∈ a, x ≠ c
  | [], h => by cases h
  | d :: t, h => by
    by_cases hc : d = c
    · exact ⟨[], t, by rw [hc]; rfl, fun x hx => by cases hx⟩
    · have hm : c ∈ t := by rcases List.mem_cons.1 h with h | h; exact absurd h.symm hc; exact h
      obtain ⟨a, b, e, ha⟩ := first_of c t hm
      exact ⟨d :: a, b, by rw [e]; rfl, fun x hx => by rcases List.mem_cons.1 hx with rfl | hx; exact hc; exact ha x hx⟩
theorem cut_cases (c : UInt8) (r : List UInt8) : ((∀ x ∈ r, x ≠ c) ∧ Lib.cut r [c] = (r, [], false)) ∨ ∃ a b, r = a ++ c :: b ∧ (∀ x ∈ a, x ≠ c) ∧ Lib.cut r [c] = (a, b, true) := by
  by_cases h : c ∈ r
  · obtain ⟨a, b, e, ha⟩ := first_of c r h
    exact .inr ⟨a, b, e, ha, by rw [e]; exact cut_at c a b ha⟩
  · have hn : ∀ x ∈ r, x ≠ c := fun x hx e => h (e ▸ hx)
    exact .inl ⟨hn, cut_none c r hn⟩
theorem cut_pre (c : UInt8) (b r : List UInt8) (hb : ∀ x ∈ b, x ≠ c) : Lib.cut (b ++ r) [c] = (b ++ (Lib.cut r [c]).1, (Lib.cut r [c]).2.1, (Lib.cut r [c]).2.2) := by
  rcases cut_cases c r with ⟨h1, h2⟩ | ⟨u, v, h1, h2, h3⟩
  · rw [h2, cut_none c (b ++ r) (fun x hx => by rcases List.mem_append.1 hx with h | h; exact hb x h; exact h1 x h)]
  · rw [h3, h1, ← List.append_assoc]
    exact cut_at c (b ++ u) v (fun x hx => by rcases List.mem_append.1 hx with h | h; exact hb x h; exact h2 x h)
theorem trim_pre (a : List UInt8) : ∀ b : List UInt8, (∀ x ∈ b, x = 32 ∨ x = 9) → trimA (b ++ a) = trimA a
  | [], _ => rfl
  | x :: b, h => by
    rw [← trim_pre a b fun y hy => h y (List.mem_cons_of_mem _ hy), ← trim_comm, ← trim_comm (b ++ a), List.cons_append, left_cons (h x List.mem_cons_self)]
theorem trim_stop (x : UInt8) (h1 : x ≠ 32) (h2 : x ≠ 9) : ∀ v : List UInt8, ∃ bl r, v ++ [x] = bl ++ r ∧ (∀ y ∈ bl, y = 32 ∨ y = 9) ∧ trimA (v ++ [x]) = r ∧ r ≠ []
  | [] => ⟨[], [x], rfl, (fun y hy => by cases hy), by rw [← trim_comm, List.nil_append, left_stop h1 h2]; exact right_stop (u := []) h1 h2, by simp⟩
  | c :: v => by
    by_cases hc : c = 32 ∨ c = 9
    · obtain ⟨bl, r, e, hb, ht, hr⟩ := trim_stop x h1 h2 v
      refine ⟨c :: bl, r, by rw [List.cons_append, e]; rfl, (fun y hy => by rcases List.mem_cons.1 hy with rfl | hy; exact hc; exact hb y hy), ?_, hr⟩
      rw [← ht, ← trim_comm, ← trim_comm (v ++ [x]), List.cons_append, left_cons hc]
    · refine ⟨[], c :: v ++ [x], rfl, (fun y hy => by cases hy), ?_, by simp⟩
      rw [← trim_comm, List.cons_append, left_stop (fun e => hc (.inl e)) (fun e => hc (.inr e)), ← List.cons_append]
      exact right_stop h1 h2
theorem rtrim_end : ∀ (n : Nat) (y : List UInt8), y.length = n → Lib.trimRightS y [32, 9] ≠ [] → ∃ v x, Lib.trimRightS y [32, 9] = v ++ [x] ∧ x ≠ 32 ∧ x ≠ 9
  | 0, y, hy, h => by obtain rfl : y = [] := List.eq_nil_of_length_eq_zero hy; exact absurd rfl h
  | n + 1, y, hy, h => by
    rcases List.eq_nil_or_concat y with rfl | ⟨u, x, hu⟩
    · simp at hy
    · rw [List.concat_eq_append] at hu
      subst hu
      by_cases hx : x = 32 ∨ x = 9
      · rw [right_snoc hx] at h ⊢
        exact rtrim_end n u (by simpa using hy) h
      · exact ⟨u, x, right_stop (fun e => hx (.inl e)) (fun e => hx (.inr e)), (fun e => hx (.inl e)), fun e => hx (.inr e)⟩
theorem trim_end (s : List UInt8) (h : trimA s ≠ []) : ∃ v x, trimA s = v ++ [x] ∧ x ≠ 32 ∧ x ≠ 9 := by
  rw [← trim_comm] at h ⊢
  exact rtrim_end _ _ rfl h
theorem rdF_trim (fs : List Fk) (v : List UInt8) (x : UInt8) (h1 : x ≠ 32) (h2 : x ≠ 9) (l : Ln) : rdF fs (v ++ [x]) true l = rdF fs (trimA (v ++ [x])) true l := by
  obtain ⟨bl, r, e, hb, ht, -⟩ := trim_stop x h1 h2 v
  rw [ht, e]
  have hc := cut_pre 44 bl r (fun y hy => by rcases hb y hy with rfl | rfl <;> decide)
  cases fs with
  | nil => rfl
  | cons f fs => rw [rdF, rdF, hc, trim_pre _ bl hb]
theorem fin4_ne {e : Int} (h : e ≠ 0) : fin4 (lnZ, e) = (lnZ, false, e) := if_neg h
theorem lin5_eq (v : List UInt8) (x : UInt8) (h1 : x ≠ 32) (h2 : x ≠ 9) : lin5 (v ++ [x]) = fin4 (linA (v ++ [x])) := by
  have hl : (v ++ [x]).getD ((v ++ [x]).length - 1) 0 = x := by simp
  have ht : (v ++ [x]).take ((v ++ [x]).length - 1) = v := by simp
  unfold lin5 linA
  rw [hl, ht]
  by_cases hx : x = 58
  · subst hx
    have e1 : Lib.hasSuffix (v ++ [58]) [58] = true := by
      unfold Lib.hasSuffix
      rw [List.isSuffixOf_iff_suffix]
      exact ⟨v, rfl⟩
    have e2 : Lib.trimSuffix (v ++ [58]) [58] = v := by unfold Lib.trimSuffix; rw [e1]; simp
    rw [if_pos rfl, e1, e2, if_pos rfl]
    by_cases hn : nm (ba v) = true
    · rw [if_pos hn, if_pos hn]; rfl
    · rw [if_neg hn, if_neg hn]; rfl
  · have e1 : ¬ Lib.hasSuffix (v ++ [x]) [58] = true := by
      unfold Lib.hasSuffix
      rw [List.isSuffixOf_iff_suffix]
      rintro ⟨u, e⟩
      have := List.append_inj_right' e rfl
      exact hx (by simpa using this.symm)
    rw [if_neg hx, if_neg e1]
    rcases opK_eq (Lib.cut (v ++ [x]) [32]).1 with ⟨o1, o2⟩ | ⟨k, hk, o1, o2, o3⟩
    · rw [if_pos (by rw [o1]; decide), o2, if_neg (by simp)]; rfl
    · rw [if_neg (by rw [o1]; omega), o1, o2, if_pos rfl, o3]
      unfold insA
      rw [← rdF_ps _ _ _ _ _ (Nat.le_refl _)]
      congr 1
      rcases cut_cases 32 (v ++ [x]) with ⟨-, c2⟩ | ⟨a, b, c1, -, c3⟩
      · rw [c2]; rfl
      · rw [c3]
        dsimp only
        rcases List.eq_nil_or_concat b with rfl | ⟨u, y, hu⟩
        · have := List.append_inj_right' c1 rfl
          exact absurd (by simpa using this) h1
        · rw [List.concat_eq_append] at hu
          subst hu
          obtain rfl : x = y := by
            rw [← List.cons_append, ← List.append_assoc] at c1
            have := List.append_inj_right' c1 rfl
            simpa using this
          obtain ⟨-, r, -, -, e5, e6⟩ := trim_stop x h1 h2 u
          have e7 : (trimA (u ++ [x])).isEmpty = false := by rw [e5]; simpa using e6
          have e8 : (u ++ [x]).isEmpty = false := by simp
          rw [e7, e8]
          exact (rdF_trim _ u x h1 h2 _).symm
theorem lin4_eq (s : List UInt8) : lin4 s = if rmkA s = [] then (lnZ, false, 0) else fin4 (linA (rmkA s)) := by
  unfold lin4
  by_cases h : rmkA s = []
  · rw [if_pos h, if_pos h]
  · rw [if_neg h, if_neg h]
    obtain ⟨v, x, e, h1, h2⟩ := trim_end _ h
    have e' : rmkA s = v ++ [x] := e
    rw [e']
    exact lin5_eq v x h1 h2
end Go.Proofs.YtoopgkbefhoeiaaGreatDoor
