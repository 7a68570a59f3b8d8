/-
  The document's answer on lines: Assemble, as plain lists. (Where 9 is its Show.)
-/
import Derived.Test.YtoopgkbefhoeiaaDoorAsV
import Derived.Test.YtoopgkbefhoeiaaDoorT4F
namespace Go.Proofs.YtoopgkbefhoeiaaDoor
open Go.RowKit Go.Maps
set_option linter.unusedSimpArgs false
set_option linter.unusedVariables false

/-- Words of lines, one by one. -/
def asw (A : Nmd) : List Ln → Nat → List Int → List Int × Int × Nat
  | [], _, acc => (acc, 0, 0)
  | x :: l, k, acc =>
    if emp x.lab = false then asw A l (k + 1) acc
    else if emp x.ref = true then asw A l (k + 1) (acc ++ ws (insB A x))
    else if hasA A x.ref.toList = true then asw A l (k + 1) (acc ++ ws (insB A x))
    else ([], 6, k)
theorem asw_rsv (A : Nmd) : ∀ (l : List Ln) (k : Nat) (acc : List Ins), asw A l k (acc.flatMap ws) = if (rsv (fndA A) l k () acc).1.2.1 = 0 then ((rsv (fndA A) l k () acc).1.1.flatMap ws, 0, 0) else ([], (rsv (fndA A) l k () acc).1.2.1, (rsv (fndA A) l k () acc).1.2.2)
  | [], k, acc => by simp [asw, rsv]
  | x :: l, k, acc => by
    rw [asw]
    by_cases h1 : emp x.lab = false
    · rw [if_pos h1, rsv_lab h1]
      exact asw_rsv A l (k + 1) acc
    · rw [if_neg h1]
      replace h1 : emp x.lab = true := by simpa using h1
      by_cases h2 : emp x.ref = true
      · rw [if_pos h2, rsv_ins h1 h2]
        have : insB A x = x.i := by unfold insB; rw [if_pos h2]
        rw [this, ← asw_rsv A l (k + 1) (acc ++ [x.i])]
        simp
      · rw [if_neg h2]
        replace h2 : emp x.ref = false := by simpa using h2
        by_cases h3 : hasA A x.ref.toList = true
        · rw [if_pos h3, rsv_ref h1 h2 (show (fndA A () x.ref.toList).2.2 = true from h3)]
          have : insB A x = ⟨x.i.o, x.i.d, x.i.s, atA A x.ref.toList % 65536⟩ := by unfold insB; rw [if_neg (by rw [h2]; simp)]
          rw [this]
          have e := asw_rsv A l (k + 1) (acc ++ [⟨x.i.o, x.i.d, x.i.s, atA A x.ref.toList % 65536⟩])
          rw [List.flatMap_append, show [(⟨x.i.o, x.i.d, x.i.s, atA A x.ref.toList % 65536⟩ : Ins)].flatMap ws = ws ⟨x.i.o, x.i.d, x.i.s, atA A x.ref.toList % 65536⟩ by simp] at e
          exact e
        · rw [if_neg h3, rsv_none h1 h2 (show (fndA A () x.ref.toList).2.2 = false from (by simpa using h3 : hasA A x.ref.toList = false))]
          rfl
theorem plcA_len {l : List Ln} (h : (plcA l).2.2.1 = 0) : l.length ≤ 40000 ∧ plcA l = plc l 0 [] 0 := by
  unfold plcA at h ⊢
  by_cases hl : l.length ≤ 40000
  · exact ⟨hl, by rw [if_pos hl]⟩
  · rw [if_neg hl] at h; simp at h
theorem asm_asw {l : List Ln} (h : (plcA l).2.2.1 = 0) : asmA l = asw (plcA l).1 l 0 [] := by
  have e := asw_rsv (plcA l).1 l 0 []
  rw [List.flatMap_nil] at e
  rw [e]
  unfold asmA
  rw [if_pos h]
  by_cases h2 : (rsv (fndA (plcA l).1) l 0 () []).1.2.1 = 0
  · rw [if_pos h2, if_pos h2]
    obtain ⟨hl, hp⟩ := plcA_len h
    obtain ⟨s1, s2, s3⟩ := plc_sane l 0 [] 0 (by decide) (by rw [← hp]; exact h)
    obtain ⟨r1, -⟩ := rsv_B _ l 0 [] h2
    obtain ⟨i1, i2⟩ := insBL_words (A := (plcA l).1) l s1
    rw [List.nil_append] at r1
    have e0 : (encA (insBL (plcA l).1 l)).2.1 = 0 := (enc_ok _ 0 [] (by simp)).2 ⟨i1, by rw [List.nil_append]; omega⟩
    have e1 := enc_words _ 0 [] e0
    rw [r1]
    show (_, _) = _
    unfold encA
    rw [e1]
    rfl
  · rw [if_neg h2, if_neg h2]
theorem asm_bad {l : List Ln} (h : (plcA l).2.2.1 ≠ 0) : asmA l = ([], (plcA l).2.2.1, (plcA l).2.2.2) := by unfold asmA; rw [if_neg h]
theorem whr_yes {l : List Ln} (h : (plcA l).2.2.1 = 0) {j : List UInt8} (hj : j ≠ []) (ha : hasA (plcA l).1 j = true) : whrL l j 0 = atA (plcA l).1 j ∧ 0 ≤ whrL l j 0 ∧ whrL l j 0 ≤ 65536 := by
  obtain ⟨-, hp⟩ := plcA_len h
  rw [hp] at h ha ⊢
  have e := whr_plc l 0 [] 0 0 j h ha rfl hj
  have a := plc_at l 0 [] 0 (by decide) (by decide) (by simp) h j
  omega
theorem whr_no {l : List Ln} (h : (plcA l).2.2.1 = 0) {j : List UInt8} (hj : j ≠ []) (ha : hasA (plcA l).1 j = false) : whrL l j 0 = -1 := by
  obtain ⟨-, hp⟩ := plcA_len h
  rw [hp] at h ha
  exact whr_none l 0 [] 0 0 j h ha hj
theorem enc_one {i : Ins} (h : wrg i = 0) : encA [i] = (ws i, 0, 0) := by
  have := ws_len2 i
  unfold encA
  rw [enc_next h (by rw [List.nil_append]; omega), enc_nil, List.nil_append]
end Go.Proofs.YtoopgkbefhoeiaaDoor
