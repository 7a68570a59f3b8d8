/-
  Assembled lines: which instructions the words are, and where labels lie; plain lists, no program in sight.
-/
import Derived.Test.YtoopgkbefhoeiaaDoorAsA
namespace Go.Proofs.YtoopgkbefhoeiaaDoor
open Go.RowKit
set_option linter.unusedSimpArgs false
set_option linter.unusedVariables false

def insB (A : Nmd) (x : Ln) : Ins := if emp x.ref = true then x.i else ⟨x.i.o, x.i.d, x.i.s, atA A x.ref.toList % 65536⟩
def insBL (A : Nmd) (l : List Ln) : List Ins := (l.filter fun x => emp x.lab).map (insB A)
theorem insBL_lab {A : Nmd} {x : Ln} {l : List Ln} (h : emp x.lab = false) : insBL A (x :: l) = insBL A l := by unfold insBL; rw [List.filter_cons, if_neg (by simp [h])]
theorem insBL_ins {A : Nmd} {x : Ln} {l : List Ln} (h : emp x.lab = true) : insBL A (x :: l) = insB A x :: insBL A l := by unfold insBL; rw [List.filter_cons, if_pos h, List.map_cons]
theorem rsv_B (A : Nmd) : ∀ (l : List Ln) (k : Nat) (acc : List Ins), (rsv (fndA A) l k () acc).1.2.1 = 0 → (rsv (fndA A) l k () acc).1.1 = acc ++ insBL A l ∧ ∀ x ∈ l, emp x.lab = true → emp x.ref = false → hasA A x.ref.toList = true
  | [], _, acc, _ => ⟨by simp [rsv, insBL], by simp⟩
  | x :: l, k, acc, h => by
    by_cases h1 : emp x.lab = true
    · by_cases h2 : emp x.ref = true
      · rw [rsv_ins h1 h2] at h ⊢
        obtain ⟨a, b⟩ := rsv_B A l _ _ h
        refine ⟨by rw [a, insBL_ins h1, List.append_assoc]; simp [insB, h2], fun y hy e1 e2 => ?_⟩
        rcases List.mem_cons.1 hy with rfl | hy
        · rw [h2] at e2; cases e2
        · exact b y hy e1 e2
      · replace h2 : emp x.ref = false := by simpa using h2
        by_cases h3 : hasA A x.ref.toList = true
        · rw [rsv_ref h1 h2 h3] at h ⊢
          obtain ⟨a, b⟩ := rsv_B A l _ _ h
          refine ⟨by rw [a, insBL_ins h1, List.append_assoc]; simp [insB, h2, fndA], fun y hy e1 e2 => ?_⟩
          rcases List.mem_cons.1 hy with rfl | hy
          · exact h3
          · exact b y hy e1 e2
        · rw [rsv_none h1 h2 (by simpa [fndA] using h3)] at h; simp at h
    · replace h1 : emp x.lab = false := by simpa using h1
      rw [rsv_lab h1] at h ⊢
      obtain ⟨a, b⟩ := rsv_B A l _ _ h
      refine ⟨by rw [a, insBL_lab h1], fun y hy e1 e2 => ?_⟩
      rcases List.mem_cons.1 hy with rfl | hy
      · rw [h1] at e1; cases e1
      · exact b y hy e1 e2
/-- How many words lines are. -/
def wlB : List Ln → Int
  | [] => 0
  | x :: l => (if emp x.lab = true then lng x.i.o else 0) + wlB l
theorem plc_sane : ∀ (l : List Ln) (k : Nat) (A : Nmd) (n : Int), n ≤ 65536 → (plc l k A n).2.2.1 = 0 → (∀ x ∈ l, wrgL x = 0) ∧ (plc l k A n).2.1 = n + wlB l ∧ (plc l k A n).2.1 ≤ 65536
  | [], _, _, n, hn, _ => ⟨by simp, by simp [plc, wlB], hn⟩
  | x :: l, k, A, n, hn, h => by
    by_cases hw : wrgL x = 0
    · have put : (∀ y ∈ l, wrgL y = 0) → ∀ y ∈ x :: l, wrgL y = 0 := fun q y hy => by
        rcases List.mem_cons.1 hy with rfl | hy
        · exact hw
        · exact q y hy
      by_cases he : emp x.lab = true
      · by_cases ht : n + lng x.i.o ≤ 65536
        · rw [plc_ins hw he ht] at h ⊢
          obtain ⟨a, b, c⟩ := plc_sane l _ _ _ ht h
          exact ⟨put a, by rw [b, wlB, if_pos he]; omega, c⟩
        · rw [plc_much hw he (by omega)] at h; simp at h
      · replace he : emp x.lab = false := by simpa using he
        by_cases ht : hasA A x.lab.toList = true
        · rw [plc_taken hw he ht] at h; simp at h
        · replace ht : hasA A x.lab.toList = false := by simpa using ht
          rw [plc_label hw he ht] at h ⊢
          obtain ⟨a, b, c⟩ := plc_sane l _ _ _ hn h
          exact ⟨put a, by rw [b, wlB, if_neg (by simp [he])]; omega, c⟩
    · rw [plc_bad hw] at h; exact absurd h hw
theorem plc_zero : ∀ (l : List Ln) (k : Nat) (A : Nmd) (n : Int), (plc l k A n).2.2.1 = 0 → (plc l k A n).2.2.2 = 0
  | [], _, _, _, _ => rfl
  | x :: l, k, A, n, h => by
    by_cases hw : wrgL x = 0
    · by_cases he : emp x.lab = true
      · by_cases ht : n + lng x.i.o ≤ 65536
        · rw [plc_ins hw he ht] at h ⊢
          exact plc_zero l _ _ _ h
        · rw [plc_much hw he (by omega)] at h; simp at h
      · replace he : emp x.lab = false := by simpa using he
        by_cases ht : hasA A x.lab.toList = true
        · rw [plc_taken hw he ht] at h; simp at h
        · replace ht : hasA A x.lab.toList = false := by simpa using ht
          rw [plc_label hw he ht] at h ⊢
          exact plc_zero l _ _ _ h
    · rw [plc_bad hw] at h; exact absurd h hw
theorem atA_in' {A : Nmd} (h : ∀ p ∈ A, 0 ≤ p.2 ∧ p.2 ≤ 65536) (k : List UInt8) : 0 ≤ atA A k ∧ atA A k ≤ 65536 := by
  unfold atA
  cases e : A.find? (fun p => p.1 == k) with
  | none => exact ⟨Int.le_refl _, by decide⟩
  | some p => exact h p (List.mem_of_find?_eq_some e)
theorem plc_in : ∀ (l : List Ln) (k : Nat) (A : Nmd) (n : Int), 0 ≤ n → n ≤ 65536 → (∀ p ∈ A, 0 ≤ p.2 ∧ p.2 ≤ 65536) → (plc l k A n).2.2.1 = 0 → ∀ p ∈ (plc l k A n).1, 0 ≤ p.2 ∧ p.2 ≤ 65536
  | [], _, _, _, _, _, hA, _ => hA
  | x :: l, k, A, n, h0, h1, hA, h => by
    by_cases hw : wrgL x = 0
    · by_cases he : emp x.lab = true
      · by_cases ht : n + lng x.i.o ≤ 65536
        · rw [plc_ins hw he ht] at h ⊢
          exact plc_in l _ _ _ (by have := lng_in x.i.o; omega) ht hA h
        · rw [plc_much hw he (by omega)] at h; simp at h
      · replace he : emp x.lab = false := by simpa using he
        by_cases ht : hasA A x.lab.toList = true
        · rw [plc_taken hw he ht] at h; simp at h
        · replace ht : hasA A x.lab.toList = false := by simpa using ht
          rw [plc_label hw he ht] at h ⊢
          refine plc_in l _ _ _ h0 h1 (fun p hp => ?_) h
          rcases List.mem_append.1 hp with hp | hp
          · exact hA p hp
          · simp at hp; subst hp; exact ⟨h0, h1⟩
    · rw [plc_bad hw] at h; exact absurd h hw
theorem plc_at (l : List Ln) (k : Nat) (A : Nmd) (n : Int) (h0 : 0 ≤ n) (h1 : n ≤ 65536) (hA : ∀ p ∈ A, 0 ≤ p.2 ∧ p.2 ≤ 65536) (h : (plc l k A n).2.2.1 = 0) (j : List UInt8) : 0 ≤ atA (plc l k A n).1 j ∧ atA (plc l k A n).1 j ≤ 65536 := atA_in' (plc_in l k A n h0 h1 hA h) j
/-- What a line's instruction comes to. -/
def want (A : Nmd) (x : Ln) : Ins := if emp x.ref = true then bare x.i else ⟨(bare x.i).o, (bare x.i).d, (bare x.i).s, atA A x.ref.toList % 65536⟩
theorem insB_ok {A : Nmd} {x : Ln} (h : wrgL x = 0) (he : emp x.lab = true) : wrg (insB A x) = 0 ∧ (insB A x).o = x.i.o ∧ bare (insB A x) = want A x ∧ (emp x.ref = false → nm x.ref = true) := by
  obtain ⟨h1, h2⟩ := wrgL_ins h he
  unfold insB want
  by_cases hr : emp x.ref = true
  · rw [if_pos hr, if_pos hr]; exact ⟨h1, rfl, rfl, fun h => by rw [hr] at h; cases h⟩
  · rw [if_neg hr, if_neg hr]
    obtain ⟨f0, f1, f2, f3, f4⟩ := wr_fields h1
    rcases h2 with h2 | ⟨hnm, hmay, _⟩
    · exact absurd h2 hr
    · have hi : hI x.i.o = true := by unfold may at hmay; simp at hmay; exact hmay.1
      refine ⟨wr_of f0 f1 f2 f3 (fun _ => ⟨?_, ?_⟩), rfl, ?_, fun _ => hnm⟩
      · show 0 ≤ atA A x.ref.toList % 65536; omega
      · show atA A x.ref.toList % 65536 ≤ 65535; omega
      · unfold bare; dsimp only; rw [if_pos hi]
theorem insBL_words {A : Nmd} : ∀ (l : List Ln), (∀ x ∈ l, wrgL x = 0) → (∀ i ∈ insBL A l, wrg i = 0) ∧ (((insBL A l).flatMap ws).length : Int) = wlB l
  | [], _ => ⟨by simp [insBL], by simp [insBL, wlB]⟩
  | x :: l, h => by
    obtain ⟨a, b⟩ := insBL_words (A := A) l (fun y hy => h y (List.mem_cons_of_mem _ hy))
    by_cases he : emp x.lab = true
    · rw [insBL_ins he, wlB, if_pos he]
      obtain ⟨c1, c2, _⟩ := insB_ok (A := A) (h x List.mem_cons_self) he
      refine ⟨fun i hi => ?_, ?_⟩
      · rcases List.mem_cons.1 hi with rfl | hi
        · exact c1
        · exact a i hi
      · rw [List.flatMap_cons, List.length_append]
        have := ws_len (insB A x)
        rw [c2] at this
        omega
    · replace he : emp x.lab = false := by simpa using he
      rw [insBL_lab he, wlB, if_neg (by simp [he])]
      exact ⟨a, by omega⟩
/-- The words' instructions, line by line. -/
def wants (A : Nmd) (l : List Ln) : List Ins := (l.filter fun x => emp x.lab).map (want A)
theorem wants_lab {A : Nmd} {x : Ln} {l : List Ln} (h : emp x.lab = false) : wants A (x :: l) = wants A l := by unfold wants; rw [List.filter_cons, if_neg (by simp [h])]
theorem wants_ins {A : Nmd} {x : Ln} {l : List Ln} (h : emp x.lab = true) : wants A (x :: l) = want A x :: wants A l := by unfold wants; rw [List.filter_cons, if_pos h, List.map_cons]
theorem bare_wants {A : Nmd} : ∀ (l : List Ln), (∀ x ∈ l, wrgL x = 0) → (insBL A l).map bare = wants A l
  | [], _ => rfl
  | x :: l, h => by
    have ih := bare_wants (A := A) l (fun y hy => h y (List.mem_cons_of_mem _ hy))
    by_cases he : emp x.lab = true
    · rw [insBL_ins he, wants_ins he, List.map_cons, ih, (insB_ok (A := A) (h x List.mem_cons_self) he).2.2.1]
    · replace he : emp x.lab = false := by simpa using he
      rw [insBL_lab he, wants_lab he, ih]
theorem asm_facts {l : List Ln} (h : (asmA l).2.1 = 0) : ∃ A n, plc l 0 [] 0 = (A, n, 0, 0) ∧ l.length ≤ 40000 ∧ decA (asmA l).1 = (wants A l, 0, 0) ∧ ((asmA l).1.length : Int) = n ∧ (∀ x ∈ l, wrgL x = 0) ∧ (∀ x ∈ l, emp x.lab = true → emp x.ref = false → hasA A x.ref.toList = true) ∧ n ≤ 65536 := by
  unfold asmA at h ⊢
  by_cases h1 : (plcA l).2.2.1 = 0
  · rw [if_pos h1] at h ⊢
    by_cases h2 : (rsv (fndA (plcA l).1) l 0 () []).1.2.1 = 0
    · rw [if_pos h2]
      have hl : l.length ≤ 40000 := by
        unfold plcA at h1
        by_cases hl : l.length ≤ 40000
        · exact hl
        · rw [if_neg hl] at h1; simp at h1
      have hp : plcA l = plc l 0 [] 0 := by unfold plcA; rw [if_pos hl]
      obtain ⟨s1, s2, s3⟩ := plc_sane l 0 [] 0 (by decide) (by rw [← hp]; exact h1)
      obtain ⟨r1, r2⟩ := rsv_B _ l 0 [] h2
      obtain ⟨i1, i2⟩ := insBL_words (A := (plcA l).1) l s1
      rw [List.nil_append] at r1
      have e0 : (encA (insBL (plcA l).1 l)).2.1 = 0 := (enc_ok _ 0 [] (by simp)).2 ⟨i1, by rw [List.nil_append]; omega⟩
      have e1 := enc_words _ 0 [] e0
      refine ⟨(plcA l).1, (plcA l).2.1, ?_, hl, ?_, ?_, s1, r2, by rw [hp]; exact s3⟩
      · rw [← hp]
        have f : ∀ (l : List Ln) (k : Nat) (A : Nmd) (n : Int), (plc l k A n).2.2.1 = 0 → (plc l k A n).2.2.2 = 0 := plc_zero
        have := f l 0 [] 0 (by rw [← hp]; exact h1)
        rw [← hp] at this
        exact Prod.ext rfl (Prod.ext rfl (Prod.ext h1 this))
      · show decA (encA _).1 = _
        rw [r1, turns1 _ e0, bare_wants l s1]
      · show (((encA _).1.length : Nat) : Int) = _
        rw [r1]
        unfold encA
        rw [e1, List.nil_append, i2, hp, s2]
        omega
    · rw [if_neg h2] at h; exact absurd h h2
  · rw [if_neg h1] at h; exact absurd h h1
end Go.Proofs.YtoopgkbefhoeiaaDoor
