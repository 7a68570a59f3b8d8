/-
  AddWords, SubWords, and the document's Words: at lengths that they refuse.
-/
import Derived.Test.YtmjnihepgglbdaaWords
namespace Go.Proofs.Ytmjnihepgglbdaa
open Go.RowKit
set_option linter.unusedSimpArgs false
set_option linter.unusedVariables false

/-- Lengths that are refused. -/
def NoLen (La Lb : Nat) : Prop := La ≠ Lb ∨ La = 0 ∨ 4 < La
theorem few_no (a : Option Addr) (L k : Nat) (w : World) (h : L = 0 ∨ 4 < L) : Calls Try.prog 34 #[.slice a L k] w fun e w' => e = .returned (.bool false) ∧ w' = w := by
  by_cases h0 : L = 0
  · subst h0
    go_enter Try.func34, Try.ntmps34
    go_wp2
    go_ret
    exact ⟨rfl, rfl⟩
  · have e1 : decide ((1 : Int) ≤ (L : Int)) = true := decide_eq_true (by omega)
    have e2 : decide ((L : Int) ≤ 4) = false := decide_eq_false (by omega)
    go_enter Try.func34, Try.ntmps34
    go_wp2
    go_ret
    exact ⟨rfl, rfl⟩
set_option maxHeartbeats 1000000 in
theorem wbw_no (f : Nat) (oa ob : Option Addr) (La Lb ka kb : Nat) (w : World) (h : NoLen La Lb) : Calls Try.prog 20 #[.slice oa La ka, .slice ob Lb kb, .func (.func f) #[] #[]] w fun e w' => e = .returned (.tuple #[.slice none 0 0, .agg #[.bool false, .bool false, .bool false, .bool false], .int .i64 5]) ∧ Below w.heap.size w w' := by
  by_cases hne : La = Lb
  · subst hne
    have hf := fun w => few_no oa La ka w (by rcases h with h | h | h; exact absurd rfl h; exact .inl h; exact .inr h)
    have he : ((La : Int) != (La : Int)) = false := by simp
    go_enter Try.func20, Try.ntmps20
    go_wp2_with fail
    refine (hf _).mono ?_
    rintro e w1 ⟨rfl, hw⟩
    subst w1
    go_wp2_with fail
    exact bodyPost_ret (v := .tuple #[.slice none 0 0, .agg #[.bool false, .bool false, .bool false, .bool false], .int .i64 5]) (by simp [results, Try.results20, go_sem]) rfl ⟨rfl, (by repeat (first | exact Below.refl _ _ | refine Below.setCell ?_ (by first | exact Nat.le_refl _ | (simp; done) | omega | (simp; omega)) _ | refine Below.alloc ?_ (by first | (simp; done) | omega | (simp; omega)) _))⟩
  · have he : ((La : Int) != (Lb : Int)) = true := by rw [bne_iff_ne]; omega
    go_enter Try.func20, Try.ntmps20
    go_wp2_with fail
    exact bodyPost_ret (v := .tuple #[.slice none 0 0, .agg #[.bool false, .bool false, .bool false, .bool false], .int .i64 5]) (by simp [results, Try.results20, go_sem]) rfl ⟨rfl, (by repeat (first | exact Below.refl _ _ | refine Below.setCell ?_ (by first | exact Nat.le_refl _ | (simp; done) | omega | (simp; omega)) _ | refine Below.alloc ?_ (by first | (simp; done) | omega | (simp; omega)) _))⟩
set_option maxHeartbeats 1000000 in
theorem add_no2 (oa ob : Option Addr) (La Lb ka kb : Nat) (w : World) (h : NoLen La Lb) : Calls Try.prog 8 #[.slice oa La ka, .slice ob Lb kb] w fun e w' => e = .returned (.tuple #[.slice none 0 0, .agg #[.bool false, .bool false, .bool false, .bool false], .int .i64 5]) ∧ Below w.heap.size w w' := by
  have WB := fun w => wbw_no 4 oa ob La Lb ka kb w h
  have K0 := hide ((Below.refl w.heap.size w).alloc (Nat.le_refl _) (.cells #[.bool false, .bool false, .bool false, .bool false] 24))
  go_enter Try.func8, Try.ntmps8
  go_wp2_with fail
  refine (WB _).mono ?_
  rintro e w2 ⟨rfl, k2⟩
  have hcl := fun j => k2.cell (p := ⟨w.heap.size, j, none⟩) (by simp)
  have hfr := fun j => k2.frozen (p := ⟨w.heap.size, j, none⟩) (by simp)
  have hsz : w.heap.size < w2.heap.size := by have := k2.size; simp at this; omega
  have K2 := hide ((unhide K0).trans (k2.mono (by simp)))
  clear k2 WB
  go_wp2_with fail
  exact bodyPost_ret (v := .tuple #[.slice none 0 0, .agg #[.bool false, .bool false, .bool false, .bool false], .int .i64 5]) (by simp [results, Try.results8, go_sem, hcl, hfr, hsz]) rfl ⟨rfl, (by repeat (first | exact unhide K2 | refine Below.setCell ?_ (by first | exact Nat.le_refl _ | (simp; done) | omega | (simp; omega)) _ | refine Below.alloc ?_ (by first | (simp; done) | omega | (simp; omega)) _))⟩
set_option maxHeartbeats 1000000 in
theorem sub_no2 (oa ob : Option Addr) (La Lb ka kb : Nat) (w : World) (h : NoLen La Lb) : Calls Try.prog 11 #[.slice oa La ka, .slice ob Lb kb] w fun e w' => e = .returned (.tuple #[.slice none 0 0, .agg #[.bool false, .bool false, .bool false, .bool false], .int .i64 5]) ∧ Below w.heap.size w w' := by
  have WB := fun w => wbw_no 6 oa ob La Lb ka kb w h
  have K0 := hide ((Below.refl w.heap.size w).alloc (Nat.le_refl _) (.cells #[.bool false, .bool false, .bool false, .bool false] 24))
  go_enter Try.func11, Try.ntmps11
  go_wp2_with fail
  refine (WB _).mono ?_
  rintro e w2 ⟨rfl, k2⟩
  have hcl := fun j => k2.cell (p := ⟨w.heap.size, j, none⟩) (by simp)
  have hfr := fun j => k2.frozen (p := ⟨w.heap.size, j, none⟩) (by simp)
  have hsz : w.heap.size < w2.heap.size := by have := k2.size; simp at this; omega
  have K2 := hide ((unhide K0).trans (k2.mono (by simp)))
  clear k2 WB
  go_wp2_with fail
  exact bodyPost_ret (v := .tuple #[.slice none 0 0, .agg #[.bool false, .bool false, .bool false, .bool false], .int .i64 5]) (by simp [results, Try.results11, go_sem, hcl, hfr, hsz]) rfl ⟨rfl, (by repeat (first | exact unhide K2 | refine Below.setCell ?_ (by first | exact Nat.le_refl _ | (simp; done) | omega | (simp; omega)) _ | refine Below.alloc ?_ (by first | (simp; done) | omega | (simp; omega)) _))⟩
set_option maxHeartbeats 1000000 in
theorem rwords_no (oa ob : Option Addr) (La Lb ka kb : Nat) (c : Bool) (w : World) (h : NoLen La Lb) : Calls Try.prog 9 #[.slice oa La ka, .slice ob Lb kb, .bool c] w fun e w' => e = .returned (.tuple #[.slice none 0 0, .agg #[.bool false, .bool false, .bool false, .bool false], .int .i64 5]) ∧ Below w.heap.size w w' := by
  by_cases hne : La = Lb
  · subst hne
    have he : ((La : Int) != (La : Int)) = false := by simp
    by_cases h0 : La = 0
    · subst h0
      go_enter Try.func9, Try.ntmps9
      go_wp2_with fail
      exact bodyPost_ret (v := .tuple #[.slice none 0 0, .agg #[.bool false, .bool false, .bool false, .bool false], .int .i64 5]) (by simp [results, Try.results9, go_sem]) rfl ⟨rfl, (by repeat (first | exact Below.refl _ _ | refine Below.setCell ?_ (by first | exact Nat.le_refl _ | (simp; done) | omega | (simp; omega)) _ | refine Below.alloc ?_ (by first | (simp; done) | omega | (simp; omega)) _))⟩
    · have h4 : 4 < La := by rcases h with h | h | h; exact absurd rfl h; exact absurd h h0; exact h
      have e0 : ((La : Int) == 0) = false := beq_eq_false_iff_ne.2 (by omega)
      have e4 : (4 : Int) < (La : Int) := by omega
      go_enter Try.func9, Try.ntmps9
      go_wp2_with fail
      exact bodyPost_ret (v := .tuple #[.slice none 0 0, .agg #[.bool false, .bool false, .bool false, .bool false], .int .i64 5]) (by simp [results, Try.results9, go_sem]) rfl ⟨rfl, (by repeat (first | exact Below.refl _ _ | refine Below.setCell ?_ (by first | exact Nat.le_refl _ | (simp; done) | omega | (simp; omega)) _ | refine Below.alloc ?_ (by first | (simp; done) | omega | (simp; omega)) _))⟩
  · have he : ((La : Int) != (Lb : Int)) = true := by rw [bne_iff_ne]; omega
    go_enter Try.func9, Try.ntmps9
    go_wp2_with fail
    exact bodyPost_ret (v := .tuple #[.slice none 0 0, .agg #[.bool false, .bool false, .bool false, .bool false], .int .i64 5]) (by simp [results, Try.results9, go_sem]) rfl ⟨rfl, (by repeat (first | exact Below.refl _ _ | refine Below.setCell ?_ (by first | exact Nat.le_refl _ | (simp; done) | omega | (simp; omega)) _ | refine Below.alloc ?_ (by first | (simp; done) | omega | (simp; omega)) _))⟩
end Go.Proofs.Ytmjnihepgglbdaa
