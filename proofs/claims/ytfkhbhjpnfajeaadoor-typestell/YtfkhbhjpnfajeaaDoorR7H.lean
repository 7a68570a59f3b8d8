/-
  Types of numbers: Words and Result, the program's and the document's.
-/
import Derived.Test.YtfkhbhjpnfajeaaDoorTyD
import Derived.Test.YtfkhbhjpnfajeaaDoorTyL
import Derived.Test.YtfkhbhjpnfajeaaDoorR7B
namespace Go.Proofs.YtfkhbhjpnfajeaaDoor
open Go.RowKit
set_option linter.unusedSimpArgs false
set_option linter.unusedVariables false

def wds (b : Int) : Int := if b = 8 then 1 else if b = 16 then 1 else if b = 32 then 2 else 4
theorem twords_any (b : Int) (s : Bool) (w : World) (h : IsW b) : Calls Tryd.prog 18 #[.agg #[.int .i64 b, .bool s]] w fun e w' => e = .returned (.int .i64 (wds b)) ∧ Below w.heap.size w w' := by
  rcases h with rfl | rfl | rfl | rfl
  all_goals
    go_enter Tryd.func18, Tryd.ntmps18
    go_wp2
    go_ret
    exact ⟨by kernel_rfl, below_a _ _⟩

/-- The type of what an operator makes. -/
def rb (k a b : Int) : Int := if shB k = true then pb a else if cpB k = true then 16 else cb a b
def rs (k a : Int) (s : Bool) (b : Int) (t : Bool) : Bool := if shB k = true then ps a s else if cpB k = true then true else cs a s b t
theorem Tri.put' {w w1 : World} {a0 a1 b0 b1 c0 c1 : Value} (h : Tri w w1 a0 a1 b0 b1 c0 c1) (u v : Value) : Below w.heap.size w ((w1.setCell ⟨w.heap.size + 1 + 1, 0, none⟩ u).setCell ⟨w.heap.size + 1 + 1, 1, none⟩ v) := below_2 h.bel (by omega) _ _
set_option maxHeartbeats 2000000 in
theorem result_any (k a : Int) (s : Bool) (b : Int) (t : Bool) (w : World) : Calls Tryd.prog 21 #[.int .i64 k, .agg #[.int .i64 a, .bool s], .agg #[.int .i64 b, .bool t]] w fun e w' => e = .returned (.agg #[.int .i64 (rb k a b), .bool (rs k a s b t)]) ∧ Below w.heap.size w w' := by
  have SH := hide (fun (w : World) => shifts_any k w)
  have CP := hide (fun (w : World) => compares_any k w)
  unfold rb rs
  have R := hide (Tri.new' (w := w) (T := 23) (a0 := .int .i64 a) (a1 := .bool s) (b0 := .int .i64 b) (b1 := .bool t) (c0 := .int .i64 0) (c1 := .bool false) (Below.refl _ _))
  by_cases h1 : shB k = true
  · rw [if_pos h1, if_pos h1]
    rw [h1] at SH
    go_enter Tryd.func21, Tryd.ntmps21
    go_wp2_with fail
    generalize ((w.alloc (.cells #[.int .i64 a, .bool s] 23)).alloc (.cells #[.int .i64 b, .bool t] 23)).alloc (.cells #[.int .i64 0, .bool false] 23) = w1 at *
    refine (unhide SH _).mono ?_
    rintro e w' ⟨rfl, hw⟩
    subst w'
    obtain ⟨x0, x1⟩ := (unhide R).A.at2
    go_wp2_with fail
    refine (promote_any a s w1).mono ?_
    rintro e w2 ⟨rfl, k2⟩
    have R' := hide ((unhide R).step k2)
    clear R k2 x0 x1
    have R := R'
    clear R'
    obtain ⟨x0, x1⟩ := (unhide R).A.at2
    obtain ⟨x2, x3⟩ := (unhide R).B.at2
    obtain ⟨x4, x5⟩ := (unhide R).C.at2
    have xf := (unhide R).C.2.2
    have p0 := (unhide R).C.put0
    have p1 := (unhide R).C.put1
    go_wp2_with fail
    exact bodyPost_ret (v := .agg #[.int .i64 (pb a), .bool (ps a s)]) (by simp [results, Tryd.results21, go_sem, p0, p1]) rfl ⟨rfl, (unhide R).put' _ _⟩
  · rw [if_neg h1, if_neg h1]
    have h1' : shB k = false := by simpa using h1
    rw [h1'] at SH
    by_cases h2 : cpB k = true
    · rw [if_pos h2, if_pos h2]
      rw [h2] at CP
      go_enter Tryd.func21, Tryd.ntmps21
      go_wp2_with fail
      generalize ((w.alloc (.cells #[.int .i64 a, .bool s] 23)).alloc (.cells #[.int .i64 b, .bool t] 23)).alloc (.cells #[.int .i64 0, .bool false] 23) = w1 at *
      refine (unhide SH _).mono ?_
      rintro e w' ⟨rfl, hw⟩
      subst w'
      go_wp2_with fail
      refine (unhide CP _).mono ?_
      rintro e w' ⟨rfl, hw⟩
      subst w'
      go_wp2_with fail
      refine (i16_any w1).mono ?_
      rintro e w2 ⟨rfl, k2⟩
      have R' := hide ((unhide R).step k2)
      clear R k2
      have R := R'
      clear R'
      obtain ⟨x0, x1⟩ := (unhide R).A.at2
      obtain ⟨x2, x3⟩ := (unhide R).B.at2
      obtain ⟨x4, x5⟩ := (unhide R).C.at2
      have xf := (unhide R).C.2.2
      have p0 := (unhide R).C.put0
      have p1 := (unhide R).C.put1
      go_wp2_with fail
      exact bodyPost_ret (v := .agg #[.int .i64 16, .bool true]) (by simp [results, Tryd.results21, go_sem, p0, p1]) rfl ⟨rfl, (unhide R).put' _ _⟩
    · rw [if_neg h2, if_neg h2]
      have h2' : cpB k = false := by simpa using h2
      rw [h2'] at CP
      go_enter Tryd.func21, Tryd.ntmps21
      go_wp2_with fail
      generalize ((w.alloc (.cells #[.int .i64 a, .bool s] 23)).alloc (.cells #[.int .i64 b, .bool t] 23)).alloc (.cells #[.int .i64 0, .bool false] 23) = w1 at *
      refine (unhide SH _).mono ?_
      rintro e w' ⟨rfl, hw⟩
      subst w'
      go_wp2_with fail
      refine (unhide CP _).mono ?_
      rintro e w' ⟨rfl, hw⟩
      subst w'
      obtain ⟨x0, x1⟩ := (unhide R).A.at2
      obtain ⟨x2, x3⟩ := (unhide R).B.at2
      go_wp2_with fail
      refine (common_any a s b t w1).mono ?_
      rintro e w2 ⟨rfl, k2⟩
      have R' := hide ((unhide R).step k2)
      clear R k2 x0 x1 x2 x3
      have R := R'
      clear R'
      obtain ⟨x0, x1⟩ := (unhide R).A.at2
      obtain ⟨x2, x3⟩ := (unhide R).B.at2
      obtain ⟨x4, x5⟩ := (unhide R).C.at2
      have xf := (unhide R).C.2.2
      have p0 := (unhide R).C.put0
      have p1 := (unhide R).C.put1
      go_wp2_with fail
      exact bodyPost_ret (v := .agg #[.int .i64 (cb a b), .bool (cs a s b t)]) (by simp [results, Tryd.results21, go_sem, p0, p1]) rfl ⟨rfl, (unhide R).put' _ _⟩
set_option maxHeartbeats 2000000 in
theorem rresult_any (k a : Int) (s : Bool) (b : Int) (t : Bool) (w : World) : Calls Tryd.prog 22 #[.int .i64 k, .agg #[.int .i64 a, .bool s], .agg #[.int .i64 b, .bool t]] w fun e w' => e = .returned (.agg #[.int .i64 (rb k a b), .bool (rs k a s b t)]) ∧ Below w.heap.size w w' := by
  unfold rb rs
  have R := hide (Tri.new' (w := w) (T := 23) (a0 := .int .i64 a) (a1 := .bool s) (b0 := .int .i64 b) (b1 := .bool t) (c0 := .int .i64 0) (c1 := .bool false) (Below.refl _ _))
  by_cases h1 : shB k = true
  · rw [if_pos h1, if_pos h1]
    have hk : k = 14 ∨ k = 15 := by unfold shB at h1; simpa using h1
    rcases hk with rfl | rfl
    all_goals
      go_enter Tryd.func22, Tryd.ntmps22
      go_wp2_with fail
      generalize ((w.alloc (.cells #[.int .i64 a, .bool s] 23)).alloc (.cells #[.int .i64 b, .bool t] 23)).alloc (.cells #[.int .i64 0, .bool false] 23) = w1 at *
      refine (rwide_any a s w1).mono ?_
      rintro e w2 ⟨rfl, k2⟩
      have R' := hide ((unhide R).step k2)
      clear R k2
      have R := R'
      clear R'
      obtain ⟨x0, x1⟩ := (unhide R).A.at2
      obtain ⟨x2, x3⟩ := (unhide R).B.at2
      obtain ⟨x4, x5⟩ := (unhide R).C.at2
      have xf := (unhide R).C.2.2
      have p0 := (unhide R).C.put0
      have p1 := (unhide R).C.put1
      go_wp2_with fail
      exact bodyPost_ret (v := .agg #[.int .i64 (pb a), .bool (ps a s)]) (by simp [results, Tryd.results22, go_sem, p0, p1]) rfl ⟨rfl, (unhide R).put' _ _⟩
  · rw [if_neg h1, if_neg h1]
    have h1' : ¬ (k = 14 ∨ k = 15) := by unfold shB at h1; simpa using h1
    have n1 : (k == 14) = false := beq_eq_false_iff_ne.2 (by omega)
    have n2 : (k == 15) = false := beq_eq_false_iff_ne.2 (by omega)
    by_cases h2 : cpB k = true
    · rw [if_pos h2, if_pos h2]
      have hk : 16 ≤ k ∧ k ≤ 21 := by unfold cpB at h2; simpa using h2
      have hk' : k = 16 ∨ k = 17 ∨ k = 18 ∨ k = 19 ∨ k = 20 ∨ k = 21 := by omega
      clear h1 h1' h2 hk n1 n2
      rcases hk' with rfl | rfl | rfl | rfl | rfl | rfl
      all_goals
        go_enter Tryd.func22, Tryd.ntmps22
        go_wp2_with fail
        exact bodyPost_ret (v := .agg #[.int .i64 16, .bool true]) (by simp [results, Tryd.results22, go_sem]) rfl ⟨rfl, (by repeat (first | exact (Below.refl _ _) | refine Below.setCell ?_ (by first | exact Nat.le_refl _ | (simp; done) | omega | (simp; omega)) _ | refine Below.alloc ?_ (by first | (simp; done) | omega | (simp; omega)) _))⟩
    · rw [if_neg h2, if_neg h2]
      have hk : ¬ (16 ≤ k ∧ k ≤ 21) := by unfold cpB at h2; simpa using h2
      have m1 : (k == 16) = false := beq_eq_false_iff_ne.2 (by omega)
      have m2 : (k == 17) = false := beq_eq_false_iff_ne.2 (by omega)
      have m3 : (k == 18) = false := beq_eq_false_iff_ne.2 (by omega)
      have m4 : (k == 19) = false := beq_eq_false_iff_ne.2 (by omega)
      have m5 : (k == 20) = false := beq_eq_false_iff_ne.2 (by omega)
      have m6 : (k == 21) = false := beq_eq_false_iff_ne.2 (by omega)
      clear h1 h1' h2 hk
      go_enter Tryd.func22, Tryd.ntmps22
      go_wp2_with fail
      generalize ((w.alloc (.cells #[.int .i64 a, .bool s] 23)).alloc (.cells #[.int .i64 b, .bool t] 23)).alloc (.cells #[.int .i64 0, .bool false] 23) = w1 at *
      refine (rcommon_any a s b t w1).mono ?_
      rintro e w2 ⟨rfl, k2⟩
      have R' := hide ((unhide R).step k2)
      clear R k2
      have R := R'
      clear R'
      obtain ⟨x0, x1⟩ := (unhide R).A.at2
      obtain ⟨x2, x3⟩ := (unhide R).B.at2
      obtain ⟨x4, x5⟩ := (unhide R).C.at2
      have xf := (unhide R).C.2.2
      have p0 := (unhide R).C.put0
      have p1 := (unhide R).C.put1
      go_wp2_with fail
      exact bodyPost_ret (v := .agg #[.int .i64 (cb a b), .bool (cs a s b t)]) (by simp [results, Tryd.results22, go_sem, p0, p1]) rfl ⟨rfl, (unhide R).put' _ _⟩
end Go.Proofs.YtfkhbhjpnfajeaaDoor
