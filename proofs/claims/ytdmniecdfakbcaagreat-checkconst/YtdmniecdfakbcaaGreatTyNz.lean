/-
  Types of numbers: how a type is written.
-/
import Derived.Test.YtdmniecdfakbcaaGreatTyAz
import Derived.Test.YtdmniecdfakbcaaGreatTyEz
import Derived.Test.YtdmniecdfakbcaaGreatTyCz
import Derived.Test.YtdmniecdfakbcaaGreatR7B
namespace Go.Proofs.YtdmniecdfakbcaaGreat
open Go.RowKit
set_option linter.unusedSimpArgs false
set_option linter.unusedVariables false

/-- How a type of numbers is written. -/
def dgT (b : Int) : Array UInt8 := if b = 8 then #[56] else if b = 16 then #[49, 54] else if b = 32 then #[51, 50] else #[54, 52]
def nmT (b : Int) (s : Bool) : ByteArray := (if s = true then ⟨#[105]⟩ else ⟨#[117]⟩) ++ ⟨dgT b⟩
end Go.Proofs.YtdmniecdfakbcaaGreat

/-
  Types of numbers: the closed fact that each statement asks first.
-/
namespace Go.Proofs.YtdmniecdfakbcaaGreat
open Go.RowKit
set_option linter.unusedSimpArgs false
set_option linter.unusedVariables false

theorem bin_260 (w : World) : Calls Tryz.prog 53 #[.int .i64 12, .int .u64 250, .int .u64 10, .agg #[.int .i64 8, .bool false], .agg #[.int .i64 8, .bool false]] w fun e w' => e = .returned (.tuple #[.int .u64 260, .int .i64 0]) ∧ Below w.heap.size w w' := by
  have h := binary_work 12 250 10 8 8 false false w (.inr (.inr (.inr (.inl rfl)))) (.inl rfl) (.inl rfl) ⟨by decide, by decide⟩ ⟨by decide, by decide⟩
  have e : wrk 12 (cs 8 false 8 false) (cb 8 8) (conv 250 8 false (cb 8 8)) (conv 10 8 false (cb 8 8)) = (260, 0) := by decide +kernel
  rw [e] at h
  exact h
theorem nm_u32 : nmT 32 false = ⟨#[117, 51, 50]⟩ := by kernel_rfl
theorem Tri.new' {w w1 : World} {T : TypeId} {a0 a1 b0 b1 c0 c1 : Value} (k : Below (((w.alloc (.cells #[a0, a1] T)).alloc (.cells #[b0, b1] T)).alloc (.cells #[c0, c1] T)).heap.size (((w.alloc (.cells #[a0, a1] T)).alloc (.cells #[b0, b1] T)).alloc (.cells #[c0, c1] T)) w1) : Tri w w1 a0 a1 b0 b1 c0 c1 := by
  have h1 := below_a w (.cells #[a0, a1] T)
  have h2 := below_a (w.alloc (.cells #[a0, a1] T)) (.cells #[b0, b1] T)
  have h3 := below_a ((w.alloc (.cells #[a0, a1] T)).alloc (.cells #[b0, b1] T)) (.cells #[c0, c1] T)
  have A := Box.new w #[a0, a1] T
  have B := Box.new (w.alloc (.cells #[a0, a1] T)) #[b0, b1] T
  have C := Box.new ((w.alloc (.cells #[a0, a1] T)).alloc (.cells #[b0, b1] T)) #[c0, c1] T
  simp only [World.size_alloc] at B C
  exact ⟨bT h1 (bT h2 (bT h3 k)), ((A.step h2).step h3).step k, (B.step h3).step k, C.step k⟩
theorem Tri.more {w w3 : World} {T : TypeId} {a0 a1 b0 b1 c0 c1 u v : Value} (h : Tri w w3 a0 a1 b0 b1 c0 c1) : Tri w (w3.alloc (.cells #[u, v] T)) a0 a1 b0 b1 c0 c1 ∧ Box (w3.alloc (.cells #[u, v] T)) w3.heap.size [u, v] := ⟨h.step (below_a _ _), Box.new w3 #[u, v] T⟩

/-- What holds of common types. -/
structure Cm (a : Int) (s : Bool) (b : Int) (t : Bool) (c : Int) (u : Bool) : Prop where
  c1 : cb b a = cb a b
  c2 : cs b t a s = cs a s b t
  i1 : cb (cb a b) (cb a b) = cb a b
  i2 : cs (cb a b) (cs a s b t) (cb a b) (cs a s b t) = cs a s b t
  l1 : cb (cb a b) a = cb a b
  l2 : cs (cb a b) (cs a s b t) a s = cs a s b t
  r1 : cb (cb a b) b = cb a b
  r2 : cs (cb a b) (cs a s b t) b t = cs a s b t
  g1 : a ≤ cb a b
  g2 : b ≤ cb a b
  g3 : 16 ≤ cb a b
  p : (cb a b = pb a ∧ cs a s b t = ps a s) ∨ (cb a b = pb b ∧ cs a s b t = ps b t)
  a1 : cb (cb a b) c = cb a (cb b c)
  a2 : cs (cb a b) (cs a s b t) c u = cs a s (cb b c) (cs b t c u)
theorem cm_dec : ∀ a ∈ [(8 : Int), 16, 32, 64], ∀ s : Bool, ∀ b ∈ [(8 : Int), 16, 32, 64], ∀ t : Bool, ∀ c ∈ [(8 : Int), 16, 32, 64], ∀ u : Bool,
    (cb b a = cb a b ∧ cs b t a s = cs a s b t ∧ cb (cb a b) (cb a b) = cb a b ∧ cs (cb a b) (cs a s b t) (cb a b) (cs a s b t) = cs a s b t) ∧ (cb (cb a b) a = cb a b ∧ cs (cb a b) (cs a s b t) a s = cs a s b t ∧ cb (cb a b) b = cb a b ∧ cs (cb a b) (cs a s b t) b t = cs a s b t) ∧ (a ≤ cb a b ∧ b ≤ cb a b ∧ 16 ≤ cb a b) ∧ ((cb a b = pb a ∧ cs a s b t = ps a s) ∨ (cb a b = pb b ∧ cs a s b t = ps b t)) ∧ cb (cb a b) c = cb a (cb b c) ∧ cs (cb a b) (cs a s b t) c u = cs a s (cb b c) (cs b t c u) := by decide +kernel
theorem isW_mem {a : Int} (h : IsW a) : a ∈ [(8 : Int), 16, 32, 64] := by rcases h with rfl | rfl | rfl | rfl <;> decide
theorem cm_all {a b c : Int} (ha : IsW a) (hb : IsW b) (hc : IsW c) (s t u : Bool) : Cm a s b t c u := by
  obtain ⟨⟨x1, x2, x3, x4⟩, ⟨x5, x6, x7, x8⟩, ⟨x9, x10, x11⟩, x12, x13, x14⟩ := cm_dec a (isW_mem ha) s b (isW_mem hb) t c (isW_mem hc) u
  exact ⟨x1, x2, x3, x4, x5, x6, x7, x8, x9, x10, x11, x12, x13, x14⟩
end Go.Proofs.YtdmniecdfakbcaaGreat

/-
  Types of numbers: Words and Result, the program's and the document's.
-/
namespace Go.Proofs.YtdmniecdfakbcaaGreat
open Go.RowKit
set_option linter.unusedSimpArgs false
set_option linter.unusedVariables false

def wds (b : Int) : Int := if b = 8 then 1 else if b = 16 then 1 else if b = 32 then 2 else 4
def rb (k a b : Int) : Int := if shB k = true then pb a else if cpB k = true then 16 else cb a b
def rs (k a : Int) (s : Bool) (b : Int) (t : Bool) : Bool := if shB k = true then ps a s else if cpB k = true then true else cs a s b t
theorem Tri.put' {w w1 : World} {a0 a1 b0 b1 c0 c1 : Value} (h : Tri w w1 a0 a1 b0 b1 c0 c1) (u v : Value) : Below w.heap.size w ((w1.setCell ⟨w.heap.size + 1 + 1, 0, none⟩ u).setCell ⟨w.heap.size + 1 + 1, 1, none⟩ v) := below_2 h.bel (by omega) _ _
set_option maxHeartbeats 2000000 in
theorem result_any (k a : Int) (s : Bool) (b : Int) (t : Bool) (w : World) : Calls Tryz.prog 54 #[.int .i64 k, .agg #[.int .i64 a, .bool s], .agg #[.int .i64 b, .bool t]] w fun e w' => e = .returned (.agg #[.int .i64 (rb k a b), .bool (rs k a s b t)]) ∧ Below w.heap.size w w' := by
  have SH := hide (fun (w : World) => shifts_any k w)
  have CP := hide (fun (w : World) => compares_any k w)
  unfold rb rs
  have R := hide (Tri.new' (w := w) (T := 24) (a0 := .int .i64 a) (a1 := .bool s) (b0 := .int .i64 b) (b1 := .bool t) (c0 := .int .i64 0) (c1 := .bool false) (Below.refl _ _))
  by_cases h1 : shB k = true
  · rw [if_pos h1, if_pos h1]
    rw [h1] at SH
    go_enter Tryz.func54, Tryz.ntmps54
    go_wp2_with fail
    generalize ((w.alloc (.cells #[.int .i64 a, .bool s] 24)).alloc (.cells #[.int .i64 b, .bool t] 24)).alloc (.cells #[.int .i64 0, .bool false] 24) = w1 at *
    refine (unhide SH _).mono ?_
    rintro e w' ⟨rfl, hw⟩
    subst w'
    obtain ⟨x0, x1⟩ := (unhide R).A.at2
    go_wp2_with fail
    refine (promote_any a s w1).mono ?_
    rintro e w2 ⟨rfl, k2⟩
    have R' := hide ((unhide R).step k2)
    clear R k2 x0 x1
    have R := R'
    clear R'
    obtain ⟨x0, x1⟩ := (unhide R).A.at2
    obtain ⟨x2, x3⟩ := (unhide R).B.at2
    obtain ⟨x4, x5⟩ := (unhide R).C.at2
    have xf := (unhide R).C.2.2
    have p0 := (unhide R).C.put0
    have p1 := (unhide R).C.put1
    go_wp2_with fail
    exact bodyPost_ret (v := .agg #[.int .i64 (pb a), .bool (ps a s)]) (by simp [results, Tryz.results54, go_sem, p0, p1]) rfl ⟨rfl, (unhide R).put' _ _⟩
  · rw [if_neg h1, if_neg h1]
    have h1' : shB k = false := by simpa using h1
    rw [h1'] at SH
    by_cases h2 : cpB k = true
    · rw [if_pos h2, if_pos h2]
      rw [h2] at CP
      go_enter Tryz.func54, Tryz.ntmps54
      go_wp2_with fail
      generalize ((w.alloc (.cells #[.int .i64 a, .bool s] 24)).alloc (.cells #[.int .i64 b, .bool t] 24)).alloc (.cells #[.int .i64 0, .bool false] 24) = w1 at *
      refine (unhide SH _).mono ?_
      rintro e w' ⟨rfl, hw⟩
      subst w'
      go_wp2_with fail
      refine (unhide CP _).mono ?_
      rintro e w' ⟨rfl, hw⟩
      subst w'
      go_wp2_with fail
      refine (i16_any w1).mono ?_
      rintro e w2 ⟨rfl, k2⟩
      have R' := hide ((unhide R).step k2)
      clear R k2
      have R := R'
      clear R'
      obtain ⟨x0, x1⟩ := (unhide R).A.at2
      obtain ⟨x2, x3⟩ := (unhide R).B.at2
      obtain ⟨x4, x5⟩ := (unhide R).C.at2
      have xf := (unhide R).C.2.2
      have p0 := (unhide R).C.put0
      have p1 := (unhide R).C.put1
      go_wp2_with fail
      exact bodyPost_ret (v := .agg #[.int .i64 16, .bool true]) (by simp [results, Tryz.results54, go_sem, p0, p1]) rfl ⟨rfl, (unhide R).put' _ _⟩
    · rw [if_neg h2, if_neg h2]
      have h2' : cpB k = false := by simpa using h2
      rw [h2'] at CP
      go_enter Tryz.func54, Tryz.ntmps54
      go_wp2_with fail
      generalize ((w.alloc (.cells #[.int .i64 a, .bool s] 24)).alloc (.cells #[.int .i64 b, .bool t] 24)).alloc (.cells #[.int .i64 0, .bool false] 24) = w1 at *
      refine (unhide SH _).mono ?_
      rintro e w' ⟨rfl, hw⟩
      subst w'
      go_wp2_with fail
      refine (unhide CP _).mono ?_
      rintro e w' ⟨rfl, hw⟩
      subst w'
      obtain ⟨x0, x1⟩ := (unhide R).A.at2
      obtain ⟨x2, x3⟩ := (unhide R).B.at2
      go_wp2_with fail
      refine (common_any a s b t w1).mono ?_
      rintro e w2 ⟨rfl, k2⟩
      have R' := hide ((unhide R).step k2)
      clear R k2 x0 x1 x2 x3
      have R := R'
      clear R'
      obtain ⟨x0, x1⟩ := (unhide R).A.at2
      obtain ⟨x2, x3⟩ := (unhide R).B.at2
      obtain ⟨x4, x5⟩ := (unhide R).C.at2
      have xf := (unhide R).C.2.2
      have p0 := (unhide R).C.put0
      have p1 := (unhide R).C.put1
      go_wp2_with fail
      exact bodyPost_ret (v := .agg #[.int .i64 (cb a b), .bool (cs a s b t)]) (by simp [results, Tryz.results54, go_sem, p0, p1]) rfl ⟨rfl, (unhide R).put' _ _⟩
set_option maxHeartbeats 2000000 in
theorem rresult_any (k a : Int) (s : Bool) (b : Int) (t : Bool) (w : World) : Calls Tryz.prog 18 #[.int .i64 k, .agg #[.int .i64 a, .bool s], .agg #[.int .i64 b, .bool t]] w fun e w' => e = .returned (.agg #[.int .i64 (rb k a b), .bool (rs k a s b t)]) ∧ Below w.heap.size w w' := by
  unfold rb rs
  have R := hide (Tri.new' (w := w) (T := 24) (a0 := .int .i64 a) (a1 := .bool s) (b0 := .int .i64 b) (b1 := .bool t) (c0 := .int .i64 0) (c1 := .bool false) (Below.refl _ _))
  by_cases h1 : shB k = true
  · rw [if_pos h1, if_pos h1]
    have hk : k = 14 ∨ k = 15 := by unfold shB at h1; simpa using h1
    rcases hk with rfl | rfl
    all_goals
      go_enter Tryz.func18, Tryz.ntmps18
      go_wp2_with fail
      generalize ((w.alloc (.cells #[.int .i64 a, .bool s] 24)).alloc (.cells #[.int .i64 b, .bool t] 24)).alloc (.cells #[.int .i64 0, .bool false] 24) = w1 at *
      refine (rwide_any a s w1).mono ?_
      rintro e w2 ⟨rfl, k2⟩
      have R' := hide ((unhide R).step k2)
      clear R k2
      have R := R'
      clear R'
      obtain ⟨x0, x1⟩ := (unhide R).A.at2
      obtain ⟨x2, x3⟩ := (unhide R).B.at2
      obtain ⟨x4, x5⟩ := (unhide R).C.at2
      have xf := (unhide R).C.2.2
      have p0 := (unhide R).C.put0
      have p1 := (unhide R).C.put1
      go_wp2_with fail
      exact bodyPost_ret (v := .agg #[.int .i64 (pb a), .bool (ps a s)]) (by simp [results, Tryz.results18, go_sem, p0, p1]) rfl ⟨rfl, (unhide R).put' _ _⟩
  · rw [if_neg h1, if_neg h1]
    have h1' : ¬ (k = 14 ∨ k = 15) := by unfold shB at h1; simpa using h1
    have n1 : (k == 14) = false := beq_eq_false_iff_ne.2 (by omega)
    have n2 : (k == 15) = false := beq_eq_false_iff_ne.2 (by omega)
    by_cases h2 : cpB k = true
    · rw [if_pos h2, if_pos h2]
      have hk : 16 ≤ k ∧ k ≤ 21 := by unfold cpB at h2; simpa using h2
      have hk' : k = 16 ∨ k = 17 ∨ k = 18 ∨ k = 19 ∨ k = 20 ∨ k = 21 := by omega
      clear h1 h1' h2 hk n1 n2
      rcases hk' with rfl | rfl | rfl | rfl | rfl | rfl
      all_goals
        go_enter Tryz.func18, Tryz.ntmps18
        go_wp2_with fail
        exact bodyPost_ret (v := .agg #[.int .i64 16, .bool true]) (by simp [results, Tryz.results18, go_sem]) rfl ⟨rfl, (by repeat (first | exact (Below.refl _ _) | refine Below.setCell ?_ (by first | exact Nat.le_refl _ | (simp; done) | omega | (simp; omega)) _ | refine Below.alloc ?_ (by first | (simp; done) | omega | (simp; omega)) _))⟩
    · rw [if_neg h2, if_neg h2]
      have hk : ¬ (16 ≤ k ∧ k ≤ 21) := by unfold cpB at h2; simpa using h2
      have m1 : (k == 16) = false := beq_eq_false_iff_ne.2 (by omega)
      have m2 : (k == 17) = false := beq_eq_false_iff_ne.2 (by omega)
      have m3 : (k == 18) = false := beq_eq_false_iff_ne.2 (by omega)
      have m4 : (k == 19) = false := beq_eq_false_iff_ne.2 (by omega)
      have m5 : (k == 20) = false := beq_eq_false_iff_ne.2 (by omega)
      have m6 : (k == 21) = false := beq_eq_false_iff_ne.2 (by omega)
      clear h1 h1' h2 hk
      go_enter Tryz.func18, Tryz.ntmps18
      go_wp2_with fail
      generalize ((w.alloc (.cells #[.int .i64 a, .bool s] 24)).alloc (.cells #[.int .i64 b, .bool t] 24)).alloc (.cells #[.int .i64 0, .bool false] 24) = w1 at *
      refine (rcommon_any a s b t w1).mono ?_
      rintro e w2 ⟨rfl, k2⟩
      have R' := hide ((unhide R).step k2)
      clear R k2
      have R := R'
      clear R'
      obtain ⟨x0, x1⟩ := (unhide R).A.at2
      obtain ⟨x2, x3⟩ := (unhide R).B.at2
      obtain ⟨x4, x5⟩ := (unhide R).C.at2
      have xf := (unhide R).C.2.2
      have p0 := (unhide R).C.put0
      have p1 := (unhide R).C.put1
      go_wp2_with fail
      exact bodyPost_ret (v := .agg #[.int .i64 (cb a b), .bool (cs a s b t)]) (by simp [results, Tryz.results18, go_sem, p0, p1]) rfl ⟨rfl, (unhide R).put' _ _⟩
end Go.Proofs.YtdmniecdfakbcaaGreat
