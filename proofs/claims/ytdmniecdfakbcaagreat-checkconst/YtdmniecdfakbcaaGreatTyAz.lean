/-
  Types of numbers: what Valid, Promote, Common and Convert answer; nothing that was there has turned.
-/
import Derived.Test.YtdmniecdfakbcaaGreatPlainz
import Derived.Test.YtdmniecdfakbcaaGreatDiv
import Derived.Test.YtdmniecdfakbcaaGreatChecked
import Derived.Test.YtdmniecdfakbcaaGreatMem
import Derived.Test.YtdmniecdfakbcaaGreatReg
import Derived.BigRegion
import Derived.Deep.DeepCutAuto
namespace Go.Proofs.YtdmniecdfakbcaaGreat
open Go.RowKit
set_option linter.unusedSimpArgs false
set_option linter.unusedVariables false

theorem bT {u v x : World} (k1 : Below u.heap.size u v) (k2 : Below v.heap.size v x) : Below u.heap.size u x := k1.trans (k2.mono k1.size)

theorem Box.put0 {w : World} {b : Nat} {x y : Value} (h : Box w b [x, y]) (u : Value) : (w.setCell ⟨b, 0, none⟩ u).cell? ⟨b, 0, none⟩ = some u := (h.set (j := 0) (u := u) (by simp)).2.1 0 _ rfl
theorem Box.put1 {w : World} {b : Nat} {x y : Value} (h : Box w b [x, y]) (u v : Value) : ((w.setCell ⟨b, 0, none⟩ u).setCell ⟨b, 1, none⟩ v).cell? ⟨b, 1, none⟩ = some v := ((h.set (j := 0) (u := u) (by simp)).set (j := 1) (u := v) (by simp)).2.1 1 _ rfl
theorem Box.put {w : World} {b : Nat} {x y : Value} (h : Box w b [x, y]) (u v : Value) : Box ((w.setCell ⟨b, 0, none⟩ u).setCell ⟨b, 1, none⟩ v) b [u, v] := (h.set (j := 0) (u := u) (by simp)).set (j := 1) (u := v) (by simp)

theorem tvalid_yes (b : Int) (s : Bool) (w : World) (h : IsW b) : Calls Tryz.prog 72 #[.agg #[.int .i64 b, .bool s]] w fun e w' => e = .returned (.bool true) ∧ Below w.heap.size w w' := by
  go_enter Tryz.func72, Tryz.ntmps72
  go_wp2_with (go_at_call 95; refine (width_yes _ h _).mono ?_; rintro e w' ⟨rfl, rfl⟩)
  go_ret
  exact ⟨rfl, below_a _ _⟩
theorem tvalid_no (b : Int) (s : Bool) (w : World) (h : NoW b) : Calls Tryz.prog 72 #[.agg #[.int .i64 b, .bool s]] w fun e w' => e = .returned (.bool false) ∧ Below w.heap.size w w' := by
  go_enter Tryz.func72, Tryz.ntmps72
  go_wp2_with (go_at_call 95; refine (width_no _ _ h).mono ?_; rintro e w' ⟨rfl, rfl⟩)
  go_ret
  exact ⟨rfl, below_a _ _⟩

theorem i16_any (w : World) : Calls Tryz.prog 77 #[] w fun e w' => e = .returned (.agg #[.int .i64 16, .bool true]) ∧ Below w.heap.size w w' := by
  go_enter Tryz.func77, Tryz.ntmps77
  go_wp2
  exact bodyPost_ret (v := .agg #[.int .i64 16, .bool true]) (by simp [results, Tryz.results77, go_sem]) rfl ⟨rfl, (by repeat (first | exact (Below.refl _ _) | refine Below.setCell ?_ (by first | exact Nat.le_refl _ | (simp; done) | omega | (simp; omega)) _ | refine Below.alloc ?_ (by first | (simp; done) | omega | (simp; omega)) _))⟩

/-- A type made as wide as a word. -/
def pb (b : Int) : Int := if b < 16 then 16 else b
def ps (b : Int) (s : Bool) : Bool := if b < 16 then true else s
theorem promote_any (b : Int) (s : Bool) (w : World) : Calls Tryz.prog 75 #[.agg #[.int .i64 b, .bool s]] w fun e w' => e = .returned (.agg #[.int .i64 (pb b), .bool (ps b s)]) ∧ Below w.heap.size w w' := by
  by_cases h : b < 16
  · have e1 : pb b = 16 := by unfold pb; rw [if_pos h]
    have e2 : ps b s = true := by unfold ps; rw [if_pos h]
    rw [e1, e2]
    have h0 : decide (b < 16) = true := by simpa using h
    clear e1 e2
    go_enter Tryz.func75, Tryz.ntmps75
    go_wp2_with (go_at_call 77; refine (i16_any _).mono ?_; rintro e w1 ⟨rfl, k1⟩; have B1 := hide (((Box.new (w.alloc (.cells #[.int .i64 b, .bool s] 24)) #[.int .i64 0, .bool false] 24)).step k1); obtain ⟨z0, z1⟩ := (unhide B1).at2; have zf := (unhide B1).2.2; have zl := (unhide B1).1; have p0 := (unhide B1).put0; have p1 := (unhide B1).put1; simp only [World.size_alloc] at z0 z1 zf zl p0 p1)
    exact bodyPost_ret (v := .agg #[.int .i64 16, .bool true]) (by simp [results, Tryz.results75, go_sem, p0, p1]) rfl ⟨rfl, (by repeat (first | exact (bT (below_a _ _) (bT (below_a _ _) k1)) | refine Below.setCell ?_ (by first | exact Nat.le_refl _ | (simp; done) | omega | (simp; omega)) _ | refine Below.alloc ?_ (by first | (simp; done) | omega | (simp; omega)) _))⟩
  · have e1 : pb b = b := by unfold pb; rw [if_neg h]
    have e2 : ps b s = s := by unfold ps; rw [if_neg h]
    rw [e1, e2]
    have h0 : decide (b < 16) = false := by simpa using h
    clear e1 e2
    go_enter Tryz.func75, Tryz.ntmps75
    go_wp2
    exact bodyPost_ret (v := .agg #[.int .i64 b, .bool s]) (by simp [results, Tryz.results75, go_sem]) rfl ⟨rfl, (by repeat (first | exact (Below.refl _ _) | refine Below.setCell ?_ (by first | exact Nat.le_refl _ | (simp; done) | omega | (simp; omega)) _ | refine Below.alloc ?_ (by first | (simp; done) | omega | (simp; omega)) _))⟩
end Go.Proofs.YtdmniecdfakbcaaGreat

/-
  Types of numbers: what Common answers.
-/
namespace Go.Proofs.YtdmniecdfakbcaaGreat
open Go.RowKit
set_option linter.unusedSimpArgs false
set_option linter.unusedVariables false

/-- Three small blocks made one behind the other, and all that came ahead as it was. -/
structure Tri (w wx : World) (a0 a1 b0 b1 c0 c1 : Value) : Prop where
  bel : Below w.heap.size w wx
  A : Box wx w.heap.size [a0, a1]
  B : Box wx (w.heap.size + 1) [b0, b1]
  C : Box wx (w.heap.size + 1 + 1) [c0, c1]
theorem Tri.new {w w1 : World} {T : TypeId} {a0 a1 b0 b1 c0 c1 : Value} (k : Below ((((w.alloc (.cells #[a0, a1] T)).alloc (.cells #[b0, b1] T)).alloc (.cells #[c0, c1] T)).drew).heap.size ((((w.alloc (.cells #[a0, a1] T)).alloc (.cells #[b0, b1] T)).alloc (.cells #[c0, c1] T)).drew) w1) : Tri w w1 a0 a1 b0 b1 c0 c1 := by
  have h1 := below_a w (.cells #[a0, a1] T)
  have h2 := below_a (w.alloc (.cells #[a0, a1] T)) (.cells #[b0, b1] T)
  have h3 := below_a ((w.alloc (.cells #[a0, a1] T)).alloc (.cells #[b0, b1] T)) (.cells #[c0, c1] T)
  have h4 := bT (Below.refl _ _).drew k
  have A := Box.new w #[a0, a1] T
  have B := Box.new (w.alloc (.cells #[a0, a1] T)) #[b0, b1] T
  have C := Box.new ((w.alloc (.cells #[a0, a1] T)).alloc (.cells #[b0, b1] T)) #[c0, c1] T
  simp only [World.size_alloc] at B C
  exact ⟨bT h1 (bT h2 (bT h3 h4)), ((A.step h2).step h3).step h4, (B.step h3).step h4, C.step h4⟩
theorem Tri.step {w w1 w2 : World} {a0 a1 b0 b1 c0 c1 : Value} (h : Tri w w1 a0 a1 b0 b1 c0 c1) (k : Below w1.heap.size w1 w2) : Tri w w2 a0 a1 b0 b1 c0 c1 := ⟨bT h.bel k, h.A.step k, h.B.step k, h.C.step k⟩
theorem Tri.putA {w w1 : World} {a0 a1 b0 b1 c0 c1 : Value} (h : Tri w w1 a0 a1 b0 b1 c0 c1) (u v : Value) : Tri w ((w1.setCell ⟨w.heap.size, 0, none⟩ u).setCell ⟨w.heap.size, 1, none⟩ v) u v b0 b1 c0 c1 :=
  ⟨below_2 h.bel (Nat.le_refl _) _ _, h.A.put u v, (h.B.other (by omega)).other (by omega), (h.C.other (by omega)).other (by omega)⟩
theorem Tri.putB {w w1 : World} {a0 a1 b0 b1 c0 c1 : Value} (h : Tri w w1 a0 a1 b0 b1 c0 c1) (u v : Value) : Tri w ((w1.setCell ⟨w.heap.size + 1, 0, none⟩ u).setCell ⟨w.heap.size + 1, 1, none⟩ v) a0 a1 u v c0 c1 :=
  ⟨below_2 h.bel (by omega) _ _, (h.A.other (by omega)).other (by omega), h.B.put u v, (h.C.other (by omega)).other (by omega)⟩

/-- The type in which two are reckoned. -/
def cb (a b : Int) : Int := if pb a < pb b then pb b else pb a
def cs (a : Int) (s : Bool) (b : Int) (t : Bool) : Bool := if pb b < pb a then ps a s else if pb a < pb b then ps b t else ps a s && ps b t
set_option maxHeartbeats 1000000 in
theorem common_any (a : Int) (s : Bool) (b : Int) (t : Bool) (w : World) : Calls Tryz.prog 81 #[.agg #[.int .i64 a, .bool s], .agg #[.int .i64 b, .bool t]] w fun e w' => e = .returned (.agg #[.int .i64 (cb a b), .bool (cs a s b t)]) ∧ Below w.heap.size w w' := by
  have e1 : Hid (cb a b = if pb a < pb b then pb b else pb a) := rfl
  have e2 : Hid (cs a s b t = if pb b < pb a then ps a s else if pb a < pb b then ps b t else ps a s && ps b t) := rfl
  have HA := hide (promote_any a s)
  have HB := hide (promote_any b t)
  generalize cb a b = X at *
  generalize cs a s b t = Y at *
  generalize pb a = A at *
  generalize pb b = B at *
  generalize ps a s = S at *
  generalize ps b t = T at *
  go_enter Tryz.func81, Tryz.ntmps81
  go_upto_region 1 with fail
  go_cut [5] (fun _ wx => Tri w wx (.int .i64 A) (.bool S) (.int .i64 B) (.bool T) (.int .i64 0) (.bool false))
  case first =>
    go_region_with (first | (go_at_call 75; have R := R1; refine (unhide HB _).mono ?_; rintro e w2 ⟨rfl, k2⟩; have R2 := hide ((unhide R).step k2); clear k2 R; obtain ⟨y0, y1⟩ := (unhide R2).A.at2; obtain ⟨y2, y3⟩ := (unhide R2).B.at2; have f2 := (unhide R2).A.2.2; have f3 := (unhide R2).B.2.2) | (go_at_call 75; refine (unhide HA _).mono ?_; rintro e w1 ⟨rfl, k1⟩; have R1 := hide (Tri.new k1); clear k1; obtain ⟨x0, x1⟩ := (unhide R1).A.at2; obtain ⟨x2, x3⟩ := (unhide R1).B.at2; have f0 := (unhide R1).A.2.2; have f1 := (unhide R1).B.2.2))
    all_goals (go_wp2_with fail; go_meet; exact ((unhide R2).putA _ _).putB _ _)
  case rest =>
    have M := hide hcut
    clear hcut
    obtain ⟨x0, x1⟩ := (unhide M).A.at2
    obtain ⟨x2, x3⟩ := (unhide M).B.at2
    obtain ⟨x4, x5⟩ := (unhide M).C.at2
    have f0 := (unhide M).A.2.2
    have f1 := (unhide M).B.2.2
    have f2 := (unhide M).C.2.2
    have p0 := (unhide M).C.put0
    have p1 := (unhide M).C.put1
    have hb := (unhide M).bel
    by_cases h1 : B < A
    · have d1 : decide (B < A) = true := by simpa using h1
      unfold Hid at e1 e2
      rw [if_neg (by omega)] at e1
      rw [if_pos h1] at e2
      subst e1 e2
      go_wp2_with fail
      exact bodyPost_ret (v := .agg #[.int .i64 X, .bool Y]) (by simp [results, Tryz.results81, go_sem, p0, p1]) rfl ⟨rfl, below_2 hb (by omega) _ _⟩
    · have d1 : decide (B < A) = false := by simpa using h1
      unfold Hid at e1 e2
      rw [if_neg h1] at e2
      by_cases h2 : A < B
      · have d2 : decide (A < B) = true := by simpa using h2
        rw [if_pos h2] at e1 e2
        subst e1 e2
        go_wp2_with fail
        exact bodyPost_ret (v := .agg #[.int .i64 X, .bool Y]) (by simp [results, Tryz.results81, go_sem, p0, p1]) rfl ⟨rfl, below_2 hb (by omega) _ _⟩
      · have d2 : decide (A < B) = false := by simpa using h2
        rw [if_neg h2] at e1 e2
        subst e1
        cases S
        · simp at e2
          subst e2
          go_wp2_with fail
          exact bodyPost_ret (v := .agg #[.int .i64 X, .bool false]) (by simp [results, Tryz.results81, go_sem, p0, p1]) rfl ⟨rfl, below_2 hb (by omega) _ _⟩
        · simp at e2
          subst e2
          go_wp2_with fail
          exact bodyPost_ret (v := .agg #[.int .i64 X, .bool Y]) (by simp [results, Tryz.results81, go_sem, p0, p1]) rfl ⟨rfl, below_2 hb (by omega) _ _⟩
end Go.Proofs.YtdmniecdfakbcaaGreat
