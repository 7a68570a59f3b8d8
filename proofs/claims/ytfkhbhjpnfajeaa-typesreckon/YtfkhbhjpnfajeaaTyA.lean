/-
  Types of numbers: what Valid, Promote, Common and Convert answer; nothing that was there has turned.
-/
import Derived.Test.YtfkhbhjpnfajeaaShift
import Derived.Test.YtfkhbhjpnfajeaaDiv
import Derived.Test.YtfkhbhjpnfajeaaMem
import Derived.Test.YtfkhbhjpnfajeaaReg
namespace Go.Proofs.Ytfkhbhjpnfajeaa
open Go.RowKit
set_option linter.unusedSimpArgs false
set_option linter.unusedVariables false

theorem bT {u v x : World} (k1 : Below u.heap.size u v) (k2 : Below v.heap.size v x) : Below u.heap.size u x := k1.trans (k2.mono k1.size)

theorem Box.put0 {w : World} {b : Nat} {x y : Value} (h : Box w b [x, y]) (u : Value) : (w.setCell ⟨b, 0, none⟩ u).cell? ⟨b, 0, none⟩ = some u := (h.set (j := 0) (u := u) (by simp)).2.1 0 _ rfl
theorem Box.put1 {w : World} {b : Nat} {x y : Value} (h : Box w b [x, y]) (u v : Value) : ((w.setCell ⟨b, 0, none⟩ u).setCell ⟨b, 1, none⟩ v).cell? ⟨b, 1, none⟩ = some v := ((h.set (j := 0) (u := u) (by simp)).set (j := 1) (u := v) (by simp)).2.1 1 _ rfl
theorem Box.put {w : World} {b : Nat} {x y : Value} (h : Box w b [x, y]) (u v : Value) : Box ((w.setCell ⟨b, 0, none⟩ u).setCell ⟨b, 1, none⟩ v) b [u, v] := (h.set (j := 0) (u := u) (by simp)).set (j := 1) (u := v) (by simp)

theorem tvalid_yes (b : Int) (s : Bool) (w : World) (h : IsW b) : Calls Try.prog 8 #[.agg #[.int .i64 b, .bool s]] w fun e w' => e = .returned (.bool true) ∧ Below w.heap.size w w' := by
  go_enter Try.func8, Try.ntmps8
  go_wp2_with (go_at_call 37; refine (width_yes _ h _).mono ?_; rintro e w' ⟨rfl, rfl⟩)
  go_ret
  exact ⟨rfl, below_a _ _⟩
theorem tvalid_no (b : Int) (s : Bool) (w : World) (h : NoW b) : Calls Try.prog 8 #[.agg #[.int .i64 b, .bool s]] w fun e w' => e = .returned (.bool false) ∧ Below w.heap.size w w' := by
  go_enter Try.func8, Try.ntmps8
  go_wp2_with (go_at_call 37; refine (width_no _ _ h).mono ?_; rintro e w' ⟨rfl, rfl⟩)
  go_ret
  exact ⟨rfl, below_a _ _⟩

theorem i16_any (w : World) : Calls Try.prog 32 #[] w fun e w' => e = .returned (.agg #[.int .i64 16, .bool true]) ∧ Below w.heap.size w w' := by
  go_enter Try.func32, Try.ntmps32
  go_wp2
  exact bodyPost_ret (v := .agg #[.int .i64 16, .bool true]) (by simp [results, Try.results32, go_sem]) rfl ⟨rfl, (by repeat (first | exact (Below.refl _ _) | refine Below.setCell ?_ (by first | exact Nat.le_refl _ | (simp; done) | omega | (simp; omega)) _ | refine Below.alloc ?_ (by first | (simp; done) | omega | (simp; omega)) _))⟩

/-- A type made as wide as a word. -/
def pb (b : Int) : Int := if b < 16 then 16 else b
def ps (b : Int) (s : Bool) : Bool := if b < 16 then true else s
theorem promote_any (b : Int) (s : Bool) (w : World) : Calls Try.prog 10 #[.agg #[.int .i64 b, .bool s]] w fun e w' => e = .returned (.agg #[.int .i64 (pb b), .bool (ps b s)]) ∧ Below w.heap.size w w' := by
  by_cases h : b < 16
  · have e1 : pb b = 16 := by unfold pb; rw [if_pos h]
    have e2 : ps b s = true := by unfold ps; rw [if_pos h]
    rw [e1, e2]
    have h0 : decide (b < 16) = true := by simpa using h
    clear e1 e2
    go_enter Try.func10, Try.ntmps10
    go_wp2_with (go_at_call 32; refine (i16_any _).mono ?_; rintro e w1 ⟨rfl, k1⟩; have B1 := hide (((Box.new (w.alloc (.cells #[.int .i64 b, .bool s] 24)) #[.int .i64 0, .bool false] 24)).step k1); obtain ⟨z0, z1⟩ := (unhide B1).at2; have zf := (unhide B1).2.2; have zl := (unhide B1).1; have p0 := (unhide B1).put0; have p1 := (unhide B1).put1; simp only [World.size_alloc] at z0 z1 zf zl p0 p1)
    exact bodyPost_ret (v := .agg #[.int .i64 16, .bool true]) (by simp [results, Try.results10, go_sem, p0, p1]) rfl ⟨rfl, (by repeat (first | exact (bT (below_a _ _) (bT (below_a _ _) k1)) | refine Below.setCell ?_ (by first | exact Nat.le_refl _ | (simp; done) | omega | (simp; omega)) _ | refine Below.alloc ?_ (by first | (simp; done) | omega | (simp; omega)) _))⟩
  · have e1 : pb b = b := by unfold pb; rw [if_neg h]
    have e2 : ps b s = s := by unfold ps; rw [if_neg h]
    rw [e1, e2]
    have h0 : decide (b < 16) = false := by simpa using h
    clear e1 e2
    go_enter Try.func10, Try.ntmps10
    go_wp2
    exact bodyPost_ret (v := .agg #[.int .i64 b, .bool s]) (by simp [results, Try.results10, go_sem]) rfl ⟨rfl, (by repeat (first | exact (Below.refl _ _) | refine Below.setCell ?_ (by first | exact Nat.le_refl _ | (simp; done) | omega | (simp; omega)) _ | refine Below.alloc ?_ (by first | (simp; done) | omega | (simp; omega)) _))⟩
end Go.Proofs.Ytfkhbhjpnfajeaa
