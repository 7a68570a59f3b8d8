/-
  Types of numbers: what Binary answers.
-/
import Derived.Test.YtfkhbhjpnfajeaaTyE
namespace Go.Proofs.Ytfkhbhjpnfajeaa
open Go.RowKit
set_option linter.unusedSimpArgs false
set_option linter.unusedVariables false

theorem isW_p {b : Int} (h : IsW b) : IsW (pb b) := by
  unfold pb
  split
  · exact .inr (.inl rfl)
  · exact h
theorem isW_c {a b : Int} (ha : IsW a) (hb : IsW b) : IsW (cb a b) := by
  unfold cb
  split
  · exact isW_p hb
  · exact isW_p ha
theorem u_conv {x a b : Int} {s : Bool} (h : IsW b) : U (conv x a s b) := u_cut h _

set_option maxHeartbeats 1000000 in
theorem binary_no (k a b x y : Int) (s t : Bool) (w : World) (h : NoW x ∨ (IsW x ∧ NoW y) ∨ (IsW x ∧ IsW y ∧ (k < 9 ∨ 24 < k))) : Calls Try.prog 4 #[.int .i64 k, .int .u64 a, .int .u64 b, .agg #[.int .i64 x, .bool s], .agg #[.int .i64 y, .bool t]] w fun e w' => e = .returned (.tuple #[.int .u64 0, .int .i64 1]) ∧ Below w.heap.size w w' := by
  rcases h with h | ⟨h1, h2⟩ | ⟨h1, h2, h3⟩
  · go_enter Try.func4, Try.ntmps4
    go_wp2_with (go_at_call 8; refine (tvalid_no _ _ _ h).mono ?_; rintro e w1 ⟨rfl, k1⟩)
    go_ret2
    exact ⟨rfl, bT (below_a _ _) (bT (below_a _ _) k1)⟩
  · have B1 := hide (fun (w : World) => tvalid_yes x s w h1)
    have B2 := hide (fun (w : World) => tvalid_no y t w h2)
    go_enter Try.func4, Try.ntmps4
    go_wp2_with (first | (go_at_call 8; have K := k1; refine (unhide B2 _).mono ?_; rintro e w2 ⟨rfl, k2⟩; clear K) | (go_at_call 8; refine (unhide B1 _).mono ?_; rintro e w1 ⟨rfl, k1⟩; have R := hide ((Box.new (w.alloc (.cells #[.int .i64 x, .bool s] 24)) #[.int .i64 y, .bool t] 24).step k1); obtain ⟨c0, c1⟩ := (unhide R).at2; simp only [World.size_alloc] at c0 c1))
    go_ret2
    exact ⟨rfl, bT (below_a _ _) (bT (below_a _ _) (bT k1 k2))⟩
  · have B1 := hide (fun (w : World) => tvalid_yes x s w h1)
    have B2 := hide (fun (w : World) => tvalid_yes y t w h2)
    by_cases h4 : k < 9
    · have d1 : decide (k < 9) = true := by simpa using h4
      go_enter Try.func4, Try.ntmps4
      go_wp2_with (first | (go_at_call 8; have K := k1; refine (unhide B2 _).mono ?_; rintro e w2 ⟨rfl, k2⟩; clear K) | (go_at_call 8; refine (unhide B1 _).mono ?_; rintro e w1 ⟨rfl, k1⟩; have R := hide ((Box.new (w.alloc (.cells #[.int .i64 x, .bool s] 24)) #[.int .i64 y, .bool t] 24).step k1); obtain ⟨c0, c1⟩ := (unhide R).at2; simp only [World.size_alloc] at c0 c1))
      go_ret2
      exact ⟨rfl, bT (below_a _ _) (bT (below_a _ _) (bT k1 k2))⟩
    · have d1 : decide (k < 9) = false := by simpa using h4
      have d2 : decide (24 < k) = true := by simp; omega
      go_enter Try.func4, Try.ntmps4
      go_wp2_with (first | (go_at_call 8; have K := k1; refine (unhide B2 _).mono ?_; rintro e w2 ⟨rfl, k2⟩; clear K) | (go_at_call 8; refine (unhide B1 _).mono ?_; rintro e w1 ⟨rfl, k1⟩; have R := hide ((Box.new (w.alloc (.cells #[.int .i64 x, .bool s] 24)) #[.int .i64 y, .bool t] 24).step k1); obtain ⟨c0, c1⟩ := (unhide R).at2; simp only [World.size_alloc] at c0 c1))
      go_ret2
      exact ⟨rfl, bT (below_a _ _) (bT (below_a _ _) (bT k1 k2))⟩

/-- Two small blocks made one behind the other. -/
structure Duo (w wx : World) (a0 a1 b0 b1 : Value) : Prop where
  bel : Below w.heap.size w wx
  A : Box wx w.heap.size [a0, a1]
  B : Box wx (w.heap.size + 1) [b0, b1]
theorem Duo.new {w w1 : World} {T : TypeId} {a0 a1 b0 b1 : Value} (k : Below ((w.alloc (.cells #[a0, a1] T)).alloc (.cells #[b0, b1] T)).heap.size ((w.alloc (.cells #[a0, a1] T)).alloc (.cells #[b0, b1] T)) w1) : Duo w w1 a0 a1 b0 b1 := by
  have h1 := below_a w (.cells #[a0, a1] T)
  have h2 := below_a (w.alloc (.cells #[a0, a1] T)) (.cells #[b0, b1] T)
  have A := Box.new w #[a0, a1] T
  have B := Box.new (w.alloc (.cells #[a0, a1] T)) #[b0, b1] T
  simp only [World.size_alloc] at B
  exact ⟨bT h1 (bT h2 k), (A.step h2).step k, B.step k⟩
theorem Duo.step {w w1 w2 : World} {a0 a1 b0 b1 : Value} (h : Duo w w1 a0 a1 b0 b1) (k : Below w1.heap.size w1 w2) : Duo w w2 a0 a1 b0 b1 := ⟨bT h.bel k, h.A.step k, h.B.step k⟩
end Go.Proofs.Ytfkhbhjpnfajeaa
