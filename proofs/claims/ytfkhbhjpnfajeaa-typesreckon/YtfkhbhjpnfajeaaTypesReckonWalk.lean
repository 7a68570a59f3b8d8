/-
  Binary and Unary tell what operators make of numbers of any types: the walk.
-/
import Derived.Test.YtfkhbhjpnfajeaaR7Cb
import Derived.Test.YtfkhbhjpnfajeaaR7Cc
import Derived.Test.YtfkhbhjpnfajeaaR7U
namespace Go.Proofs.Ytfkhbhjpnfajeaa
open Go.RowKit
set_option linter.unusedSimpArgs false
set_option linter.unusedVariables false

/-- Both answer so. -/
def Both2 (k a b x : Int) (s : Bool) (y : Int) (t : Bool) (V E : Int) : Prop :=
  (∀ w : World, Calls Try.prog 4 #[.int .i64 k, .int .u64 a, .int .u64 b, .agg #[.int .i64 x, .bool s], .agg #[.int .i64 y, .bool t]] w fun e w' => e = .returned (.tuple #[.int .u64 V, .int .i64 E]) ∧ Below w.heap.size w w') ∧
  (∀ w : World, Calls Try.prog 5 #[.int .i64 k, .int .u64 a, .int .u64 b, .agg #[.int .i64 x, .bool s], .agg #[.int .i64 y, .bool t]] w fun e w' => e = .returned (.tuple #[.int .u64 V, .int .i64 E]) ∧ Below w.heap.size w w')
def Both1 (k a x : Int) (s : Bool) (V B : Int) (S : Bool) (E : Int) : Prop :=
  (∀ w : World, Calls Try.prog 6 #[.int .i64 k, .int .u64 a, .agg #[.int .i64 x, .bool s]] w fun e w' => e = .returned (.tuple #[.int .u64 V, .agg #[.int .i64 B, .bool S], .int .i64 E]) ∧ Below w.heap.size w w') ∧
  (∀ w : World, Calls Try.prog 7 #[.int .i64 k, .int .u64 a, .agg #[.int .i64 x, .bool s]] w fun e w' => e = .returned (.tuple #[.int .u64 V, .agg #[.int .i64 B, .bool S], .int .i64 E]) ∧ Below w.heap.size w w')
theorem both2 (k a b x : Int) (s : Bool) (y : Int) (t : Bool) (ha : U a) (hb : U b) : ∃ V E, Both2 k a b x s y t V E := by
  rcases isW_or x with hx | hx
  · rcases isW_or y with hy | hy
    · by_cases hk : k < 9 ∨ 24 < k
      · exact ⟨0, 1, fun w => binary_no k a b x y s t w (.inr (.inr ⟨hx, hy, hk⟩)), fun w => rbinary_no k a b x y s t w (.inr (.inr ⟨hx, hy, hk⟩))⟩
      · have c : k = 9 ∨ k = 10 ∨ k = 11 ∨ k = 12 ∨ k = 13 ∨ k = 14 ∨ k = 15 ∨ k = 16 ∨ k = 17 ∨ k = 18 ∨ k = 19 ∨ k = 20 ∨ k = 21 ∨ k = 22 ∨ k = 23 ∨ k = 24 := by omega
        rcases c with rfl | rfl | rfl | rfl | rfl | rfl | rfl | rfl | rfl | rfl | rfl | rfl | rfl | rfl | rfl | rfl
        · exact ⟨_, _, fun w => binary_work 9 a b x y s t w (by unfold wkB; omega) hx hy ha hb, fun w => rbinary_mul a b x y s t w hx hy ha hb⟩
        · exact ⟨_, _, fun w => binary_work 10 a b x y s t w (by unfold wkB; omega) hx hy ha hb, fun w => rbinary_div a b x y s t w hx hy ha hb⟩
        · exact ⟨_, _, fun w => binary_work 11 a b x y s t w (by unfold wkB; omega) hx hy ha hb, fun w => rbinary_rem a b x y s t w hx hy ha hb⟩
        · exact ⟨_, _, fun w => binary_work 12 a b x y s t w (by unfold wkB; omega) hx hy ha hb, fun w => rbinary_add a b x y s t w hx hy ha hb⟩
        · exact ⟨_, _, fun w => binary_work 13 a b x y s t w (by unfold wkB; omega) hx hy ha hb, fun w => rbinary_sub a b x y s t w hx hy ha hb⟩
        · exact ⟨_, _, fun w => binary_shift 14 a b x y s t w (by omega) hx hy ha hb, fun w => rbinary_s14 a b x y s t w hx hy ha hb⟩
        · exact ⟨_, _, fun w => binary_shift 15 a b x y s t w (by omega) hx hy ha hb, fun w => rbinary_s15 a b x y s t w hx hy ha hb⟩
        · exact ⟨_, _, fun w => binary_cmp 16 a b x y s t w (by omega) hx hy ha hb, fun w => rbinary_c16 a b x y s t w hx hy ha hb⟩
        · exact ⟨_, _, fun w => binary_cmp 17 a b x y s t w (by omega) hx hy ha hb, fun w => rbinary_c17 a b x y s t w hx hy ha hb⟩
        · exact ⟨_, _, fun w => binary_cmp 18 a b x y s t w (by omega) hx hy ha hb, fun w => rbinary_c18 a b x y s t w hx hy ha hb⟩
        · exact ⟨_, _, fun w => binary_cmp 19 a b x y s t w (by omega) hx hy ha hb, fun w => rbinary_c19 a b x y s t w hx hy ha hb⟩
        · exact ⟨_, _, fun w => binary_cmp 20 a b x y s t w (by omega) hx hy ha hb, fun w => rbinary_c20 a b x y s t w hx hy ha hb⟩
        · exact ⟨_, _, fun w => binary_cmp 21 a b x y s t w (by omega) hx hy ha hb, fun w => rbinary_c21 a b x y s t w hx hy ha hb⟩
        · exact ⟨_, _, fun w => binary_work 22 a b x y s t w (by unfold wkB; omega) hx hy ha hb, fun w => rbinary_and a b x y s t w hx hy ha hb⟩
        · exact ⟨_, _, fun w => binary_work 23 a b x y s t w (by unfold wkB; omega) hx hy ha hb, fun w => rbinary_xor a b x y s t w hx hy ha hb⟩
        · exact ⟨_, _, fun w => binary_work 24 a b x y s t w (by unfold wkB; omega) hx hy ha hb, fun w => rbinary_or a b x y s t w hx hy ha hb⟩
    · exact ⟨0, 1, fun w => binary_no k a b x y s t w (.inr (.inl ⟨hx, hy⟩)), fun w => rbinary_no k a b x y s t w (.inr (.inl ⟨hx, hy⟩))⟩
  · exact ⟨0, 1, fun w => binary_no k a b x y s t w (.inl hx), fun w => rbinary_no k a b x y s t w (.inl hx)⟩
theorem both1 (k a x : Int) (s : Bool) (ha : U a) : ∃ V B S E, Both1 k a x s V B S E := by
  rcases isW_or x with hx | hx
  · by_cases h6 : k = 6
    · subst h6; exact ⟨_, _, _, _, fun w => unary_neg a x s w hx ha, fun w => runary_neg a x s w hx ha⟩
    · by_cases h7 : k = 7
      · subst h7; exact ⟨_, _, _, _, fun w => unary_not a x s w hx ha, fun w => runary_not a x s w hx ha⟩
      · by_cases h8 : k = 8
        · subst h8; exact ⟨_, _, _, _, fun w => unary_log a x s w hx ha, fun w => runary_log a x s w hx ha⟩
        · exact ⟨0, 0, false, 1, fun w => unary_kind k a x s w hx ha ⟨h6, h7, h8⟩, fun w => runary_kind k a x s w hx ⟨h6, h7, h8⟩⟩
  · exact ⟨0, 0, false, 1, fun w => unary_no k a x s w hx, fun w => runary_no k a x s w hx⟩
theorem u_ofR {x : Int} (h : (Lit.int .u64 x).wf = true) : U x := by
  have h1 : IntKind.u64.min = 0 := rfl
  have h2 : IntKind.u64.max = 18446744073709551615 := rfl
  simp only [Lit.wf, Bool.and_eq_true, decide_eq_true_eq] at h
  unfold U
  omega
set_option maxHeartbeats 1000000 in
theorem walk_typesReckon (k a b x : Int) (s : Bool) (y : Int) (t : Bool) (w : World) (_ : (Lit.int .i64 k).wf = true) (ha : (Lit.int .u64 a).wf = true) (hb : (Lit.int .u64 b).wf = true) : Calls Try.prog 3 #[.int .i64 k, .int .u64 a, .int .u64 b, .agg #[.int .i64 x, .bool s], .agg #[.int .i64 y, .bool t]] w fun e w' => e = .returned (.bool true) ∧ Below w.heap.size w w' := by
  obtain ⟨V, E, h1, h2⟩ := both2 k a b x s y t (u_ofR ha) (u_ofR hb)
  obtain ⟨V', B, S, E', h3, h4⟩ := both1 k a x s (u_ofR ha)
  have H1 := hide h1
  have H2 := hide h2
  have H3 := hide h3
  have H4 := hide h4
  clear h1 h2 h3 h4
  go_enter Try.func3, Try.ntmps3
  go_wp2_with fail
  have R := hide (Duo.new (w := w) (T := 24) (a0 := .int .i64 x) (a1 := .bool s) (b0 := .int .i64 y) (b1 := .bool t) (Below.refl _ _))
  generalize (w.alloc (.cells #[.int .i64 x, .bool s] 24)).alloc (.cells #[.int .i64 y, .bool t] 24) = w0 at *
  obtain ⟨x0, x1⟩ := (unhide R).A.at2
  obtain ⟨x2, x3⟩ := (unhide R).B.at2
  refine (unhide H1 _).mono ?_
  rintro e wn ⟨rfl, kn⟩
  clear x0 x1 x2 x3
  have R' := hide ((unhide R).step kn)
  clear R
  have R := R'
  clear R'
  obtain ⟨x0, x1⟩ := (unhide R).A.at2
  obtain ⟨x2, x3⟩ := (unhide R).B.at2
  clear kn
  go_wp2_with fail
  refine (unhide H2 _).mono ?_
  rintro e wn ⟨rfl, kn⟩
  clear x0 x1 x2 x3
  have R' := hide ((unhide R).step kn)
  clear R
  have R := R'
  clear R'
  obtain ⟨x0, x1⟩ := (unhide R).A.at2
  obtain ⟨x2, x3⟩ := (unhide R).B.at2
  clear kn
  go_wp2_with fail
  refine (unhide H3 _).mono ?_
  rintro e wn ⟨rfl, kn⟩
  clear x0 x1 x2 x3
  have R' := hide ((unhide R).step kn)
  clear R
  have R := R'
  clear R'
  obtain ⟨x0, x1⟩ := (unhide R).A.at2
  obtain ⟨x2, x3⟩ := (unhide R).B.at2
  clear kn
  have R' := hide ((unhide R).more (T := 24) (u := .int .i64 B) (v := .bool S))
  have lA := (unhide R).A.1
  go_wp2_with fail
  generalize wn.alloc (.cells #[.int .i64 B, .bool S] 24) = wa at *
  generalize wn.heap.size = pa at *
  have BA := hide (unhide R').2
  have Ra := hide (unhide R').1
  clear R R' x0 x1 x2 x3 lA
  have R := Ra
  clear Ra
  obtain ⟨x0, x1⟩ := (unhide R).A.at2
  obtain ⟨x2, x3⟩ := (unhide R).B.at2
  refine (unhide H4 _).mono ?_
  rintro e wn ⟨rfl, kn⟩
  clear x0 x1 x2 x3
  have R' := hide ((unhide R).step kn)
  clear R
  have R := R'
  clear R'
  obtain ⟨x0, x1⟩ := (unhide R).A.at2
  obtain ⟨x2, x3⟩ := (unhide R).B.at2
  have BA' := hide ((unhide BA).step kn)
  clear BA kn
  obtain ⟨y0, y1⟩ := (unhide BA').at2
  have ly := (unhide BA').1
  have KF := hide (bT (unhide R).bel (below_a wn (.cells #[.int .i64 B, .bool S] 24)))
  go_wp2_with fail
  go_ret
  exact ⟨rfl, unhide KF⟩
end Go.Proofs.Ytfkhbhjpnfajeaa
