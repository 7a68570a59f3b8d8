/-
  Types of numbers: what Common answers.
-/
import Derived.Test.YtjddpfojllefgaaGreatTyAz
import Derived.BigRegion
import Derived.Deep.DeepCutAuto
import Derived.Test.YtjddpfojllefgaaGreatPlainz
namespace Go.Proofs.YtjddpfojllefgaaGreat
open Go.RowKit
set_option linter.unusedSimpArgs false
set_option linter.unusedVariables false

/-- Three small blocks made one behind the other, and all that came ahead as it was. -/
structure Tri (w wx : World) (a0 a1 b0 b1 c0 c1 : Value) : Prop where
  bel : Below w.heap.size w wx
  A : Box wx w.heap.size [a0, a1]
  B : Box wx (w.heap.size + 1) [b0, b1]
  C : Box wx (w.heap.size + 1 + 1) [c0, c1]
theorem Tri.new {w w1 : World} {T : TypeId} {a0 a1 b0 b1 c0 c1 : Value} (k : Below ((((w.alloc (.cells #[a0, a1] T)).alloc (.cells #[b0, b1] T)).alloc (.cells #[c0, c1] T)).drew).heap.size ((((w.alloc (.cells #[a0, a1] T)).alloc (.cells #[b0, b1] T)).alloc (.cells #[c0, c1] T)).drew) w1) : Tri w w1 a0 a1 b0 b1 c0 c1 := by
  have h1 := below_a w (.cells #[a0, a1] T)
  have h2 := below_a (w.alloc (.cells #[a0, a1] T)) (.cells #[b0, b1] T)
  have h3 := below_a ((w.alloc (.cells #[a0, a1] T)).alloc (.cells #[b0, b1] T)) (.cells #[c0, c1] T)
  have h4 := bT (Below.refl _ _).drew k
  have A := Box.new w #[a0, a1] T
  have B := Box.new (w.alloc (.cells #[a0, a1] T)) #[b0, b1] T
  have C := Box.new ((w.alloc (.cells #[a0, a1] T)).alloc (.cells #[b0, b1] T)) #[c0, c1] T
  simp only [World.size_alloc] at B C
  exact ⟨bT h1 (bT h2 (bT h3 h4)), ((A.step h2).step h3).step h4, (B.step h3).step h4, C.step h4⟩
theorem Tri.step {w w1 w2 : World} {a0 a1 b0 b1 c0 c1 : Value} (h : Tri w w1 a0 a1 b0 b1 c0 c1) (k : Below w1.heap.size w1 w2) : Tri w w2 a0 a1 b0 b1 c0 c1 := ⟨bT h.bel k, h.A.step k, h.B.step k, h.C.step k⟩
theorem Tri.putA {w w1 : World} {a0 a1 b0 b1 c0 c1 : Value} (h : Tri w w1 a0 a1 b0 b1 c0 c1) (u v : Value) : Tri w ((w1.setCell ⟨w.heap.size, 0, none⟩ u).setCell ⟨w.heap.size, 1, none⟩ v) u v b0 b1 c0 c1 :=
  ⟨below_2 h.bel (Nat.le_refl _) _ _, h.A.put u v, (h.B.other (by omega)).other (by omega), (h.C.other (by omega)).other (by omega)⟩
theorem Tri.putB {w w1 : World} {a0 a1 b0 b1 c0 c1 : Value} (h : Tri w w1 a0 a1 b0 b1 c0 c1) (u v : Value) : Tri w ((w1.setCell ⟨w.heap.size + 1, 0, none⟩ u).setCell ⟨w.heap.size + 1, 1, none⟩ v) a0 a1 u v c0 c1 :=
  ⟨below_2 h.bel (by omega) _ _, (h.A.other (by omega)).other (by omega), h.B.put u v, (h.C.other (by omega)).other (by omega)⟩

/-- The type in which two are reckoned. -/
def cb (a b : Int) : Int := if pb a < pb b then pb b else pb a
def cs (a : Int) (s : Bool) (b : Int) (t : Bool) : Bool := if pb b < pb a then ps a s else if pb a < pb b then ps b t else ps a s && ps b t
set_option maxHeartbeats 1000000 in
theorem common_any (a : Int) (s : Bool) (b : Int) (t : Bool) (w : World) : Calls Tryz.prog 64 #[.agg #[.int .i64 a, .bool s], .agg #[.int .i64 b, .bool t]] w fun e w' => e = .returned (.agg #[.int .i64 (cb a b), .bool (cs a s b t)]) ∧ Below w.heap.size w w' := by
  have e1 : Hid (cb a b = if pb a < pb b then pb b else pb a) := rfl
  have e2 : Hid (cs a s b t = if pb b < pb a then ps a s else if pb a < pb b then ps b t else ps a s && ps b t) := rfl
  have HA := hide (promote_any a s)
  have HB := hide (promote_any b t)
  generalize cb a b = X at *
  generalize cs a s b t = Y at *
  generalize pb a = A at *
  generalize pb b = B at *
  generalize ps a s = S at *
  generalize ps b t = T at *
  go_enter Tryz.func64, Tryz.ntmps64
  go_upto_region 1 with fail
  go_cut [5] (fun _ wx => Tri w wx (.int .i64 A) (.bool S) (.int .i64 B) (.bool T) (.int .i64 0) (.bool false))
  case first =>
    go_region_with (first | (go_at_call 58; have R := R1; refine (unhide HB _).mono ?_; rintro e w2 ⟨rfl, k2⟩; have R2 := hide ((unhide R).step k2); clear k2 R; obtain ⟨y0, y1⟩ := (unhide R2).A.at2; obtain ⟨y2, y3⟩ := (unhide R2).B.at2; have f2 := (unhide R2).A.2.2; have f3 := (unhide R2).B.2.2) | (go_at_call 58; refine (unhide HA _).mono ?_; rintro e w1 ⟨rfl, k1⟩; have R1 := hide (Tri.new k1); clear k1; obtain ⟨x0, x1⟩ := (unhide R1).A.at2; obtain ⟨x2, x3⟩ := (unhide R1).B.at2; have f0 := (unhide R1).A.2.2; have f1 := (unhide R1).B.2.2))
    all_goals (go_wp2_with fail; go_meet; exact ((unhide R2).putA _ _).putB _ _)
  case rest =>
    have M := hide hcut
    clear hcut
    obtain ⟨x0, x1⟩ := (unhide M).A.at2
    obtain ⟨x2, x3⟩ := (unhide M).B.at2
    obtain ⟨x4, x5⟩ := (unhide M).C.at2
    have f0 := (unhide M).A.2.2
    have f1 := (unhide M).B.2.2
    have f2 := (unhide M).C.2.2
    have p0 := (unhide M).C.put0
    have p1 := (unhide M).C.put1
    have hb := (unhide M).bel
    by_cases h1 : B < A
    · have d1 : decide (B < A) = true := by simpa using h1
      unfold Hid at e1 e2
      rw [if_neg (by omega)] at e1
      rw [if_pos h1] at e2
      subst e1 e2
      go_wp2_with fail
      exact bodyPost_ret (v := .agg #[.int .i64 X, .bool Y]) (by simp [results, Tryz.results64, go_sem, p0, p1]) rfl ⟨rfl, below_2 hb (by omega) _ _⟩
    · have d1 : decide (B < A) = false := by simpa using h1
      unfold Hid at e1 e2
      rw [if_neg h1] at e2
      by_cases h2 : A < B
      · have d2 : decide (A < B) = true := by simpa using h2
        rw [if_pos h2] at e1 e2
        subst e1 e2
        go_wp2_with fail
        exact bodyPost_ret (v := .agg #[.int .i64 X, .bool Y]) (by simp [results, Tryz.results64, go_sem, p0, p1]) rfl ⟨rfl, below_2 hb (by omega) _ _⟩
      · have d2 : decide (A < B) = false := by simpa using h2
        rw [if_neg h2] at e1 e2
        subst e1
        cases S
        · simp at e2
          subst e2
          go_wp2_with fail
          exact bodyPost_ret (v := .agg #[.int .i64 X, .bool false]) (by simp [results, Tryz.results64, go_sem, p0, p1]) rfl ⟨rfl, below_2 hb (by omega) _ _⟩
        · simp at e2
          subst e2
          go_wp2_with fail
          exact bodyPost_ret (v := .agg #[.int .i64 X, .bool Y]) (by simp [results, Tryz.results64, go_sem, p0, p1]) rfl ⟨rfl, below_2 hb (by omega) _ _⟩
end Go.Proofs.YtjddpfojllefgaaGreat

/-
  Types of numbers: what Convert answers.
-/
namespace Go.Proofs.YtjddpfojllefgaaGreat
open Go.RowKit
set_option linter.unusedSimpArgs false
set_option linter.unusedVariables false

theorem tcut_any (x b : Int) (s : Bool) (w : World) (h : IsW b) (hx : U x) : Calls Tryz.prog 57 #[.int .u64 x, .agg #[.int .i64 b, .bool s]] w fun e w' => e = .returned (.int .u64 (cut b x)) ∧ Below w.heap.size w w' := by
  go_enter Tryz.func57, Tryz.ntmps57
  go_wp2_with (go_at_call 78; refine (cut_any _ _ _ h hx).mono ?_; rintro e w' ⟨rfl, rfl⟩)
  go_ret
  exact ⟨rfl, below_a _ _⟩

/-- A number of one type as one of another. -/
def conv (x a : Int) (s : Bool) (b : Int) : Int := cut b (mn s a x)
set_option maxHeartbeats 1000000 in
theorem convert_any (x a : Int) (s : Bool) (b : Int) (t : Bool) (w : World) (ha : IsW a) (hb : IsW b) (hx : U x) : Calls Tryz.prog 39 #[.int .u64 x, .agg #[.int .i64 a, .bool s], .agg #[.int .i64 b, .bool t]] w fun e w' => e = .returned (.int .u64 (conv x a s b)) ∧ Below w.heap.size w w' := by
  cases s
  · have e1 : conv x a false b = cut b (cut a x) := rfl
    rw [e1]
    go_enter Tryz.func39, Tryz.ntmps39
    go_wp2_with fail
    refine wp_region_later (by kernel_rfl) (by kernel_rfl) ?_
    intro L hne lt hlc hlf hlm
    repeat (go_big_quiet_step ((go_at_call 57; exact later_call hlm (tcut_any _ _ _ _ (by assumption) (by first | assumption | exact u_cut (by assumption) _)))))
    refine wpQuiet_nil ?_
    intro wq kq
    clear hlm hlf hlc lt hne L
    obtain ⟨hqc, hqf⟩ := below_cells kq
    go_wp2_with fail
    go_ret
    exact ⟨rfl, bT (below_a _ _) (bT (below_a _ _) kq)⟩
  · have e1 : conv x a true b = cut b (IntKind.u64.wrap (sgn a x)) := by rw [cut_wrap hb]; rfl
    rw [e1]
    have HB := hide (fun w => tcut_any (IntKind.u64.wrap (sgn a x)) b t w hb (u_wrap _))
    go_enter Tryz.func39, Tryz.ntmps39
    go_wp2_with (first | (go_at_call 56; refine (signed_any _ _ _ ha hx).mono ?_; rintro e w' ⟨rfl, rfl⟩) | (go_at_call 57; refine (unhide HB _).mono ?_; rintro e w1 ⟨rfl, k1⟩))
    go_ret
    exact ⟨rfl, bT (below_a _ _) (bT (below_a _ _) k1)⟩
end Go.Proofs.YtjddpfojllefgaaGreat

/-
  Types of numbers: what the small helpers of operators answer.
-/
namespace Go.Proofs.YtjddpfojllefgaaGreat
open Go.RowKit
set_option linter.unusedSimpArgs false
set_option linter.unusedVariables false

def shB (k : Int) : Bool := k == 14 || k == 15
theorem shifts_any (k : Int) (w : World) : Calls Tryz.prog 62 #[.int .i64 k] w fun e w' => e = .returned (.bool (shB k)) ∧ w' = w := by
  by_cases h : k = 14
  · subst h
    have e1 : shB 14 = true := by decide
    rw [e1]
    go_enter Tryz.func62, Tryz.ntmps62
    go_wp2
    go_ret
    exact ⟨rfl, rfl⟩
  · have h0 : (k == 14) = false := beq_eq_false_iff_ne.2 h
    have e1 : shB k = (k == 15) := by unfold shB; rw [h0]; rfl
    rw [e1]
    go_enter Tryz.func62, Tryz.ntmps62
    go_wp2
    go_ret
    exact ⟨rfl, rfl⟩
def cpB (k : Int) : Bool := decide (16 ≤ k) && decide (k ≤ 21)
theorem compares_any (k : Int) (w : World) : Calls Tryz.prog 65 #[.int .i64 k] w fun e w' => e = .returned (.bool (cpB k)) ∧ w' = w := by
  by_cases h : 16 ≤ k
  · have h0 : decide (16 ≤ k) = true := by simpa using h
    have e1 : cpB k = decide (k ≤ 21) := by unfold cpB; rw [h0]; rfl
    rw [e1]
    go_enter Tryz.func65, Tryz.ntmps65
    go_wp2
    go_ret
    exact ⟨rfl, rfl⟩
  · have h0 : decide (16 ≤ k) = false := by simpa using h
    have e1 : cpB k = false := by unfold cpB; rw [h0]; rfl
    rw [e1]
    go_enter Tryz.func65, Tryz.ntmps65
    go_wp2
    go_ret
    exact ⟨rfl, rfl⟩
def b1 (b : Bool) : Int := if b = true then 1 else 0
theorem oneIf_any (b : Bool) (w : World) : Calls Tryz.prog 59 #[.bool b] w fun e w' => e = .returned (.int .u64 (b1 b)) ∧ w' = w := by
  cases b <;> simp only [b1]
  · go_enter Tryz.func59, Tryz.ntmps59
    go_wp2
    go_ret
    exact ⟨rfl, rfl⟩
  · go_enter Tryz.func59, Tryz.ntmps59
    go_wp2
    go_ret
    exact ⟨rfl, rfl⟩

/-- Which of two numbers means less. -/
def ls (s : Bool) (n a b : Int) : Bool := decide (mn s n a < mn s n b)
theorem tless_any (a b n : Int) (s : Bool) (w : World) (h : IsW n) (ha : U a) (hb : U b) : Calls Tryz.prog 81 #[.int .u64 a, .int .u64 b, .agg #[.int .i64 n, .bool s]] w fun e w' => e = .returned (.bool (ls s n a b)) ∧ Below w.heap.size w w' := by
  have HL : Hid (∀ w, Calls Tryz.prog 98 #[.int .u64 a, .int .u64 b, .int .i64 n, .bool s] w fun e w' => e = .returned (.tuple #[.bool (ls s n a b), .int .i64 0]) ∧ w' = w) := by
    intro w
    cases s
    · exact less_u a b n w h ha hb
    · exact less_s a b n w h ha hb
  generalize ls s n a b = R at *
  go_enter Tryz.func81, Tryz.ntmps81
  go_wp2_with (go_at_call 98; refine (unhide HL _).mono ?_; rintro e w' ⟨rfl, rfl⟩)
  go_ret
  exact ⟨rfl, below_a _ _⟩

/-- A comparison. -/
def hld (k : Int) (s : Bool) (n a b : Int) : Bool := if k = 16 then ls s n a b else if k = 17 then !ls s n b a else if k = 18 then ls s n b a else if k = 19 then !ls s n a b else if k = 20 then a == b else !(a == b)
theorem holds_any (k a b n : Int) (s : Bool) (w : World) (hk : 16 ≤ k ∧ k ≤ 21) (h : IsW n) (ha : U a) (hb : U b) : Calls Tryz.prog 66 #[.int .i64 k, .int .u64 a, .int .u64 b, .agg #[.int .i64 n, .bool s]] w fun e w' => e = .returned (.bool (hld k s n a b)) ∧ Below w.heap.size w w' := by
  have HA := hide (fun w => tless_any a b n s w h ha hb)
  have HB := hide (fun w => tless_any b a n s w h hb ha)
  have c : k = 16 ∨ k = 17 ∨ k = 18 ∨ k = 19 ∨ k = 20 ∨ k = 21 := by omega
  rcases c with rfl | rfl | rfl | rfl | rfl | rfl
  · have e1 : hld 16 s n a b = ls s n a b := rfl
    rw [e1]
    generalize ls s n a b = R at *
    go_enter Tryz.func66, Tryz.ntmps66
    go_wp2_with (go_at_call 81; refine (unhide HA _).mono ?_; rintro e w1 ⟨rfl, k1⟩)
    go_ret
    exact ⟨rfl, bT (below_a _ _) k1⟩
  · have e1 : hld 17 s n a b = !ls s n b a := rfl
    rw [e1]
    generalize ls s n b a = R at *
    go_enter Tryz.func66, Tryz.ntmps66
    go_wp2_with (go_at_call 81; refine (unhide HB _).mono ?_; rintro e w1 ⟨rfl, k1⟩)
    go_ret
    exact ⟨rfl, bT (below_a _ _) k1⟩
  · have e1 : hld 18 s n a b = ls s n b a := rfl
    rw [e1]
    generalize ls s n b a = R at *
    go_enter Tryz.func66, Tryz.ntmps66
    go_wp2_with (go_at_call 81; refine (unhide HB _).mono ?_; rintro e w1 ⟨rfl, k1⟩)
    go_ret
    exact ⟨rfl, bT (below_a _ _) k1⟩
  · have e1 : hld 19 s n a b = !ls s n a b := rfl
    rw [e1]
    generalize ls s n a b = R at *
    go_enter Tryz.func66, Tryz.ntmps66
    go_wp2_with (go_at_call 81; refine (unhide HA _).mono ?_; rintro e w1 ⟨rfl, k1⟩)
    go_ret
    exact ⟨rfl, bT (below_a _ _) k1⟩
  · have e1 : hld 20 s n a b = (a == b) := rfl
    rw [e1]
    go_enter Tryz.func66, Tryz.ntmps66
    go_wp2
    go_ret
    exact ⟨rfl, below_a _ _⟩
  · have e1 : hld 21 s n a b = !(a == b) := rfl
    rw [e1]
    go_enter Tryz.func66, Tryz.ntmps66
    go_wp2
    go_ret
    exact ⟨rfl, below_a _ _⟩
end Go.Proofs.YtjddpfojllefgaaGreat
