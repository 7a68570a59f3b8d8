/-
  Types of numbers: what the small helpers of operators answer.
-/
import Derived.Test.YtfkhbhjpnfajeaaTyB
import Derived.Test.YtfkhbhjpnfajeaaTyC
namespace Go.Proofs.Ytfkhbhjpnfajeaa
open Go.RowKit
set_option linter.unusedSimpArgs false
set_option linter.unusedVariables false

def shB (k : Int) : Bool := k == 14 || k == 15
theorem shifts_any (k : Int) (w : World) : Calls Try.prog 9 #[.int .i64 k] w fun e w' => e = .returned (.bool (shB k)) ∧ w' = w := by
  by_cases h : k = 14
  · subst h
    have e1 : shB 14 = true := by decide
    rw [e1]
    go_enter Try.func9, Try.ntmps9
    go_wp2
    go_ret
    exact ⟨rfl, rfl⟩
  · have h0 : (k == 14) = false := beq_eq_false_iff_ne.2 h
    have e1 : shB k = (k == 15) := by unfold shB; rw [h0]; rfl
    rw [e1]
    go_enter Try.func9, Try.ntmps9
    go_wp2
    go_ret
    exact ⟨rfl, rfl⟩
def cpB (k : Int) : Bool := decide (16 ≤ k) && decide (k ≤ 21)
theorem compares_any (k : Int) (w : World) : Calls Try.prog 14 #[.int .i64 k] w fun e w' => e = .returned (.bool (cpB k)) ∧ w' = w := by
  by_cases h : 16 ≤ k
  · have h0 : decide (16 ≤ k) = true := by simpa using h
    have e1 : cpB k = decide (k ≤ 21) := by unfold cpB; rw [h0]; rfl
    rw [e1]
    go_enter Try.func14, Try.ntmps14
    go_wp2
    go_ret
    exact ⟨rfl, rfl⟩
  · have h0 : decide (16 ≤ k) = false := by simpa using h
    have e1 : cpB k = false := by unfold cpB; rw [h0]; rfl
    rw [e1]
    go_enter Try.func14, Try.ntmps14
    go_wp2
    go_ret
    exact ⟨rfl, rfl⟩
def b1 (b : Bool) : Int := if b = true then 1 else 0
theorem oneIf_any (b : Bool) (w : World) : Calls Try.prog 15 #[.bool b] w fun e w' => e = .returned (.int .u64 (b1 b)) ∧ w' = w := by
  cases b <;> simp only [b1]
  · go_enter Try.func15, Try.ntmps15
    go_wp2
    go_ret
    exact ⟨rfl, rfl⟩
  · go_enter Try.func15, Try.ntmps15
    go_wp2
    go_ret
    exact ⟨rfl, rfl⟩

/-- Which of two numbers means less. -/
def ls (s : Bool) (n a b : Int) : Bool := decide (mn s n a < mn s n b)
theorem tless_any (a b n : Int) (s : Bool) (w : World) (h : IsW n) (ha : U a) (hb : U b) : Calls Try.prog 41 #[.int .u64 a, .int .u64 b, .agg #[.int .i64 n, .bool s]] w fun e w' => e = .returned (.bool (ls s n a b)) ∧ Below w.heap.size w w' := by
  have HL : Hid (∀ w, Calls Try.prog 70 #[.int .u64 a, .int .u64 b, .int .i64 n, .bool s] w fun e w' => e = .returned (.tuple #[.bool (ls s n a b), .int .i64 0]) ∧ w' = w) := by
    intro w
    cases s
    · exact less_u a b n w h ha hb
    · exact less_s a b n w h ha hb
  generalize ls s n a b = R at *
  go_enter Try.func41, Try.ntmps41
  go_wp2_with (go_at_call 70; refine (unhide HL _).mono ?_; rintro e w' ⟨rfl, rfl⟩)
  go_ret
  exact ⟨rfl, below_a _ _⟩

/-- A comparison. -/
def hld (k : Int) (s : Bool) (n a b : Int) : Bool := if k = 16 then ls s n a b else if k = 17 then !ls s n b a else if k = 18 then ls s n b a else if k = 19 then !ls s n a b else if k = 20 then a == b else !(a == b)
theorem holds_any (k a b n : Int) (s : Bool) (w : World) (hk : 16 ≤ k ∧ k ≤ 21) (h : IsW n) (ha : U a) (hb : U b) : Calls Try.prog 16 #[.int .i64 k, .int .u64 a, .int .u64 b, .agg #[.int .i64 n, .bool s]] w fun e w' => e = .returned (.bool (hld k s n a b)) ∧ Below w.heap.size w w' := by
  have HA := hide (fun w => tless_any a b n s w h ha hb)
  have HB := hide (fun w => tless_any b a n s w h hb ha)
  have c : k = 16 ∨ k = 17 ∨ k = 18 ∨ k = 19 ∨ k = 20 ∨ k = 21 := by omega
  rcases c with rfl | rfl | rfl | rfl | rfl | rfl
  · have e1 : hld 16 s n a b = ls s n a b := rfl
    rw [e1]
    generalize ls s n a b = R at *
    go_enter Try.func16, Try.ntmps16
    go_wp2_with (go_at_call 41; refine (unhide HA _).mono ?_; rintro e w1 ⟨rfl, k1⟩)
    go_ret
    exact ⟨rfl, bT (below_a _ _) k1⟩
  · have e1 : hld 17 s n a b = !ls s n b a := rfl
    rw [e1]
    generalize ls s n b a = R at *
    go_enter Try.func16, Try.ntmps16
    go_wp2_with (go_at_call 41; refine (unhide HB _).mono ?_; rintro e w1 ⟨rfl, k1⟩)
    go_ret
    exact ⟨rfl, bT (below_a _ _) k1⟩
  · have e1 : hld 18 s n a b = ls s n b a := rfl
    rw [e1]
    generalize ls s n b a = R at *
    go_enter Try.func16, Try.ntmps16
    go_wp2_with (go_at_call 41; refine (unhide HB _).mono ?_; rintro e w1 ⟨rfl, k1⟩)
    go_ret
    exact ⟨rfl, bT (below_a _ _) k1⟩
  · have e1 : hld 19 s n a b = !ls s n a b := rfl
    rw [e1]
    generalize ls s n a b = R at *
    go_enter Try.func16, Try.ntmps16
    go_wp2_with (go_at_call 41; refine (unhide HA _).mono ?_; rintro e w1 ⟨rfl, k1⟩)
    go_ret
    exact ⟨rfl, bT (below_a _ _) k1⟩
  · have e1 : hld 20 s n a b = (a == b) := rfl
    rw [e1]
    go_enter Try.func16, Try.ntmps16
    go_wp2
    go_ret
    exact ⟨rfl, below_a _ _⟩
  · have e1 : hld 21 s n a b = !(a == b) := rfl
    rw [e1]
    go_enter Try.func16, Try.ntmps16
    go_wp2
    go_ret
    exact ⟨rfl, below_a _ _⟩
end Go.Proofs.Ytfkhbhjpnfajeaa
