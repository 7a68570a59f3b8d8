/-
  Types of numbers: what the small helpers of operators answer.
-/
import Derived.Test.YtaidefdbjcgcbaaGreatTyNz
import Derived.Test.YtaidefdbjcgcbaaGreatPlainz
import Derived.Deep.QuietTactic
import Derived.BigQuiet
import Derived.WalkSmall
namespace Go.Proofs.YtaidefdbjcgcbaaGreat
open Go.RowKit
set_option linter.unusedSimpArgs false
set_option linter.unusedVariables false

def shB (k : Int) : Bool := k == 14 || k == 15
theorem shifts_any (k : Int) (w : World) : Calls Tryz.prog 127 #[.int .i64 k] w fun e w' => e = .returned (.bool (shB k)) ∧ w' = w := by
  by_cases h : k = 14
  · subst h
    have e1 : shB 14 = true := by decide
    rw [e1]
    go_enter Tryz.func127, Tryz.ntmps127
    go_wp2
    go_ret
    exact ⟨rfl, rfl⟩
  · have h0 : (k == 14) = false := beq_eq_false_iff_ne.2 h
    have e1 : shB k = (k == 15) := by unfold shB; rw [h0]; rfl
    rw [e1]
    go_enter Tryz.func127, Tryz.ntmps127
    go_wp2
    go_ret
    exact ⟨rfl, rfl⟩
def cpB (k : Int) : Bool := decide (16 ≤ k) && decide (k ≤ 21)
theorem compares_any (k : Int) (w : World) : Calls Tryz.prog 130 #[.int .i64 k] w fun e w' => e = .returned (.bool (cpB k)) ∧ w' = w := by
  by_cases h : 16 ≤ k
  · have h0 : decide (16 ≤ k) = true := by simpa using h
    have e1 : cpB k = decide (k ≤ 21) := by unfold cpB; rw [h0]; rfl
    rw [e1]
    go_enter Tryz.func130, Tryz.ntmps130
    go_wp2
    go_ret
    exact ⟨rfl, rfl⟩
  · have h0 : decide (16 ≤ k) = false := by simpa using h
    have e1 : cpB k = false := by unfold cpB; rw [h0]; rfl
    rw [e1]
    go_enter Tryz.func130, Tryz.ntmps130
    go_wp2
    go_ret
    exact ⟨rfl, rfl⟩
def b1 (b : Bool) : Int := if b = true then 1 else 0
theorem oneIf_any (b : Bool) (w : World) : Calls Tryz.prog 125 #[.bool b] w fun e w' => e = .returned (.int .u64 (b1 b)) ∧ w' = w := by
  cases b <;> simp only [b1]
  · go_enter Tryz.func125, Tryz.ntmps125
    go_wp2
    go_ret
    exact ⟨rfl, rfl⟩
  · go_enter Tryz.func125, Tryz.ntmps125
    go_wp2
    go_ret
    exact ⟨rfl, rfl⟩

/-- Which of two numbers means less. -/
def ls (s : Bool) (n a b : Int) : Bool := decide (mn s n a < mn s n b)
theorem tless_any (a b n : Int) (s : Bool) (w : World) (h : IsW n) (ha : U a) (hb : U b) : Calls Tryz.prog 155 #[.int .u64 a, .int .u64 b, .agg #[.int .i64 n, .bool s]] w fun e w' => e = .returned (.bool (ls s n a b)) ∧ Below w.heap.size w w' := by
  have HL : Hid (∀ w, Calls Tryz.prog 175 #[.int .u64 a, .int .u64 b, .int .i64 n, .bool s] w fun e w' => e = .returned (.tuple #[.bool (ls s n a b), .int .i64 0]) ∧ w' = w) := by
    intro w
    cases s
    · exact less_u a b n w h ha hb
    · exact less_s a b n w h ha hb
  generalize ls s n a b = R at *
  go_enter Tryz.func155, Tryz.ntmps155
  go_wp2_with (go_at_call 175; refine (unhide HL _).mono ?_; rintro e w' ⟨rfl, rfl⟩)
  go_ret
  exact ⟨rfl, below_a _ _⟩

/-- A comparison. -/
def hld (k : Int) (s : Bool) (n a b : Int) : Bool := if k = 16 then ls s n a b else if k = 17 then !ls s n b a else if k = 18 then ls s n b a else if k = 19 then !ls s n a b else if k = 20 then a == b else !(a == b)
theorem holds_any (k a b n : Int) (s : Bool) (w : World) (hk : 16 ≤ k ∧ k ≤ 21) (h : IsW n) (ha : U a) (hb : U b) : Calls Tryz.prog 131 #[.int .i64 k, .int .u64 a, .int .u64 b, .agg #[.int .i64 n, .bool s]] w fun e w' => e = .returned (.bool (hld k s n a b)) ∧ Below w.heap.size w w' := by
  have HA := hide (fun w => tless_any a b n s w h ha hb)
  have HB := hide (fun w => tless_any b a n s w h hb ha)
  have c : k = 16 ∨ k = 17 ∨ k = 18 ∨ k = 19 ∨ k = 20 ∨ k = 21 := by omega
  rcases c with rfl | rfl | rfl | rfl | rfl | rfl
  · have e1 : hld 16 s n a b = ls s n a b := rfl
    rw [e1]
    generalize ls s n a b = R at *
    go_enter Tryz.func131, Tryz.ntmps131
    go_wp2_with (go_at_call 155; refine (unhide HA _).mono ?_; rintro e w1 ⟨rfl, k1⟩)
    go_ret
    exact ⟨rfl, bT (below_a _ _) k1⟩
  · have e1 : hld 17 s n a b = !ls s n b a := rfl
    rw [e1]
    generalize ls s n b a = R at *
    go_enter Tryz.func131, Tryz.ntmps131
    go_wp2_with (go_at_call 155; refine (unhide HB _).mono ?_; rintro e w1 ⟨rfl, k1⟩)
    go_ret
    exact ⟨rfl, bT (below_a _ _) k1⟩
  · have e1 : hld 18 s n a b = ls s n b a := rfl
    rw [e1]
    generalize ls s n b a = R at *
    go_enter Tryz.func131, Tryz.ntmps131
    go_wp2_with (go_at_call 155; refine (unhide HB _).mono ?_; rintro e w1 ⟨rfl, k1⟩)
    go_ret
    exact ⟨rfl, bT (below_a _ _) k1⟩
  · have e1 : hld 19 s n a b = !ls s n a b := rfl
    rw [e1]
    generalize ls s n a b = R at *
    go_enter Tryz.func131, Tryz.ntmps131
    go_wp2_with (go_at_call 155; refine (unhide HA _).mono ?_; rintro e w1 ⟨rfl, k1⟩)
    go_ret
    exact ⟨rfl, bT (below_a _ _) k1⟩
  · have e1 : hld 20 s n a b = (a == b) := rfl
    rw [e1]
    go_enter Tryz.func131, Tryz.ntmps131
    go_wp2
    go_ret
    exact ⟨rfl, below_a _ _⟩
  · have e1 : hld 21 s n a b = !(a == b) := rfl
    rw [e1]
    go_enter Tryz.func131, Tryz.ntmps131
    go_wp2
    go_ret
    exact ⟨rfl, below_a _ _⟩
end Go.Proofs.YtaidefdbjcgcbaaGreat

/-
  What Cut, Add, Sub, Mul, Shl, Shr and Less answer: at each width the number that is meant, elsewhere 0 and ErrKind; nothing that was there has turned.
-/
namespace Go.Proofs.YtaidefdbjcgcbaaGreat
open Go.RowKit
set_option linter.unusedSimpArgs false
set_option linter.unusedVariables false

theorem bel_of {w : World} {a b c : Obj} {q : Nat} : Below w.heap.size w ((((w.alloc a).alloc b).alloc c).drewN q) :=
  below_drewN ((((Below.refl _ _).alloc (Nat.le_refl _) _).alloc (by simp) _).alloc (by simp; omega) _) q

theorem add1 (x y : Int) (w : World) : Calls Tryz.prog 181 #[.int .u64 x, .int .u64 y] w fun e w' => e = .returned (.int .u64 (IntKind.u64.wrap (x + y))) ∧ w' = w := by
  go_enter Tryz.func181, Tryz.ntmps181
  go_wp2
  go_ret
  exact ⟨rfl, rfl⟩

set_option maxHeartbeats 400000 in
theorem of2_add (x b n : Int) (w : World) (p1 p2 p3 : Nat) (h : IsW n) (hb : U b)
    (c1 : w.cell? ⟨p1, 0, none⟩ = some (.func (.func 181) #[] #[])) (c2 : w.cell? ⟨p2, 0, none⟩ = some (.int .u64 b)) (c3 : w.cell? ⟨p3, 0, none⟩ = some (.int .i64 n)) :
    Calls Tryz.prog 185 #[.int .u64 x, .pointer (some ⟨p1, 0, none⟩), .pointer (some ⟨p2, 0, none⟩), .pointer (some ⟨p3, 0, none⟩)] w fun e w' => e = .returned (.int .u64 (IntKind.u64.wrap (x + cut n b))) ∧ ∃ q, w' = w.drewN q := by
  go_enter Tryz.func185, Tryz.ntmps185
  go_wp2_with fail
  go_quiet (first | (go_at_call 184; exact Calls.quiet_of_same (lower_any _ _ _ h hb)) | (go_at_call 181; exact Calls.quiet_of_same (add1 _ _ _)))
  go_wp2
  go_ret
  exact ⟨rfl, _, rfl⟩

theorem add_num {n : Int} (h : IsW n) (a b : Int) : cut n (IntKind.u64.wrap (cut n a + cut n b)) = cut n (a + b) := by
  rw [cut_wrap h, cut_add]

set_option maxHeartbeats 400000 in
theorem add_any (a b n : Int) (w : World) (h : IsW n) (ha : U a) (hb : U b) : Calls Tryz.prog 159 #[.int .u64 a, .int .u64 b, .int .i64 n] w fun e w' => e = .returned (.tuple #[.int .u64 (cut n (a + b)), .int .i64 0]) ∧ Below w.heap.size w w' := by
  have hn := add_num h a b
  go_enter Tryz.func159, Tryz.ntmps159
  go_wp2_with (first | (go_at_call 120; refine (width_yes _ h _).mono ?_; rintro e w' ⟨rfl, rfl⟩) | (go_at_call 184; refine (lower_any _ _ _ h ?_).mono ?_; (first | exact ha | exact u_wrap _); rintro e w' ⟨rfl, rfl⟩) | (go_at_call 185; refine (of2_add _ _ _ _ _ _ _ h hb ?_ ?_ ?_).mono ?_; (simp [go_sem]); (simp [go_sem]); (simp [go_sem]); rintro e w' ⟨rfl, q, rfl⟩) | go_in)
  go_ret2
  exact ⟨rfl, bel_of⟩

set_option maxHeartbeats 400000 in
theorem add_no (a b n : Int) (w : World) (h : NoW n) : Calls Tryz.prog 159 #[.int .u64 a, .int .u64 b, .int .i64 n] w fun e w' => e = .returned (.tuple #[.int .u64 0, .int .i64 1]) ∧ Below w.heap.size w w' := by
  go_enter Tryz.func159, Tryz.ntmps159
  go_wp2_with (first | (go_at_call 120; refine (width_no _ _ h).mono ?_; rintro e w' ⟨rfl, rfl⟩) | go_in)
  go_ret2
  exact ⟨rfl, bel_of (q := 0)⟩

theorem sub1 (x y : Int) (w : World) : Calls Tryz.prog 182 #[.int .u64 x, .int .u64 y] w fun e w' => e = .returned (.int .u64 (IntKind.u64.wrap (x - y))) ∧ w' = w := by
  go_enter Tryz.func182, Tryz.ntmps182
  go_wp2
  go_ret
  exact ⟨rfl, rfl⟩

set_option maxHeartbeats 400000 in
theorem of2_sub (x b n : Int) (w : World) (p1 p2 p3 : Nat) (h : IsW n) (hb : U b)
    (c1 : w.cell? ⟨p1, 0, none⟩ = some (.func (.func 182) #[] #[])) (c2 : w.cell? ⟨p2, 0, none⟩ = some (.int .u64 b)) (c3 : w.cell? ⟨p3, 0, none⟩ = some (.int .i64 n)) :
    Calls Tryz.prog 185 #[.int .u64 x, .pointer (some ⟨p1, 0, none⟩), .pointer (some ⟨p2, 0, none⟩), .pointer (some ⟨p3, 0, none⟩)] w fun e w' => e = .returned (.int .u64 (IntKind.u64.wrap (x - cut n b))) ∧ ∃ q, w' = w.drewN q := by
  go_enter Tryz.func185, Tryz.ntmps185
  go_wp2_with fail
  go_quiet (first | (go_at_call 184; exact Calls.quiet_of_same (lower_any _ _ _ h hb)) | (go_at_call 182; exact Calls.quiet_of_same (sub1 _ _ _)))
  go_wp2
  go_ret
  exact ⟨rfl, _, rfl⟩

theorem sub_num {n : Int} (h : IsW n) (a b : Int) : cut n (IntKind.u64.wrap (cut n a - cut n b)) = cut n (a - b) := by
  rw [cut_wrap h, cut_sub]

set_option maxHeartbeats 400000 in
theorem sub_any (a b n : Int) (w : World) (h : IsW n) (ha : U a) (hb : U b) : Calls Tryz.prog 160 #[.int .u64 a, .int .u64 b, .int .i64 n] w fun e w' => e = .returned (.tuple #[.int .u64 (cut n (a - b)), .int .i64 0]) ∧ Below w.heap.size w w' := by
  have hn := sub_num h a b
  go_enter Tryz.func160, Tryz.ntmps160
  go_wp2_with (first | (go_at_call 120; refine (width_yes _ h _).mono ?_; rintro e w' ⟨rfl, rfl⟩) | (go_at_call 184; refine (lower_any _ _ _ h ?_).mono ?_; (first | exact ha | exact u_wrap _); rintro e w' ⟨rfl, rfl⟩) | (go_at_call 185; refine (of2_sub _ _ _ _ _ _ _ h hb ?_ ?_ ?_).mono ?_; (simp [go_sem]); (simp [go_sem]); (simp [go_sem]); rintro e w' ⟨rfl, q, rfl⟩) | go_in)
  go_ret2
  exact ⟨rfl, bel_of⟩

set_option maxHeartbeats 400000 in
theorem sub_no (a b n : Int) (w : World) (h : NoW n) : Calls Tryz.prog 160 #[.int .u64 a, .int .u64 b, .int .i64 n] w fun e w' => e = .returned (.tuple #[.int .u64 0, .int .i64 1]) ∧ Below w.heap.size w w' := by
  go_enter Tryz.func160, Tryz.ntmps160
  go_wp2_with (first | (go_at_call 120; refine (width_no _ _ h).mono ?_; rintro e w' ⟨rfl, rfl⟩) | go_in)
  go_ret2
  exact ⟨rfl, bel_of (q := 0)⟩

theorem mul1 (x y : Int) (w : World) : Calls Tryz.prog 177 #[.int .u64 x, .int .u64 y] w fun e w' => e = .returned (.int .u64 (IntKind.u64.wrap (x * y))) ∧ w' = w := by
  go_enter Tryz.func177, Tryz.ntmps177
  go_wp2
  go_ret
  exact ⟨rfl, rfl⟩

set_option maxHeartbeats 400000 in
theorem of2_mul (x b n : Int) (w : World) (p1 p2 p3 : Nat) (h : IsW n) (hb : U b)
    (c1 : w.cell? ⟨p1, 0, none⟩ = some (.func (.func 177) #[] #[])) (c2 : w.cell? ⟨p2, 0, none⟩ = some (.int .u64 b)) (c3 : w.cell? ⟨p3, 0, none⟩ = some (.int .i64 n)) :
    Calls Tryz.prog 185 #[.int .u64 x, .pointer (some ⟨p1, 0, none⟩), .pointer (some ⟨p2, 0, none⟩), .pointer (some ⟨p3, 0, none⟩)] w fun e w' => e = .returned (.int .u64 (IntKind.u64.wrap (x * cut n b))) ∧ ∃ q, w' = w.drewN q := by
  go_enter Tryz.func185, Tryz.ntmps185
  go_wp2_with fail
  go_quiet (first | (go_at_call 184; exact Calls.quiet_of_same (lower_any _ _ _ h hb)) | (go_at_call 177; exact Calls.quiet_of_same (mul1 _ _ _)))
  go_wp2
  go_ret
  exact ⟨rfl, _, rfl⟩

theorem mul_num {n : Int} (h : IsW n) (a b : Int) : cut n (IntKind.u64.wrap (cut n a * cut n b)) = cut n (a * b) := by
  rw [cut_wrap h, cut_mul]

set_option maxHeartbeats 400000 in
theorem mul_any (a b n : Int) (w : World) (h : IsW n) (ha : U a) (hb : U b) : Calls Tryz.prog 156 #[.int .u64 a, .int .u64 b, .int .i64 n] w fun e w' => e = .returned (.tuple #[.int .u64 (cut n (a * b)), .int .i64 0]) ∧ Below w.heap.size w w' := by
  have hn := mul_num h a b
  go_enter Tryz.func156, Tryz.ntmps156
  go_wp2_with (first | (go_at_call 120; refine (width_yes _ h _).mono ?_; rintro e w' ⟨rfl, rfl⟩) | (go_at_call 184; refine (lower_any _ _ _ h ?_).mono ?_; (first | exact ha | exact u_wrap _); rintro e w' ⟨rfl, rfl⟩) | (go_at_call 185; refine (of2_mul _ _ _ _ _ _ _ h hb ?_ ?_ ?_).mono ?_; (simp [go_sem]); (simp [go_sem]); (simp [go_sem]); rintro e w' ⟨rfl, q, rfl⟩) | go_in)
  go_ret2
  exact ⟨rfl, bel_of⟩

set_option maxHeartbeats 400000 in
theorem mul_no (a b n : Int) (w : World) (h : NoW n) : Calls Tryz.prog 156 #[.int .u64 a, .int .u64 b, .int .i64 n] w fun e w' => e = .returned (.tuple #[.int .u64 0, .int .i64 1]) ∧ Below w.heap.size w w' := by
  go_enter Tryz.func156, Tryz.ntmps156
  go_wp2_with (first | (go_at_call 120; refine (width_no _ _ h).mono ?_; rintro e w' ⟨rfl, rfl⟩) | go_in)
  go_ret2
  exact ⟨rfl, bel_of (q := 0)⟩
end Go.Proofs.YtaidefdbjcgcbaaGreat
