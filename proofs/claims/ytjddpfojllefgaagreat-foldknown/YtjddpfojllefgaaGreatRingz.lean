/-
  What Cut, Add, Sub, Mul, Shl, Shr and Less answer: at each width the number that is meant, elsewhere 0 and ErrKind; nothing that was there has turned.
-/
import Derived.Test.YtjddpfojllefgaaGreatPlainz
import Derived.Deep.QuietTactic
import Derived.BigQuiet
import Derived.WalkSmall
import Derived.Test.YtjddpfojllefgaaGreatTyBz
namespace Go.Proofs.YtjddpfojllefgaaGreat
open Go.RowKit
set_option linter.unusedSimpArgs false
set_option linter.unusedVariables false

theorem bel_of {w : World} {a b c : Obj} {q : Nat} : Below w.heap.size w ((((w.alloc a).alloc b).alloc c).drewN q) :=
  below_drewN ((((Below.refl _ _).alloc (Nat.le_refl _) _).alloc (by simp) _).alloc (by simp; omega) _) q

theorem add1 (x y : Int) (w : World) : Calls Tryz.prog 104 #[.int .u64 x, .int .u64 y] w fun e w' => e = .returned (.int .u64 (IntKind.u64.wrap (x + y))) ∧ w' = w := by
  go_enter Tryz.func104, Tryz.ntmps104
  go_wp2
  go_ret
  exact ⟨rfl, rfl⟩

set_option maxHeartbeats 400000 in
theorem of2_add (x b n : Int) (w : World) (p1 p2 p3 : Nat) (h : IsW n) (hb : U b)
    (c1 : w.cell? ⟨p1, 0, none⟩ = some (.func (.func 104) #[] #[])) (c2 : w.cell? ⟨p2, 0, none⟩ = some (.int .u64 b)) (c3 : w.cell? ⟨p3, 0, none⟩ = some (.int .i64 n)) :
    Calls Tryz.prog 111 #[.int .u64 x, .pointer (some ⟨p1, 0, none⟩), .pointer (some ⟨p2, 0, none⟩), .pointer (some ⟨p3, 0, none⟩)] w fun e w' => e = .returned (.int .u64 (IntKind.u64.wrap (x + cut n b))) ∧ ∃ q, w' = w.drewN q := by
  go_enter Tryz.func111, Tryz.ntmps111
  go_wp2_with fail
  go_quiet (first | (go_at_call 110; exact Calls.quiet_of_same (lower_any _ _ _ h hb)) | (go_at_call 104; exact Calls.quiet_of_same (add1 _ _ _)))
  go_wp2
  go_ret
  exact ⟨rfl, _, rfl⟩

theorem add_num {n : Int} (h : IsW n) (a b : Int) : cut n (IntKind.u64.wrap (cut n a + cut n b)) = cut n (a + b) := by
  rw [cut_wrap h, cut_add]

set_option maxHeartbeats 400000 in
theorem add_any (a b n : Int) (w : World) (h : IsW n) (ha : U a) (hb : U b) : Calls Tryz.prog 85 #[.int .u64 a, .int .u64 b, .int .i64 n] w fun e w' => e = .returned (.tuple #[.int .u64 (cut n (a + b)), .int .i64 0]) ∧ Below w.heap.size w w' := by
  have hn := add_num h a b
  go_enter Tryz.func85, Tryz.ntmps85
  go_wp2_with (first | (go_at_call 76; refine (width_yes _ h _).mono ?_; rintro e w' ⟨rfl, rfl⟩) | (go_at_call 110; refine (lower_any _ _ _ h ?_).mono ?_; (first | exact ha | exact u_wrap _); rintro e w' ⟨rfl, rfl⟩) | (go_at_call 111; refine (of2_add _ _ _ _ _ _ _ h hb ?_ ?_ ?_).mono ?_; (simp [go_sem]); (simp [go_sem]); (simp [go_sem]); rintro e w' ⟨rfl, q, rfl⟩) | go_in)
  go_ret2
  exact ⟨rfl, bel_of⟩

set_option maxHeartbeats 400000 in
theorem add_no (a b n : Int) (w : World) (h : NoW n) : Calls Tryz.prog 85 #[.int .u64 a, .int .u64 b, .int .i64 n] w fun e w' => e = .returned (.tuple #[.int .u64 0, .int .i64 1]) ∧ Below w.heap.size w w' := by
  go_enter Tryz.func85, Tryz.ntmps85
  go_wp2_with (first | (go_at_call 76; refine (width_no _ _ h).mono ?_; rintro e w' ⟨rfl, rfl⟩) | go_in)
  go_ret2
  exact ⟨rfl, bel_of (q := 0)⟩

theorem sub1 (x y : Int) (w : World) : Calls Tryz.prog 105 #[.int .u64 x, .int .u64 y] w fun e w' => e = .returned (.int .u64 (IntKind.u64.wrap (x - y))) ∧ w' = w := by
  go_enter Tryz.func105, Tryz.ntmps105
  go_wp2
  go_ret
  exact ⟨rfl, rfl⟩

set_option maxHeartbeats 400000 in
theorem of2_sub (x b n : Int) (w : World) (p1 p2 p3 : Nat) (h : IsW n) (hb : U b)
    (c1 : w.cell? ⟨p1, 0, none⟩ = some (.func (.func 105) #[] #[])) (c2 : w.cell? ⟨p2, 0, none⟩ = some (.int .u64 b)) (c3 : w.cell? ⟨p3, 0, none⟩ = some (.int .i64 n)) :
    Calls Tryz.prog 111 #[.int .u64 x, .pointer (some ⟨p1, 0, none⟩), .pointer (some ⟨p2, 0, none⟩), .pointer (some ⟨p3, 0, none⟩)] w fun e w' => e = .returned (.int .u64 (IntKind.u64.wrap (x - cut n b))) ∧ ∃ q, w' = w.drewN q := by
  go_enter Tryz.func111, Tryz.ntmps111
  go_wp2_with fail
  go_quiet (first | (go_at_call 110; exact Calls.quiet_of_same (lower_any _ _ _ h hb)) | (go_at_call 105; exact Calls.quiet_of_same (sub1 _ _ _)))
  go_wp2
  go_ret
  exact ⟨rfl, _, rfl⟩

theorem sub_num {n : Int} (h : IsW n) (a b : Int) : cut n (IntKind.u64.wrap (cut n a - cut n b)) = cut n (a - b) := by
  rw [cut_wrap h, cut_sub]

set_option maxHeartbeats 400000 in
theorem sub_any (a b n : Int) (w : World) (h : IsW n) (ha : U a) (hb : U b) : Calls Tryz.prog 86 #[.int .u64 a, .int .u64 b, .int .i64 n] w fun e w' => e = .returned (.tuple #[.int .u64 (cut n (a - b)), .int .i64 0]) ∧ Below w.heap.size w w' := by
  have hn := sub_num h a b
  go_enter Tryz.func86, Tryz.ntmps86
  go_wp2_with (first | (go_at_call 76; refine (width_yes _ h _).mono ?_; rintro e w' ⟨rfl, rfl⟩) | (go_at_call 110; refine (lower_any _ _ _ h ?_).mono ?_; (first | exact ha | exact u_wrap _); rintro e w' ⟨rfl, rfl⟩) | (go_at_call 111; refine (of2_sub _ _ _ _ _ _ _ h hb ?_ ?_ ?_).mono ?_; (simp [go_sem]); (simp [go_sem]); (simp [go_sem]); rintro e w' ⟨rfl, q, rfl⟩) | go_in)
  go_ret2
  exact ⟨rfl, bel_of⟩

set_option maxHeartbeats 400000 in
theorem sub_no (a b n : Int) (w : World) (h : NoW n) : Calls Tryz.prog 86 #[.int .u64 a, .int .u64 b, .int .i64 n] w fun e w' => e = .returned (.tuple #[.int .u64 0, .int .i64 1]) ∧ Below w.heap.size w w' := by
  go_enter Tryz.func86, Tryz.ntmps86
  go_wp2_with (first | (go_at_call 76; refine (width_no _ _ h).mono ?_; rintro e w' ⟨rfl, rfl⟩) | go_in)
  go_ret2
  exact ⟨rfl, bel_of (q := 0)⟩

theorem mul1 (x y : Int) (w : World) : Calls Tryz.prog 100 #[.int .u64 x, .int .u64 y] w fun e w' => e = .returned (.int .u64 (IntKind.u64.wrap (x * y))) ∧ w' = w := by
  go_enter Tryz.func100, Tryz.ntmps100
  go_wp2
  go_ret
  exact ⟨rfl, rfl⟩

set_option maxHeartbeats 400000 in
theorem of2_mul (x b n : Int) (w : World) (p1 p2 p3 : Nat) (h : IsW n) (hb : U b)
    (c1 : w.cell? ⟨p1, 0, none⟩ = some (.func (.func 100) #[] #[])) (c2 : w.cell? ⟨p2, 0, none⟩ = some (.int .u64 b)) (c3 : w.cell? ⟨p3, 0, none⟩ = some (.int .i64 n)) :
    Calls Tryz.prog 111 #[.int .u64 x, .pointer (some ⟨p1, 0, none⟩), .pointer (some ⟨p2, 0, none⟩), .pointer (some ⟨p3, 0, none⟩)] w fun e w' => e = .returned (.int .u64 (IntKind.u64.wrap (x * cut n b))) ∧ ∃ q, w' = w.drewN q := by
  go_enter Tryz.func111, Tryz.ntmps111
  go_wp2_with fail
  go_quiet (first | (go_at_call 110; exact Calls.quiet_of_same (lower_any _ _ _ h hb)) | (go_at_call 100; exact Calls.quiet_of_same (mul1 _ _ _)))
  go_wp2
  go_ret
  exact ⟨rfl, _, rfl⟩

theorem mul_num {n : Int} (h : IsW n) (a b : Int) : cut n (IntKind.u64.wrap (cut n a * cut n b)) = cut n (a * b) := by
  rw [cut_wrap h, cut_mul]

set_option maxHeartbeats 400000 in
theorem mul_any (a b n : Int) (w : World) (h : IsW n) (ha : U a) (hb : U b) : Calls Tryz.prog 82 #[.int .u64 a, .int .u64 b, .int .i64 n] w fun e w' => e = .returned (.tuple #[.int .u64 (cut n (a * b)), .int .i64 0]) ∧ Below w.heap.size w w' := by
  have hn := mul_num h a b
  go_enter Tryz.func82, Tryz.ntmps82
  go_wp2_with (first | (go_at_call 76; refine (width_yes _ h _).mono ?_; rintro e w' ⟨rfl, rfl⟩) | (go_at_call 110; refine (lower_any _ _ _ h ?_).mono ?_; (first | exact ha | exact u_wrap _); rintro e w' ⟨rfl, rfl⟩) | (go_at_call 111; refine (of2_mul _ _ _ _ _ _ _ h hb ?_ ?_ ?_).mono ?_; (simp [go_sem]); (simp [go_sem]); (simp [go_sem]); rintro e w' ⟨rfl, q, rfl⟩) | go_in)
  go_ret2
  exact ⟨rfl, bel_of⟩

set_option maxHeartbeats 400000 in
theorem mul_no (a b n : Int) (w : World) (h : NoW n) : Calls Tryz.prog 82 #[.int .u64 a, .int .u64 b, .int .i64 n] w fun e w' => e = .returned (.tuple #[.int .u64 0, .int .i64 1]) ∧ Below w.heap.size w w' := by
  go_enter Tryz.func82, Tryz.ntmps82
  go_wp2_with (first | (go_at_call 76; refine (width_no _ _ h).mono ?_; rintro e w' ⟨rfl, rfl⟩) | go_in)
  go_ret2
  exact ⟨rfl, bel_of (q := 0)⟩
end Go.Proofs.YtjddpfojllefgaaGreat

/-
  Types of numbers: what Binary answers.
-/
namespace Go.Proofs.YtjddpfojllefgaaGreat
open Go.RowKit
set_option linter.unusedSimpArgs false
set_option linter.unusedVariables false

/-- A shift. -/
def shf (k : Int) (s : Bool) (n a m : Int) : Int := if k = 14 then cut n (a * 2 ^ min m.toNat 64) else cut n (mn s n a / 2 ^ min m.toNat 64)
theorem shifted_any (k a m n : Int) (s : Bool) (w : World) (hk : k = 14 ∨ k = 15) (h : IsW n) (ha : U a) (hm : U m) : Calls Tryz.prog 63 #[.int .i64 k, .int .u64 a, .int .u64 m, .agg #[.int .i64 n, .bool s]] w fun e w' => e = .returned (.tuple #[.int .u64 (shf k s n a m), .int .i64 0]) ∧ Below w.heap.size w w' := by
  rcases hk with rfl | rfl
  · have HL := hide (fun w => shl_any a m n w h ha hm)
    have e1 : shf 14 s n a m = cut n (a * 2 ^ min m.toNat 64) := rfl
    rw [e1]
    generalize cut n (a * 2 ^ min m.toNat 64) = R at *
    go_enter Tryz.func63, Tryz.ntmps63
    go_wp2_with (go_at_call 79; refine (unhide HL _).mono ?_; rintro e w1 ⟨rfl, k1⟩)
    go_ret2
    exact ⟨rfl, bT (below_a _ _) k1⟩
  · have HL : Hid (∀ w, Calls Tryz.prog 80 #[.int .u64 a, .int .u64 m, .int .i64 n, .bool s] w fun e w' => e = .returned (.tuple #[.int .u64 (shf 15 s n a m), .int .i64 0]) ∧ Below w.heap.size w w') := by
      intro w
      cases s
      · have e1 : shf 15 false n a m = cut n a / 2 ^ min m.toNat 64 := cut_div h a _
        rw [e1]
        exact shr_u a m n w h ha hm
      · exact shr_s a m n w h ha hm
    generalize shf 15 s n a m = R at *
    go_enter Tryz.func63, Tryz.ntmps63
    go_wp2_with (go_at_call 80; refine (unhide HL _).mono ?_; rintro e w1 ⟨rfl, k1⟩)
    go_ret2
    exact ⟨rfl, bT (below_a _ _) k1⟩

/-- What neither shifts nor compares: the number, and what is told of it. -/
def wrk (k : Int) (s : Bool) (n a b : Int) : Int × Int :=
  if k = 9 then (cut n (a * b), 0) else if k = 10 then (if cut n b = 0 then (0, 10) else (cut n ((mn s n a).tdiv (mn s n b)), 0)) else if k = 11 then (if cut n b = 0 then (0, 10) else (cut n ((mn s n a).tmod (mn s n b)), 0))
  else if k = 12 then (cut n (a + b), 0) else if k = 13 then (cut n (a - b), 0) else if k = 22 then (bits .and .u64 a b, 0) else if k = 23 then (bits .xor .u64 a b, 0) else (bits .or .u64 a b, 0)
def wkB (k : Int) : Prop := k = 9 ∨ k = 10 ∨ k = 11 ∨ k = 12 ∨ k = 13 ∨ k = 22 ∨ k = 23 ∨ k = 24
theorem worked_any (k a b n : Int) (s : Bool) (w : World) (hk : wkB k) (h : IsW n) (ha : U a) (hb : U b) : Calls Tryz.prog 67 #[.int .i64 k, .int .u64 a, .int .u64 b, .agg #[.int .i64 n, .bool s]] w fun e w' => e = .returned (.tuple #[.int .u64 (wrk k s n a b).1, .int .i64 (wrk k s n a b).2]) ∧ Below w.heap.size w w' := by
  rcases hk with rfl | rfl | rfl | rfl | rfl | rfl | rfl | rfl
  · have HL := hide (fun w => mul_any a b n w h ha hb)
    have e1 : wrk 9 s n a b = (cut n (a * b), 0) := rfl
    rw [e1]
    generalize cut n (a * b) = R at *
    go_enter Tryz.func67, Tryz.ntmps67
    go_wp2_with (go_at_call 82; refine (unhide HL _).mono ?_; rintro e w1 ⟨rfl, k1⟩)
    go_ret2
    exact ⟨rfl, bT (below_a _ _) k1⟩
  · have HL : Hid (∀ w, Calls Tryz.prog 83 #[.int .u64 a, .int .u64 b, .int .i64 n, .bool s] w fun e w' => e = .returned (.tuple #[.int .u64 (wrk 10 s n a b).1, .int .i64 (wrk 10 s n a b).2]) ∧ Below w.heap.size w w') := by
      intro w
      by_cases hz : cut n b = 0
      · have e1 : wrk 10 s n a b = (0, 10) := by simp [wrk, hz]
        rw [e1]
        exact div_zero a b n s w h hb hz
      · cases s
        · have e1 : wrk 10 false n a b = (cut n a / cut n b, 0) := by
            have p := cut_lo h b
            have q := cut_lo h a
            simp only [wrk, hz, mn]
            simp
            rw [Int.tdiv_eq_ediv_of_nonneg q]
            exact divu_num h a b (by omega)
          rw [e1]
          exact div_u a b n w h ha hb hz
        · have e1 : wrk 10 true n a b = (cut n ((sgn n a).tdiv (sgn n b)), 0) := by simp [wrk, hz, mn]
          rw [e1]
          exact div_s a b n w h ha hb hz
    generalize (wrk 10 s n a b).1 = R at *
    generalize (wrk 10 s n a b).2 = E at *
    go_enter Tryz.func67, Tryz.ntmps67
    go_wp2_with (go_at_call 83; refine (unhide HL _).mono ?_; rintro e w1 ⟨rfl, k1⟩)
    go_ret2
    exact ⟨rfl, bT (below_a _ _) k1⟩
  · have HL : Hid (∀ w, Calls Tryz.prog 84 #[.int .u64 a, .int .u64 b, .int .i64 n, .bool s] w fun e w' => e = .returned (.tuple #[.int .u64 (wrk 11 s n a b).1, .int .i64 (wrk 11 s n a b).2]) ∧ Below w.heap.size w w') := by
      intro w
      by_cases hz : cut n b = 0
      · have e1 : wrk 11 s n a b = (0, 10) := by simp [wrk, hz]
        rw [e1]
        exact rem_zero a b n s w h hb hz
      · cases s
        · have e1 : wrk 11 false n a b = (cut n a % cut n b, 0) := by
            have p := cut_lo h b
            have q := cut_lo h a
            simp only [wrk, hz, mn]
            simp
            rw [Int.tmod_eq_emod_of_nonneg q]
            exact remu_num h a b (by omega)
          rw [e1]
          exact rem_u a b n w h ha hb hz
        · have e1 : wrk 11 true n a b = (cut n ((sgn n a).tmod (sgn n b)), 0) := by simp [wrk, hz, mn]
          rw [e1]
          exact rem_s a b n w h ha hb hz
    generalize (wrk 11 s n a b).1 = R at *
    generalize (wrk 11 s n a b).2 = E at *
    go_enter Tryz.func67, Tryz.ntmps67
    go_wp2_with (go_at_call 84; refine (unhide HL _).mono ?_; rintro e w1 ⟨rfl, k1⟩)
    go_ret2
    exact ⟨rfl, bT (below_a _ _) k1⟩
  · have HL := hide (fun w => add_any a b n w h ha hb)
    have e1 : wrk 12 s n a b = (cut n (a + b), 0) := rfl
    rw [e1]
    generalize cut n (a + b) = R at *
    go_enter Tryz.func67, Tryz.ntmps67
    go_wp2_with (go_at_call 85; refine (unhide HL _).mono ?_; rintro e w1 ⟨rfl, k1⟩)
    go_ret2
    exact ⟨rfl, bT (below_a _ _) k1⟩
  · have HL := hide (fun w => sub_any a b n w h ha hb)
    have e1 : wrk 13 s n a b = (cut n (a - b), 0) := rfl
    rw [e1]
    generalize cut n (a - b) = R at *
    go_enter Tryz.func67, Tryz.ntmps67
    go_wp2_with (go_at_call 86; refine (unhide HL _).mono ?_; rintro e w1 ⟨rfl, k1⟩)
    go_ret2
    exact ⟨rfl, bT (below_a _ _) k1⟩
  · have e1 : wrk 22 s n a b = (bits .and .u64 a b, 0) := rfl
    rw [e1]
    go_enter Tryz.func67, Tryz.ntmps67
    go_wp2
    go_ret2
    exact ⟨rfl, below_a _ _⟩
  · have e1 : wrk 23 s n a b = (bits .xor .u64 a b, 0) := rfl
    rw [e1]
    go_enter Tryz.func67, Tryz.ntmps67
    go_wp2
    go_ret2
    exact ⟨rfl, below_a _ _⟩
  · have e1 : wrk 24 s n a b = (bits .or .u64 a b, 0) := rfl
    rw [e1]
    go_enter Tryz.func67, Tryz.ntmps67
    go_wp2
    go_ret2
    exact ⟨rfl, below_a _ _⟩
end Go.Proofs.YtjddpfojllefgaaGreat
