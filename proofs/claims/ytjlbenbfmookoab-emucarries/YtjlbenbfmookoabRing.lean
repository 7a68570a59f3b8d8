/-
  What Cut, Add, Sub, Mul, Shl, Shr and Less answer: at each width the number that is meant, elsewhere 0 and ErrKind; nothing that was there has turned.
-/
import Derived.Test.YtjlbenbfmookoabWidth
import Derived.Deep.QuietTactic
import Derived.BigQuiet
import Derived.WalkSmall
namespace Go.Proofs.Ytjlbenbfmookoab
open Go.RowKit
set_option linter.unusedSimpArgs false
set_option linter.unusedVariables false

theorem bel_of {w : World} {a b c : Obj} {q : Nat} : Below w.heap.size w ((((w.alloc a).alloc b).alloc c).drewN q) :=
  below_drewN ((((Below.refl _ _).alloc (Nat.le_refl _) _).alloc (by simp) _).alloc (by simp; omega) _) q

theorem add1 (x y : Int) (w : World) : Calls Try.prog 31 #[.int .u64 x, .int .u64 y] w fun e w' => e = .returned (.int .u64 (IntKind.u64.wrap (x + y))) ∧ w' = w := by
  go_enter Try.func31, Try.ntmps31
  go_wp2
  go_ret
  exact ⟨rfl, rfl⟩

set_option maxHeartbeats 400000 in
theorem of2_add (x b n : Int) (w : World) (p1 p2 p3 : Nat) (h : IsW n) (hb : U b)
    (c1 : w.cell? ⟨p1, 0, none⟩ = some (.func (.func 31) #[] #[])) (c2 : w.cell? ⟨p2, 0, none⟩ = some (.int .u64 b)) (c3 : w.cell? ⟨p3, 0, none⟩ = some (.int .i64 n)) :
    Calls Try.prog 45 #[.int .u64 x, .pointer (some ⟨p1, 0, none⟩), .pointer (some ⟨p2, 0, none⟩), .pointer (some ⟨p3, 0, none⟩)] w fun e w' => e = .returned (.int .u64 (IntKind.u64.wrap (x + cut n b))) ∧ ∃ q, w' = w.drewN q := by
  go_enter Try.func45, Try.ntmps45
  go_wp2_with fail
  go_quiet (first | (go_at_call 28; exact Calls.quiet_of_same (lower_any _ _ _ h hb)) | (go_at_call 31; exact Calls.quiet_of_same (add1 _ _ _)))
  go_wp2
  go_ret
  exact ⟨rfl, _, rfl⟩

theorem add_num {n : Int} (h : IsW n) (a b : Int) : cut n (IntKind.u64.wrap (cut n a + cut n b)) = cut n (a + b) := by
  rw [cut_wrap h, cut_add]

set_option maxHeartbeats 400000 in
theorem add_any (a b n : Int) (w : World) (h : IsW n) (ha : U a) (hb : U b) : Calls Try.prog 16 #[.int .u64 a, .int .u64 b, .int .i64 n] w fun e w' => e = .returned (.tuple #[.int .u64 (cut n (a + b)), .int .i64 0]) ∧ Below w.heap.size w w' := by
  have hn := add_num h a b
  go_enter Try.func16, Try.ntmps16
  go_wp2_with (first | (go_at_call 27; refine (width_yes _ h _).mono ?_; rintro e w' ⟨rfl, rfl⟩) | (go_at_call 28; refine (lower_any _ _ _ h ?_).mono ?_; (first | exact ha | exact u_wrap _); rintro e w' ⟨rfl, rfl⟩) | (go_at_call 45; refine (of2_add _ _ _ _ _ _ _ h hb ?_ ?_ ?_).mono ?_; (simp [go_sem]); (simp [go_sem]); (simp [go_sem]); rintro e w' ⟨rfl, q, rfl⟩) | go_in)
  go_ret2
  exact ⟨rfl, bel_of⟩

set_option maxHeartbeats 400000 in
theorem add_no (a b n : Int) (w : World) (h : NoW n) : Calls Try.prog 16 #[.int .u64 a, .int .u64 b, .int .i64 n] w fun e w' => e = .returned (.tuple #[.int .u64 0, .int .i64 1]) ∧ Below w.heap.size w w' := by
  go_enter Try.func16, Try.ntmps16
  go_wp2_with (first | (go_at_call 27; refine (width_no _ _ h).mono ?_; rintro e w' ⟨rfl, rfl⟩) | go_in)
  go_ret2
  exact ⟨rfl, bel_of (q := 0)⟩

theorem sub1 (x y : Int) (w : World) : Calls Try.prog 32 #[.int .u64 x, .int .u64 y] w fun e w' => e = .returned (.int .u64 (IntKind.u64.wrap (x - y))) ∧ w' = w := by
  go_enter Try.func32, Try.ntmps32
  go_wp2
  go_ret
  exact ⟨rfl, rfl⟩

set_option maxHeartbeats 400000 in
theorem of2_sub (x b n : Int) (w : World) (p1 p2 p3 : Nat) (h : IsW n) (hb : U b)
    (c1 : w.cell? ⟨p1, 0, none⟩ = some (.func (.func 32) #[] #[])) (c2 : w.cell? ⟨p2, 0, none⟩ = some (.int .u64 b)) (c3 : w.cell? ⟨p3, 0, none⟩ = some (.int .i64 n)) :
    Calls Try.prog 45 #[.int .u64 x, .pointer (some ⟨p1, 0, none⟩), .pointer (some ⟨p2, 0, none⟩), .pointer (some ⟨p3, 0, none⟩)] w fun e w' => e = .returned (.int .u64 (IntKind.u64.wrap (x - cut n b))) ∧ ∃ q, w' = w.drewN q := by
  go_enter Try.func45, Try.ntmps45
  go_wp2_with fail
  go_quiet (first | (go_at_call 28; exact Calls.quiet_of_same (lower_any _ _ _ h hb)) | (go_at_call 32; exact Calls.quiet_of_same (sub1 _ _ _)))
  go_wp2
  go_ret
  exact ⟨rfl, _, rfl⟩

theorem sub_num {n : Int} (h : IsW n) (a b : Int) : cut n (IntKind.u64.wrap (cut n a - cut n b)) = cut n (a - b) := by
  rw [cut_wrap h, cut_sub]

set_option maxHeartbeats 400000 in
theorem sub_any (a b n : Int) (w : World) (h : IsW n) (ha : U a) (hb : U b) : Calls Try.prog 17 #[.int .u64 a, .int .u64 b, .int .i64 n] w fun e w' => e = .returned (.tuple #[.int .u64 (cut n (a - b)), .int .i64 0]) ∧ Below w.heap.size w w' := by
  have hn := sub_num h a b
  go_enter Try.func17, Try.ntmps17
  go_wp2_with (first | (go_at_call 27; refine (width_yes _ h _).mono ?_; rintro e w' ⟨rfl, rfl⟩) | (go_at_call 28; refine (lower_any _ _ _ h ?_).mono ?_; (first | exact ha | exact u_wrap _); rintro e w' ⟨rfl, rfl⟩) | (go_at_call 45; refine (of2_sub _ _ _ _ _ _ _ h hb ?_ ?_ ?_).mono ?_; (simp [go_sem]); (simp [go_sem]); (simp [go_sem]); rintro e w' ⟨rfl, q, rfl⟩) | go_in)
  go_ret2
  exact ⟨rfl, bel_of⟩

set_option maxHeartbeats 400000 in
theorem sub_no (a b n : Int) (w : World) (h : NoW n) : Calls Try.prog 17 #[.int .u64 a, .int .u64 b, .int .i64 n] w fun e w' => e = .returned (.tuple #[.int .u64 0, .int .i64 1]) ∧ Below w.heap.size w w' := by
  go_enter Try.func17, Try.ntmps17
  go_wp2_with (first | (go_at_call 27; refine (width_no _ _ h).mono ?_; rintro e w' ⟨rfl, rfl⟩) | go_in)
  go_ret2
  exact ⟨rfl, bel_of (q := 0)⟩

end Go.Proofs.Ytjlbenbfmookoab
