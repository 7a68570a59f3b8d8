/-
  What Cut, Signed, Shl, Shr and Less answer: at each width the number that is meant, elsewhere ErrKind; nothing that was there has turned.
-/
import Derived.Test.YtjlbenbfmookoabWidth
import Derived.Deep.QuietTactic
import Derived.BigQuiet
import Derived.WalkSmall
namespace Go.Proofs.Ytjlbenbfmookoab
open Go.RowKit
set_option linter.unusedSimpArgs false
set_option linter.unusedVariables false

theorem cutc1 (x : Int) (w : World) : Calls Try.prog 34 #[.int .u64 x] w fun e w' => e = .returned (.int .u64 x) ∧ w' = w := by
  go_enter Try.func34, Try.ntmps34
  go_wp2
  go_ret
  exact ⟨rfl, rfl⟩

set_option maxHeartbeats 400000 in
theorem cut_any (x n : Int) (w : World) (h : IsW n) (hx : U x) : Calls Try.prog 18 #[.int .u64 x, .int .i64 n] w fun e w' => e = .returned (.tuple #[.int .u64 (cut n x), .int .i64 0]) ∧ w' = w := by
  have hn := cut_cut n x
  go_enter Try.func18, Try.ntmps18
  go_wp2_with (first | (go_at_call 27; refine (width_yes _ h _).mono ?_; rintro e w' ⟨rfl, rfl⟩) | (go_at_call 28; refine (lower_any _ _ _ h ?_).mono ?_; (first | exact hx | exact u_cut h _); rintro e w' ⟨rfl, rfl⟩) | go_in)
  go_ret2
  exact ⟨rfl, rfl⟩

set_option maxHeartbeats 400000 in
theorem cut_no (x n : Int) (w : World) (h : NoW n) : Calls Try.prog 18 #[.int .u64 x, .int .i64 n] w fun e w' => e = .returned (.tuple #[.int .u64 0, .int .i64 1]) ∧ w' = w := by
  go_enter Try.func18, Try.ntmps18
  go_wp2_with (first | (go_at_call 27; refine (width_no _ _ h).mono ?_; rintro e w' ⟨rfl, rfl⟩) | go_in)
  go_ret2
  exact ⟨rfl, rfl⟩

set_option maxHeartbeats 400000 in
theorem shl1 (x k : Int) (w : World) (p : Nat) (hk : 0 ≤ k) (c : w.cell? ⟨p, 0, none⟩ = some (.int .u64 k)) : Calls Try.prog 36 #[.int .u64 x, .pointer (some ⟨p, 0, none⟩)] w fun e w' => e = .returned (.int .u64 (IntKind.u64.wrap (x * 2 ^ min k.toNat 64))) ∧ ∃ q, w' = w.drewN q := by
  go_enter Try.func36, Try.ntmps36
  go_wp2
  go_ret
  exact ⟨rfl, 0, rfl⟩

theorem shl_num {n : Int} (h : IsW n) (a : Int) (m : Nat) : cut n (IntKind.u64.wrap (cut n a * 2 ^ m)) = cut n (a * 2 ^ m) := by
  rw [cut_wrap h, cut_mul_left]

set_option maxHeartbeats 400000 in
theorem shl_any (a k n : Int) (w : World) (h : IsW n) (ha : U a) (hk : U k) : Calls Try.prog 20 #[.int .u64 a, .int .u64 k, .int .i64 n] w fun e w' => e = .returned (.tuple #[.int .u64 (cut n (a * 2 ^ min k.toNat 64)), .int .i64 0]) ∧ Below w.heap.size w w' := by
  have hn := shl_num h a (min k.toNat 64)
  go_enter Try.func20, Try.ntmps20
  go_wp2_with (first | (go_at_call 27; refine (width_yes _ h _).mono ?_; rintro e w' ⟨rfl, rfl⟩) | (go_at_call 28; refine (lower_any _ _ _ h ?_).mono ?_; (first | exact ha | exact u_wrap _); rintro e w' ⟨rfl, rfl⟩) | (go_at_call 36; refine (shl1 _ k _ _ hk.1 ?_).mono ?_; (simp [go_sem]); rintro e w' ⟨rfl, q, rfl⟩) | go_in)
  go_ret2
  exact ⟨rfl, below_drewN ((Below.refl _ _).alloc (Nat.le_refl _) _) _⟩

set_option maxHeartbeats 400000 in
theorem shl_no (a k n : Int) (w : World) (h : NoW n) : Calls Try.prog 20 #[.int .u64 a, .int .u64 k, .int .i64 n] w fun e w' => e = .returned (.tuple #[.int .u64 0, .int .i64 1]) ∧ Below w.heap.size w w' := by
  go_enter Try.func20, Try.ntmps20
  go_wp2_with (first | (go_at_call 27; refine (width_no _ _ h).mono ?_; rintro e w' ⟨rfl, rfl⟩) | go_in)
  go_ret2
  exact ⟨rfl, (Below.refl _ _).alloc (Nat.le_refl _) _⟩

set_option maxHeartbeats 400000 in
theorem shr1_u (x k n : Int) (w : World) (p1 p2 p3 : Nat) (hk : 0 ≤ k) (c1 : w.cell? ⟨p1, 0, none⟩ = some (.bool false)) (_c2 : w.cell? ⟨p2, 0, none⟩ = some (.int .i64 n)) (c3 : w.cell? ⟨p3, 0, none⟩ = some (.int .u64 k)) :
    Calls Try.prog 37 #[.int .u64 x, .pointer (some ⟨p1, 0, none⟩), .pointer (some ⟨p2, 0, none⟩), .pointer (some ⟨p3, 0, none⟩)] w fun e w' => e = .returned (.int .u64 (x / 2 ^ min k.toNat 64)) ∧ ∃ q, w' = w.drewN q := by
  go_enter Try.func37, Try.ntmps37
  go_wp2
  go_ret
  exact ⟨rfl, 0, rfl⟩

set_option maxHeartbeats 400000 in
theorem shr1_s (x k n : Int) (w : World) (p1 p2 p3 : Nat) (h : IsW n) (hx : U x) (hk : 0 ≤ k) (c1 : w.cell? ⟨p1, 0, none⟩ = some (.bool true)) (c2 : w.cell? ⟨p2, 0, none⟩ = some (.int .i64 n)) (c3 : w.cell? ⟨p3, 0, none⟩ = some (.int .u64 k)) :
    Calls Try.prog 37 #[.int .u64 x, .pointer (some ⟨p1, 0, none⟩), .pointer (some ⟨p2, 0, none⟩), .pointer (some ⟨p3, 0, none⟩)] w fun e w' => e = .returned (.int .u64 (IntKind.u64.wrap (sgn n x / 2 ^ min k.toNat 64))) ∧ ∃ q, w' = w.drewN q := by
  go_enter Try.func37, Try.ntmps37
  go_wp2_with fail
  go_quiet (first | (go_at_call 35; exact Calls.quiet_of_same (meaning_any _ _ _ h hx)))
  go_wp2
  go_ret
  exact ⟨rfl, _, rfl⟩

theorem shrs_num {n : Int} (h : IsW n) (a : Int) (m : Nat) : cut n (IntKind.u64.wrap (sgn n (cut n a) / 2 ^ m)) = cut n (sgn n a / 2 ^ m) := by
  rw [cut_wrap h, sgn_cut]

theorem bel3 {w : World} {a b c : Obj} {q : Nat} : Below w.heap.size w ((((w.alloc a).alloc b).alloc c).drewN q) :=
  below_drewN ((((Below.refl _ _).alloc (Nat.le_refl _) _).alloc (by simp) _).alloc (by simp; omega) _) q

set_option maxHeartbeats 400000 in
theorem shr_u (a k n : Int) (w : World) (h : IsW n) (ha : U a) (hk : U k) : Calls Try.prog 21 #[.int .u64 a, .int .u64 k, .int .i64 n, .bool false] w fun e w' => e = .returned (.tuple #[.int .u64 (cut n a / 2 ^ min k.toNat 64), .int .i64 0]) ∧ Below w.heap.size w w' := by
  have hn := cut_div h a (min k.toNat 64)
  go_enter Try.func21, Try.ntmps21
  go_wp2_with (first | (go_at_call 27; refine (width_yes _ h _).mono ?_; rintro e w' ⟨rfl, rfl⟩) | (go_at_call 28; refine (lower_any _ _ _ h ?_).mono ?_; (first | exact ha | exact u_div h _ _); rintro e w' ⟨rfl, rfl⟩) | (go_at_call 37; refine (shr1_u _ k n _ _ _ _ hk.1 ?_ ?_ ?_).mono ?_; (simp [go_sem]); (simp [go_sem]); (simp [go_sem]); rintro e w' ⟨rfl, q, rfl⟩) | go_in)
  go_ret2
  exact ⟨rfl, bel3⟩

set_option maxHeartbeats 400000 in
theorem shr_s (a k n : Int) (w : World) (h : IsW n) (ha : U a) (hk : U k) : Calls Try.prog 21 #[.int .u64 a, .int .u64 k, .int .i64 n, .bool true] w fun e w' => e = .returned (.tuple #[.int .u64 (cut n (sgn n a / 2 ^ min k.toNat 64)), .int .i64 0]) ∧ Below w.heap.size w w' := by
  have hn := shrs_num h a (min k.toNat 64)
  go_enter Try.func21, Try.ntmps21
  go_wp2_with (first | (go_at_call 27; refine (width_yes _ h _).mono ?_; rintro e w' ⟨rfl, rfl⟩) | (go_at_call 28; refine (lower_any _ _ _ h ?_).mono ?_; (first | exact ha | exact u_wrap _); rintro e w' ⟨rfl, rfl⟩) | (go_at_call 37; refine (shr1_s _ k n _ _ _ _ h (u_cut h _) hk.1 ?_ ?_ ?_).mono ?_; (simp [go_sem]); (simp [go_sem]); (simp [go_sem]); rintro e w' ⟨rfl, q, rfl⟩) | go_in)
  go_ret2
  exact ⟨rfl, bel3⟩

set_option maxHeartbeats 400000 in
theorem shr_no (a k n : Int) (s : Bool) (w : World) (h : NoW n) : Calls Try.prog 21 #[.int .u64 a, .int .u64 k, .int .i64 n, .bool s] w fun e w' => e = .returned (.tuple #[.int .u64 0, .int .i64 1]) ∧ Below w.heap.size w w' := by
  go_enter Try.func21, Try.ntmps21
  go_wp2_with (first | (go_at_call 27; refine (width_no _ _ h).mono ?_; rintro e w' ⟨rfl, rfl⟩) | go_in)
  go_ret2
  exact ⟨rfl, bel3 (q := 0)⟩

set_option maxHeartbeats 400000 in
theorem less_u (a b n : Int) (w : World) (h : IsW n) (ha : U a) (hb : U b) : Calls Try.prog 19 #[.int .u64 a, .int .u64 b, .int .i64 n, .bool false] w fun e w' => e = .returned (.tuple #[.bool (decide (cut n a < cut n b)), .int .i64 0]) ∧ w' = w := by
  go_enter Try.func19, Try.ntmps19
  go_wp2_with (first | (go_at_call 27; refine (width_yes _ h _).mono ?_; rintro e w' ⟨rfl, rfl⟩) | (go_at_call 28; refine (lower_any _ _ _ h ?_).mono ?_; (first | exact ha | exact hb); rintro e w' ⟨rfl, rfl⟩))
  go_ret2
  exact ⟨rfl, rfl⟩

set_option maxHeartbeats 400000 in
theorem less_s (a b n : Int) (w : World) (h : IsW n) (ha : U a) (hb : U b) : Calls Try.prog 19 #[.int .u64 a, .int .u64 b, .int .i64 n, .bool true] w fun e w' => e = .returned (.tuple #[.bool (decide (sgn n a < sgn n b)), .int .i64 0]) ∧ w' = w := by
  go_enter Try.func19, Try.ntmps19
  go_wp2_with (first | (go_at_call 27; refine (width_yes _ h _).mono ?_; rintro e w' ⟨rfl, rfl⟩) | (go_at_call 35; refine (meaning_any _ _ _ h ?_).mono ?_; (first | exact ha | exact hb); rintro e w' ⟨rfl, rfl⟩))
  go_ret2
  exact ⟨rfl, rfl⟩
end Go.Proofs.Ytjlbenbfmookoab
