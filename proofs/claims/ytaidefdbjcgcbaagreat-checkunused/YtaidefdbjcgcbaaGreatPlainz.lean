/-
  Plain facts on numbers cut to a width: no program in sight.
-/
import Derived.WalkKit
import Derived.Test.YtaidefdbjcgcbaaGreatRows
import Derived.WalkSpells
import Derived.WalkLawsBesides
import Derived.Deep.QuietTactic
import Derived.BigQuiet
import Derived.WalkSmall
namespace Go.Proofs.YtaidefdbjcgcbaaGreat
open Go.RowKit
set_option linter.unusedSimpArgs false
set_option linter.unusedVariables false

theorem hide {p : Prop} (h : p) : Hid p := h
theorem unhide {p : Prop} (h : Hid p) : p := h

/-- The four widths. -/
def IsW (n : Int) : Prop := n = 8 ∨ n = 16 ∨ n = 32 ∨ n = 64
/-- Two to the width. -/
def md (n : Int) : Int := 2 ^ n.toNat
/-- The lower bits. -/
def cut (n x : Int) : Int := x % md n
/-- What the lower bits mean with a sign. -/
def sgn (n x : Int) : Int := if 2 * cut n x < md n then cut n x else cut n x - md n

theorem md_8 : md 8 = 256 := by decide
theorem md_16 : md 16 = 65536 := by decide
theorem md_32 : md 32 = 4294967296 := by decide
theorem md_64 : md 64 = 18446744073709551616 := by decide

theorem u64_wrap (x : Int) : IntKind.u64.wrap x = x % 18446744073709551616 := by simp [IntKind.wrap, IntKind.bits, IntKind.signed]

theorem md_pos {n : Int} (h : IsW n) : 0 < md n := by
  rcases h with rfl | rfl | rfl | rfl <;> simp [md_8, md_16, md_32, md_64]
theorem md_le {n : Int} (h : IsW n) : md n ≤ 18446744073709551616 := by
  rcases h with rfl | rfl | rfl | rfl <;> simp [md_8, md_16, md_32, md_64]
theorem md_dvd {n : Int} (h : IsW n) : md n ∣ 18446744073709551616 := by
  rcases h with rfl | rfl | rfl | rfl
  · exact ⟨72057594037927936, by rw [md_8]; decide⟩
  · exact ⟨281474976710656, by rw [md_16]; decide⟩
  · exact ⟨4294967296, by rw [md_32]; decide⟩
  · exact ⟨1, by rw [md_64]; decide⟩

theorem cut_lo {n : Int} (h : IsW n) (x : Int) : 0 ≤ cut n x := Int.emod_nonneg _ (Int.ne_of_gt (md_pos h))
theorem cut_lt {n : Int} (h : IsW n) (x : Int) : cut n x < md n := Int.emod_lt_of_pos _ (md_pos h)
theorem cut_hi {n : Int} (h : IsW n) (x : Int) : cut n x ≤ 18446744073709551615 := by
  have := cut_lt h x; have := md_le h; omega
theorem cut_wrap {n : Int} (h : IsW n) (x : Int) : cut n (IntKind.u64.wrap x) = cut n x := by
  rw [u64_wrap]; exact Int.emod_emod_of_dvd _ (md_dvd h)
theorem cut_cut (n x : Int) : cut n (cut n x) = cut n x := Int.emod_emod ..
theorem cut_add (n x y : Int) : cut n (cut n x + cut n y) = cut n (x + y) := by unfold cut; exact (Int.add_emod ..).symm
theorem cut_sub (n x y : Int) : cut n (cut n x - cut n y) = cut n (x - y) := by unfold cut; exact (Int.sub_emod ..).symm
theorem cut_mul (n x y : Int) : cut n (cut n x * cut n y) = cut n (x * y) := by unfold cut; exact (Int.mul_emod ..).symm

/-- Within sixty-four bits. -/
def U (x : Int) : Prop := 0 ≤ x ∧ x ≤ 18446744073709551615
/-- No width. -/
def NoW (n : Int) : Prop := (n == 8) = false ∧ (n == 16) = false ∧ (n == 32) = false ∧ (n == 64) = false
theorem isW_or (n : Int) : IsW n ∨ NoW n := by
  unfold IsW NoW
  by_cases h1 : n = 8
  · exact .inl (.inl h1)
  by_cases h2 : n = 16
  · exact .inl (.inr (.inl h2))
  by_cases h3 : n = 32
  · exact .inl (.inr (.inr (.inl h3)))
  by_cases h4 : n = 64
  · exact .inl (.inr (.inr (.inr h4)))
  exact .inr ⟨beq_eq_false_iff_ne.2 h1, beq_eq_false_iff_ne.2 h2, beq_eq_false_iff_ne.2 h3, beq_eq_false_iff_ne.2 h4⟩
theorem u_cut {n : Int} (h : IsW n) (x : Int) : U (cut n x) := ⟨cut_lo h x, cut_hi h x⟩
theorem u_wrap (x : Int) : U (IntKind.u64.wrap x) := by rw [u64_wrap]; unfold U; omega
theorem u_num (k : Nat) (h : k ≤ 18446744073709551615) : U (k : Int) := ⟨by omega, by omega⟩
theorem cut_of {n x : Int} (h0 : 0 ≤ x) (h1 : x < md n) : cut n x = x := Int.emod_eq_of_lt h0 h1
theorem div_pow_le (x : Int) (k : Nat) (h : 0 ≤ x) : 0 ≤ x / 2 ^ k ∧ x / 2 ^ k ≤ x := by
  have hp : (0 : Int) < 2 ^ k := Int.pow_pos (by decide)
  refine ⟨Int.ediv_nonneg h (Int.le_of_lt hp), ?_⟩
  exact Int.ediv_le_self _ h
theorem cut_div {n : Int} (h : IsW n) (x : Int) (k : Nat) : cut n (cut n x / 2 ^ k) = cut n x / 2 ^ k := by
  have := div_pow_le (cut n x) k (cut_lo h x)
  have := cut_lt h x
  exact cut_of (by omega) (by omega)
theorem u_div {n : Int} (h : IsW n) (x : Int) (k : Nat) : U (cut n x / 2 ^ k) := by
  have := div_pow_le (cut n x) k (cut_lo h x)
  have := cut_hi h x
  exact ⟨by omega, by omega⟩
theorem sgn_cut (n x : Int) : sgn n (cut n x) = sgn n x := by unfold sgn; rw [cut_cut]
theorem cut_mul_left (n x y : Int) : cut n (cut n x * y) = cut n (x * y) := by unfold cut; rw [Int.mul_emod, Int.emod_emod, ← Int.mul_emod]

theorem and_cut_8 (x : Int) (hx : 0 ≤ x) (hx' : x ≤ 18446744073709551615) : bits .and .u64 x 255 = cut 8 x := by
  unfold cut; rw [md_8]; go_bits2
theorem and_cut_16 (x : Int) (hx : 0 ≤ x) (hx' : x ≤ 18446744073709551615) : bits .and .u64 x 65535 = cut 16 x := by
  unfold cut; rw [md_16]; go_bits2
theorem and_cut_32 (x : Int) (hx : 0 ≤ x) (hx' : x ≤ 18446744073709551615) : bits .and .u64 x 4294967295 = cut 32 x := by
  unfold cut; rw [md_32]; go_bits2
theorem and_cut_64 (x : Int) (hx : 0 ≤ x) (hx' : x ≤ 18446744073709551615) : bits .and .u64 x 18446744073709551615 = cut 64 x := by
  unfold cut; rw [md_64]; go_bits2
  have e : x.toNat &&& 18446744073709551615 = x.toNat % 18446744073709551616 := Nat.and_two_pow_sub_one_eq_mod x.toNat 64
  rw [e]; omega
theorem mean_8 (x : Int) : wrap64 (IntKind.u64.wrap (x * 72057594037927936)) / 72057594037927936 = sgn 8 x := by
  unfold sgn cut wrap64; rw [md_8, u64_wrap]; split <;> omega
theorem mean_16 (x : Int) : wrap64 (IntKind.u64.wrap (x * 281474976710656)) / 281474976710656 = sgn 16 x := by
  unfold sgn cut wrap64; rw [md_16, u64_wrap]; split <;> omega
theorem mean_32 (x : Int) : wrap64 (IntKind.u64.wrap (x * 4294967296)) / 4294967296 = sgn 32 x := by
  unfold sgn cut wrap64; rw [md_32, u64_wrap]; split <;> omega
theorem mean_64 (x : Int) : wrap64 x = sgn 64 x := by
  unfold sgn cut wrap64; rw [md_64]; split <;> omega
def mn (s : Bool) (n x : Int) : Int := if s = true then sgn n x else cut n x
theorem mn_cut (s : Bool) (n x : Int) : mn s n (cut n x) = mn s n x := by
  unfold mn
  rw [sgn_cut, cut_cut]
theorem cut_sgn {n : Int} (x : Int) : cut n (sgn n x) = cut n x := by
  unfold sgn
  split
  · exact cut_cut n x
  · unfold cut
    rw [Int.sub_emod, Int.emod_self, Int.emod_emod, Int.sub_zero, Int.emod_emod]
theorem cut_mn (s : Bool) (n x : Int) : cut n (mn s n x) = cut n x := by
  unfold mn
  split
  · exact cut_sgn x
  · exact cut_cut n x
end Go.Proofs.YtaidefdbjcgcbaaGreat

/-
  What Width, lower and meaning answer at each of the four widths, and that Width says no elsewhere.
-/
namespace Go.Proofs.YtaidefdbjcgcbaaGreat
open Go.RowKit
set_option linter.unusedSimpArgs false
set_option linter.unusedVariables false

theorem ret_eq {a b : Value} (h : a = b) : Ending.returned a = .returned b := by rw [h]

theorem width_no (n : Int) (w : World) (h : NoW n) :
    Calls Tryz.prog 120 #[.int .i64 n] w fun e w' => e = .returned (.bool false) ∧ w' = w := by
  obtain ⟨h1, h2, h3, h4⟩ := h
  go_enter Tryz.func120, Tryz.ntmps120
  go_wp2
  go_ret
  exact ⟨rfl, rfl⟩

theorem width_yes (n : Int) (h : IsW n) (w : World) : Calls Tryz.prog 120 #[.int .i64 n] w fun e w' => e = .returned (.bool true) ∧ w' = w := by
  rcases h with rfl | rfl | rfl | rfl
  all_goals
    go_enter Tryz.func120, Tryz.ntmps120
    go_wp2
    go_ret
    exact ⟨rfl, rfl⟩

theorem lower_any (x n : Int) (w : World) (h : IsW n) (hx : U x) : Calls Tryz.prog 184 #[.int .u64 x, .int .i64 n] w fun e w' => e = .returned (.int .u64 (cut n x)) ∧ w' = w := by
  have e1 := and_cut_8 x hx.1 hx.2
  have e2 := and_cut_16 x hx.1 hx.2
  have e3 := and_cut_32 x hx.1 hx.2
  have e4 := and_cut_64 x hx.1 hx.2
  rcases h with rfl | rfl | rfl | rfl
  all_goals
    go_enter Tryz.func184, Tryz.ntmps184
    go_wp2
    go_ret
    exact ⟨rfl, rfl⟩

theorem meaning_any (x n : Int) (w : World) (h : IsW n) (hx : U x) : Calls Tryz.prog 151 #[.int .u64 x, .int .i64 n] w fun e w' => e = .returned (.int .i64 (sgn n x)) ∧ w' = w := by
  obtain ⟨hx0, hx1⟩ := hx
  rcases h with rfl | rfl | rfl | rfl
  · go_enter Tryz.func151, Tryz.ntmps151
    go_wp2
    go_ret
    exact ⟨ret_eq (congrArg _ (mean_8 x)), rfl⟩
  · go_enter Tryz.func151, Tryz.ntmps151
    go_wp2
    go_ret
    exact ⟨ret_eq (congrArg _ (mean_16 x)), rfl⟩
  · go_enter Tryz.func151, Tryz.ntmps151
    go_wp2
    go_ret
    exact ⟨ret_eq (congrArg _ (mean_32 x)), rfl⟩
  · go_enter Tryz.func151, Tryz.ntmps151
    go_wp2
    go_ret
    exact ⟨ret_eq (congrArg _ (mean_64 x)), rfl⟩

end Go.Proofs.YtaidefdbjcgcbaaGreat

/-
  What Cut, Signed, Shl, Shr and Less answer: at each width the number that is meant, elsewhere ErrKind; nothing that was there has turned.
-/
namespace Go.Proofs.YtaidefdbjcgcbaaGreat
open Go.RowKit
set_option linter.unusedSimpArgs false
set_option linter.unusedVariables false

theorem cutc1 (x : Int) (w : World) : Calls Tryz.prog 172 #[.int .u64 x] w fun e w' => e = .returned (.int .u64 x) ∧ w' = w := by
  go_enter Tryz.func172, Tryz.ntmps172
  go_wp2
  go_ret
  exact ⟨rfl, rfl⟩

set_option maxHeartbeats 400000 in
theorem cut_any (x n : Int) (w : World) (h : IsW n) (hx : U x) : Calls Tryz.prog 152 #[.int .u64 x, .int .i64 n] w fun e w' => e = .returned (.tuple #[.int .u64 (cut n x), .int .i64 0]) ∧ w' = w := by
  have hn := cut_cut n x
  go_enter Tryz.func152, Tryz.ntmps152
  go_wp2_with (first | (go_at_call 120; refine (width_yes _ h _).mono ?_; rintro e w' ⟨rfl, rfl⟩) | (go_at_call 184; refine (lower_any _ _ _ h ?_).mono ?_; (first | exact hx | exact u_cut h _); rintro e w' ⟨rfl, rfl⟩) | go_in)
  go_ret2
  exact ⟨rfl, rfl⟩

set_option maxHeartbeats 400000 in
theorem cut_no (x n : Int) (w : World) (h : NoW n) : Calls Tryz.prog 152 #[.int .u64 x, .int .i64 n] w fun e w' => e = .returned (.tuple #[.int .u64 0, .int .i64 1]) ∧ w' = w := by
  go_enter Tryz.func152, Tryz.ntmps152
  go_wp2_with (first | (go_at_call 120; refine (width_no _ _ h).mono ?_; rintro e w' ⟨rfl, rfl⟩) | go_in)
  go_ret2
  exact ⟨rfl, rfl⟩

set_option maxHeartbeats 400000 in
theorem shl1 (x k : Int) (w : World) (p : Nat) (hk : 0 ≤ k) (c : w.cell? ⟨p, 0, none⟩ = some (.int .u64 k)) : Calls Tryz.prog 173 #[.int .u64 x, .pointer (some ⟨p, 0, none⟩)] w fun e w' => e = .returned (.int .u64 (IntKind.u64.wrap (x * 2 ^ min k.toNat 64))) ∧ ∃ q, w' = w.drewN q := by
  go_enter Tryz.func173, Tryz.ntmps173
  go_wp2
  go_ret
  exact ⟨rfl, 0, rfl⟩

theorem shl_num {n : Int} (h : IsW n) (a : Int) (m : Nat) : cut n (IntKind.u64.wrap (cut n a * 2 ^ m)) = cut n (a * 2 ^ m) := by
  rw [cut_wrap h, cut_mul_left]

set_option maxHeartbeats 400000 in
theorem shl_any (a k n : Int) (w : World) (h : IsW n) (ha : U a) (hk : U k) : Calls Tryz.prog 153 #[.int .u64 a, .int .u64 k, .int .i64 n] w fun e w' => e = .returned (.tuple #[.int .u64 (cut n (a * 2 ^ min k.toNat 64)), .int .i64 0]) ∧ Below w.heap.size w w' := by
  have hn := shl_num h a (min k.toNat 64)
  go_enter Tryz.func153, Tryz.ntmps153
  go_wp2_with (first | (go_at_call 120; refine (width_yes _ h _).mono ?_; rintro e w' ⟨rfl, rfl⟩) | (go_at_call 184; refine (lower_any _ _ _ h ?_).mono ?_; (first | exact ha | exact u_wrap _); rintro e w' ⟨rfl, rfl⟩) | (go_at_call 173; refine (shl1 _ k _ _ hk.1 ?_).mono ?_; (simp [go_sem]); rintro e w' ⟨rfl, q, rfl⟩) | go_in)
  go_ret2
  exact ⟨rfl, below_drewN ((Below.refl _ _).alloc (Nat.le_refl _) _) _⟩

set_option maxHeartbeats 400000 in
theorem shl_no (a k n : Int) (w : World) (h : NoW n) : Calls Tryz.prog 153 #[.int .u64 a, .int .u64 k, .int .i64 n] w fun e w' => e = .returned (.tuple #[.int .u64 0, .int .i64 1]) ∧ Below w.heap.size w w' := by
  go_enter Tryz.func153, Tryz.ntmps153
  go_wp2_with (first | (go_at_call 120; refine (width_no _ _ h).mono ?_; rintro e w' ⟨rfl, rfl⟩) | go_in)
  go_ret2
  exact ⟨rfl, (Below.refl _ _).alloc (Nat.le_refl _) _⟩

set_option maxHeartbeats 400000 in
theorem shr1_u (x k n : Int) (w : World) (p1 p2 p3 : Nat) (hk : 0 ≤ k) (c1 : w.cell? ⟨p1, 0, none⟩ = some (.bool false)) (_c2 : w.cell? ⟨p2, 0, none⟩ = some (.int .i64 n)) (c3 : w.cell? ⟨p3, 0, none⟩ = some (.int .u64 k)) :
    Calls Tryz.prog 174 #[.int .u64 x, .pointer (some ⟨p1, 0, none⟩), .pointer (some ⟨p2, 0, none⟩), .pointer (some ⟨p3, 0, none⟩)] w fun e w' => e = .returned (.int .u64 (x / 2 ^ min k.toNat 64)) ∧ ∃ q, w' = w.drewN q := by
  go_enter Tryz.func174, Tryz.ntmps174
  go_wp2
  go_ret
  exact ⟨rfl, 0, rfl⟩

set_option maxHeartbeats 400000 in
theorem shr1_s (x k n : Int) (w : World) (p1 p2 p3 : Nat) (h : IsW n) (hx : U x) (hk : 0 ≤ k) (c1 : w.cell? ⟨p1, 0, none⟩ = some (.bool true)) (c2 : w.cell? ⟨p2, 0, none⟩ = some (.int .i64 n)) (c3 : w.cell? ⟨p3, 0, none⟩ = some (.int .u64 k)) :
    Calls Tryz.prog 174 #[.int .u64 x, .pointer (some ⟨p1, 0, none⟩), .pointer (some ⟨p2, 0, none⟩), .pointer (some ⟨p3, 0, none⟩)] w fun e w' => e = .returned (.int .u64 (IntKind.u64.wrap (sgn n x / 2 ^ min k.toNat 64))) ∧ ∃ q, w' = w.drewN q := by
  go_enter Tryz.func174, Tryz.ntmps174
  go_wp2_with fail
  go_quiet (first | (go_at_call 151; exact Calls.quiet_of_same (meaning_any _ _ _ h hx)))
  go_wp2
  go_ret
  exact ⟨rfl, _, rfl⟩

theorem shrs_num {n : Int} (h : IsW n) (a : Int) (m : Nat) : cut n (IntKind.u64.wrap (sgn n (cut n a) / 2 ^ m)) = cut n (sgn n a / 2 ^ m) := by
  rw [cut_wrap h, sgn_cut]

theorem bel3 {w : World} {a b c : Obj} {q : Nat} : Below w.heap.size w ((((w.alloc a).alloc b).alloc c).drewN q) :=
  below_drewN ((((Below.refl _ _).alloc (Nat.le_refl _) _).alloc (by simp) _).alloc (by simp; omega) _) q

set_option maxHeartbeats 400000 in
theorem shr_u (a k n : Int) (w : World) (h : IsW n) (ha : U a) (hk : U k) : Calls Tryz.prog 154 #[.int .u64 a, .int .u64 k, .int .i64 n, .bool false] w fun e w' => e = .returned (.tuple #[.int .u64 (cut n a / 2 ^ min k.toNat 64), .int .i64 0]) ∧ Below w.heap.size w w' := by
  have hn := cut_div h a (min k.toNat 64)
  go_enter Tryz.func154, Tryz.ntmps154
  go_wp2_with (first | (go_at_call 120; refine (width_yes _ h _).mono ?_; rintro e w' ⟨rfl, rfl⟩) | (go_at_call 184; refine (lower_any _ _ _ h ?_).mono ?_; (first | exact ha | exact u_div h _ _); rintro e w' ⟨rfl, rfl⟩) | (go_at_call 174; refine (shr1_u _ k n _ _ _ _ hk.1 ?_ ?_ ?_).mono ?_; (simp [go_sem]); (simp [go_sem]); (simp [go_sem]); rintro e w' ⟨rfl, q, rfl⟩) | go_in)
  go_ret2
  exact ⟨rfl, bel3⟩

set_option maxHeartbeats 400000 in
theorem shr_s (a k n : Int) (w : World) (h : IsW n) (ha : U a) (hk : U k) : Calls Tryz.prog 154 #[.int .u64 a, .int .u64 k, .int .i64 n, .bool true] w fun e w' => e = .returned (.tuple #[.int .u64 (cut n (sgn n a / 2 ^ min k.toNat 64)), .int .i64 0]) ∧ Below w.heap.size w w' := by
  have hn := shrs_num h a (min k.toNat 64)
  go_enter Tryz.func154, Tryz.ntmps154
  go_wp2_with (first | (go_at_call 120; refine (width_yes _ h _).mono ?_; rintro e w' ⟨rfl, rfl⟩) | (go_at_call 184; refine (lower_any _ _ _ h ?_).mono ?_; (first | exact ha | exact u_wrap _); rintro e w' ⟨rfl, rfl⟩) | (go_at_call 174; refine (shr1_s _ k n _ _ _ _ h (u_cut h _) hk.1 ?_ ?_ ?_).mono ?_; (simp [go_sem]); (simp [go_sem]); (simp [go_sem]); rintro e w' ⟨rfl, q, rfl⟩) | go_in)
  go_ret2
  exact ⟨rfl, bel3⟩

set_option maxHeartbeats 400000 in
theorem shr_no (a k n : Int) (s : Bool) (w : World) (h : NoW n) : Calls Tryz.prog 154 #[.int .u64 a, .int .u64 k, .int .i64 n, .bool s] w fun e w' => e = .returned (.tuple #[.int .u64 0, .int .i64 1]) ∧ Below w.heap.size w w' := by
  go_enter Tryz.func154, Tryz.ntmps154
  go_wp2_with (first | (go_at_call 120; refine (width_no _ _ h).mono ?_; rintro e w' ⟨rfl, rfl⟩) | go_in)
  go_ret2
  exact ⟨rfl, bel3 (q := 0)⟩

set_option maxHeartbeats 400000 in
theorem less_u (a b n : Int) (w : World) (h : IsW n) (ha : U a) (hb : U b) : Calls Tryz.prog 175 #[.int .u64 a, .int .u64 b, .int .i64 n, .bool false] w fun e w' => e = .returned (.tuple #[.bool (decide (cut n a < cut n b)), .int .i64 0]) ∧ w' = w := by
  go_enter Tryz.func175, Tryz.ntmps175
  go_wp2_with (first | (go_at_call 120; refine (width_yes _ h _).mono ?_; rintro e w' ⟨rfl, rfl⟩) | (go_at_call 184; refine (lower_any _ _ _ h ?_).mono ?_; (first | exact ha | exact hb); rintro e w' ⟨rfl, rfl⟩))
  go_ret2
  exact ⟨rfl, rfl⟩

set_option maxHeartbeats 400000 in
theorem less_s (a b n : Int) (w : World) (h : IsW n) (ha : U a) (hb : U b) : Calls Tryz.prog 175 #[.int .u64 a, .int .u64 b, .int .i64 n, .bool true] w fun e w' => e = .returned (.tuple #[.bool (decide (sgn n a < sgn n b)), .int .i64 0]) ∧ w' = w := by
  go_enter Tryz.func175, Tryz.ntmps175
  go_wp2_with (first | (go_at_call 120; refine (width_yes _ h _).mono ?_; rintro e w' ⟨rfl, rfl⟩) | (go_at_call 151; refine (meaning_any _ _ _ h ?_).mono ?_; (first | exact ha | exact hb); rintro e w' ⟨rfl, rfl⟩))
  go_ret2
  exact ⟨rfl, rfl⟩
end Go.Proofs.YtaidefdbjcgcbaaGreat
