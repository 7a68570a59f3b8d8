/-
  What Div and Rem answer: at each width the quotient and the rest of what is meant, ErrZero by nought, elsewhere ErrKind; and what Signed answers.
-/
import Derived.Test.YtaidefdbjcgcbaaGreatPlainz
import Derived.Deep.QuietTactic
import Derived.BigQuiet
import Derived.Deep.RegionWith
import Derived.WalkSmall
namespace Go.Proofs.YtaidefdbjcgcbaaGreat
open Go.RowKit
set_option linter.unusedSimpArgs false
set_option linter.unusedVariables false

theorem signed_any (x n : Int) (w : World) (h : IsW n) (hx : U x) : Calls Tryz.prog 122 #[.int .u64 x, .int .i64 n] w fun e w' => e = .returned (.tuple #[.int .i64 (sgn n x), .int .i64 0]) ∧ w' = w := by
  go_enter Tryz.func122, Tryz.ntmps122
  go_wp2_with (first | (go_at_call 120; refine (width_yes _ h _).mono ?_; rintro e w' ⟨rfl, rfl⟩) | (go_at_call 151; refine (meaning_any _ _ _ h hx).mono ?_; rintro e w' ⟨rfl, rfl⟩))
  go_ret2
  exact ⟨rfl, rfl⟩
theorem signed_no (x n : Int) (w : World) (h : NoW n) : Calls Tryz.prog 122 #[.int .u64 x, .int .i64 n] w fun e w' => e = .returned (.tuple #[.int .i64 0, .int .i64 1]) ∧ w' = w := by
  go_enter Tryz.func122, Tryz.ntmps122
  go_wp2_with (first | (go_at_call 120; refine (width_no _ _ h).mono ?_; rintro e w' ⟨rfl, rfl⟩))
  go_ret2
  exact ⟨rfl, rfl⟩

theorem bel5 {w : World} {a b c d e : Obj} {q : Nat} : Below w.heap.size w ((((((w.alloc a).alloc b).alloc c).alloc d).alloc e).drewN q) :=
  below_drewN ((((((Below.refl _ _).alloc (Nat.le_refl _) _).alloc (by simp) _).alloc (by simp; omega) _).alloc (by simp; omega) _).alloc (by simp; omega) _) q
theorem bel2 {w : World} {a b : Obj} : Below w.heap.size w ((w.alloc a).alloc b) :=
  ((Below.refl _ _).alloc (Nat.le_refl _) _).alloc (by simp) _

theorem wrap64_cut {n : Int} (h : IsW n) (z : Int) : cut n (IntKind.u64.wrap (wrap64 z)) = cut n z := by
  rw [cut_wrap h]
  obtain ⟨d, hd⟩ := md_dvd h
  have e : wrap64 z = z + md n * (d * (- ((z + 9223372036854775808) / 18446744073709551616))) := by
    rw [← Int.mul_assoc, ← hd]; unfold wrap64; omega
  unfold cut; rw [e, Int.add_mul_emod_self_left]
theorem sgn_zero {n : Int} (h : IsW n) {x : Int} (hx : ¬ cut n x = 0) : ¬ sgn n x = 0 := by
  have h0 := cut_lo h x; have h1 := cut_lt h x
  unfold sgn; split <;> omega
theorem quo_le {n : Int} (h : IsW n) (a : Int) {b : Int} (hb : 1 ≤ b) : 0 ≤ cut n a / b ∧ cut n a / b ≤ cut n a := by
  have h0 := cut_lo h a
  exact ⟨Int.ediv_nonneg h0 (by omega), Int.ediv_le_self _ h0⟩
theorem rem_le {n : Int} (h : IsW n) (a : Int) {b : Int} (hb : 1 ≤ b) : 0 ≤ cut n a % b ∧ cut n a % b ≤ cut n a := by
  have h0 := cut_lo h a
  have h2 := Int.mul_ediv_add_emod (cut n a) b
  have h3 : 0 ≤ b * (cut n a / b) := Int.mul_nonneg (by omega) (Int.ediv_nonneg h0 (by omega))
  exact ⟨Int.emod_nonneg _ (by omega), by omega⟩

set_option maxHeartbeats 400000 in
theorem div1_u (x y : Int) (w : World) (p1 : Nat) (v : Value) (hx : 0 ≤ x) (hx' : x ≤ 18446744073709551615) (hy : 1 ≤ y) (c1 : w.cell? ⟨p1, 0, none⟩ = some (.bool false)) :
    Calls Tryz.prog 179 #[.int .u64 x, .int .u64 y, .pointer (some ⟨p1, 0, none⟩), v] w fun e w' => e = .returned (.int .u64 (x / y)) ∧ w' = w := by
  go_enter Tryz.func179, Tryz.ntmps179
  go_wp2
  go_ret
  exact ⟨rfl, rfl⟩

set_option maxHeartbeats 400000 in
theorem div1_s (x y n : Int) (w : World) (p1 p2 : Nat) (h : IsW n) (hx : U x) (hy : U y) (hne : ¬ sgn n y = 0) (c1 : w.cell? ⟨p1, 0, none⟩ = some (.bool true)) (c2 : w.cell? ⟨p2, 0, none⟩ = some (.int .i64 n)) :
    Calls Tryz.prog 179 #[.int .u64 x, .int .u64 y, .pointer (some ⟨p1, 0, none⟩), .pointer (some ⟨p2, 0, none⟩)] w fun e w' => e = .returned (.int .u64 (IntKind.u64.wrap (wrap64 ((sgn n x).tdiv (sgn n y))))) ∧ ∃ q, w' = w.drewN q := by
  go_enter Tryz.func179, Tryz.ntmps179
  go_wp2_with fail
  go_quiet (first | (go_at_call_of 151 (Value.int .u64 x); exact Calls.quiet_of_same (meaning_any _ _ _ h hx)) | (go_at_call_of 151 (Value.int .u64 y); exact Calls.quiet_of_same (meaning_any _ _ _ h hy)))
  go_wp2
  go_ret
  exact ⟨rfl, _, rfl⟩

set_option maxHeartbeats 400000 in
theorem of2_divu (x b n : Int) (w : World) (p1 p2 p3 ps : Nat) (v : Value) (h : IsW n) (hb : U b) (hx : 0 ≤ x) (hx' : x ≤ 18446744073709551615) (hne : 1 ≤ cut n b)
    (c1 : w.cell? ⟨p1, 0, none⟩ = some (.func (.func 179) #[] #[.pointer (some ⟨ps, 0, none⟩), v])) (c2 : w.cell? ⟨p2, 0, none⟩ = some (.int .u64 b)) (c3 : w.cell? ⟨p3, 0, none⟩ = some (.int .i64 n)) (c4 : w.cell? ⟨ps, 0, none⟩ = some (.bool false)) :
    Calls Tryz.prog 185 #[.int .u64 x, .pointer (some ⟨p1, 0, none⟩), .pointer (some ⟨p2, 0, none⟩), .pointer (some ⟨p3, 0, none⟩)] w fun e w' => e = .returned (.int .u64 (x / cut n b)) ∧ ∃ q, w' = w.drewN q := by
  go_enter Tryz.func185, Tryz.ntmps185
  go_wp2_with fail
  go_quiet (first | (go_at_call 184; exact Calls.quiet_of_same (lower_any _ _ _ h hb)) | (go_at_call 179; exact Calls.quiet_of_same (div1_u _ _ _ _ _ hx hx' hne c4)))
  go_wp2
  go_ret
  exact ⟨rfl, _, rfl⟩

set_option maxHeartbeats 400000 in
theorem of2_divs (x b n : Int) (w : World) (p1 p2 p3 ps pw : Nat) (h : IsW n) (hb : U b) (hx : U x) (hne : ¬ sgn n (cut n b) = 0)
    (c1 : w.cell? ⟨p1, 0, none⟩ = some (.func (.func 179) #[] #[.pointer (some ⟨ps, 0, none⟩), .pointer (some ⟨pw, 0, none⟩)])) (c2 : w.cell? ⟨p2, 0, none⟩ = some (.int .u64 b)) (c3 : w.cell? ⟨p3, 0, none⟩ = some (.int .i64 n)) (c4 : w.cell? ⟨ps, 0, none⟩ = some (.bool true)) (c5 : w.cell? ⟨pw, 0, none⟩ = some (.int .i64 n)) :
    Calls Tryz.prog 185 #[.int .u64 x, .pointer (some ⟨p1, 0, none⟩), .pointer (some ⟨p2, 0, none⟩), .pointer (some ⟨p3, 0, none⟩)] w fun e w' => e = .returned (.int .u64 (IntKind.u64.wrap (wrap64 ((sgn n x).tdiv (sgn n (cut n b)))))) ∧ ∃ q, w' = w.drewN q := by
  go_enter Tryz.func185, Tryz.ntmps185
  go_wp2_with fail
  go_quiet (first | (go_at_call 184; exact Calls.quiet_of_same (lower_any _ _ _ h hb)) | (go_at_call 179; exact Calls.quiet_of (div1_s _ _ _ _ _ _ h hx (u_cut h _) hne c4 c5)))
  go_wp2
  go_ret
  exact ⟨rfl, _, rfl⟩

theorem divu_num {n : Int} (h : IsW n) (a b : Int) (hb : 1 ≤ cut n b) : cut n (cut n a / cut n b) = cut n a / cut n b := by
  have h1 := quo_le h a hb
  have h2 := cut_lt h a
  exact cut_of h1.1 (by omega)
theorem divs_num {n : Int} (h : IsW n) (a b : Int) : cut n (IntKind.u64.wrap (wrap64 ((sgn n (cut n a)).tdiv (sgn n (cut n b))))) = cut n ((sgn n a).tdiv (sgn n b)) := by
  rw [wrap64_cut h, sgn_cut, sgn_cut]
theorem divu_u {n : Int} (h : IsW n) (a b : Int) (hb : 1 ≤ cut n b) : U (cut n a / cut n b) := by
  have h1 := quo_le h a hb
  have h2 := cut_hi h a
  exact ⟨h1.1, by omega⟩

set_option maxHeartbeats 400000 in
theorem div_u (a b n : Int) (w : World) (h : IsW n) (ha : U a) (hb : U b) (hne : ¬ cut n b = 0) : Calls Tryz.prog 157 #[.int .u64 a, .int .u64 b, .int .i64 n, .bool false] w fun e w' => e = .returned (.tuple #[.int .u64 (cut n a / cut n b), .int .i64 0]) ∧ Below w.heap.size w w' := by
  have hp : 1 ≤ cut n b := by have := cut_lo h b; omega
  have hn := divu_num h a b hp
  have HA := hide (cut_lo h a)
  have HB := hide (cut_hi h a)
  have hz : (cut n b == 0) = false := beq_eq_false_iff_ne.2 hne
  have HP := hide hp
  clear hne hp
  go_enter Tryz.func157, Tryz.ntmps157
  go_wp2_with (first | (go_at_call 120; refine (width_yes _ h _).mono ?_; rintro e w' ⟨rfl, hw⟩; subst w') | (go_at_call_of 184 (Value.int .u64 a); refine (lower_any _ _ _ h ha).mono ?_; rintro e w' ⟨rfl, hw⟩; subst w') | (go_at_call_of 184 (Value.int .u64 b); refine (lower_any _ _ _ h hb).mono ?_; rintro e w' ⟨rfl, hw⟩; subst w') | (go_at_call 184; refine (lower_any _ _ _ h (divu_u h _ _ (unhide HP))).mono ?_; rintro e w' ⟨rfl, hw⟩; subst w') | (go_at_call 185; refine (of2_divu _ _ _ _ _ _ _ (w.heap.size + 1) (.pointer (some ⟨w.heap.size, 0, none⟩)) h hb (unhide HA) (unhide HB) (unhide HP) ?_ ?_ ?_ ?_).mono ?_; (simp [go_sem]); (simp [go_sem]); (simp [go_sem]); (simp [go_sem]); rintro e w' ⟨rfl, q, rfl⟩) | go_in)
  go_ret2
  exact ⟨rfl, bel5⟩

set_option maxHeartbeats 400000 in
theorem div_s (a b n : Int) (w : World) (h : IsW n) (ha : U a) (hb : U b) (hne : ¬ cut n b = 0) : Calls Tryz.prog 157 #[.int .u64 a, .int .u64 b, .int .i64 n, .bool true] w fun e w' => e = .returned (.tuple #[.int .u64 (cut n ((sgn n a).tdiv (sgn n b))), .int .i64 0]) ∧ Below w.heap.size w w' := by
  have HS := hide (sgn_zero h (x := cut n b) (by rw [cut_cut]; exact hne))
  have hn := divs_num h a b
  have hz : (cut n b == 0) = false := beq_eq_false_iff_ne.2 hne
  clear hne
  go_enter Tryz.func157, Tryz.ntmps157
  go_wp2_with (first | (go_at_call 120; refine (width_yes _ h _).mono ?_; rintro e w' ⟨rfl, hw⟩; subst w') | (go_at_call_of 184 (Value.int .u64 a); refine (lower_any _ _ _ h ha).mono ?_; rintro e w' ⟨rfl, hw⟩; subst w') | (go_at_call_of 184 (Value.int .u64 b); refine (lower_any _ _ _ h hb).mono ?_; rintro e w' ⟨rfl, hw⟩; subst w') | (go_at_call 184; refine (lower_any _ _ _ h (u_wrap _)).mono ?_; rintro e w' ⟨rfl, hw⟩; subst w') | (go_at_call 185; refine (of2_divs _ _ _ _ _ _ _ (w.heap.size + 1) w.heap.size h hb (u_cut h _) (unhide HS) ?_ ?_ ?_ ?_ ?_).mono ?_; (simp [go_sem]); (simp [go_sem]); (simp [go_sem]); (simp [go_sem]); (simp [go_sem]); rintro e w' ⟨rfl, q, rfl⟩) | go_in)
  go_ret2
  exact ⟨rfl, bel5⟩

set_option maxHeartbeats 400000 in
theorem div_zero (a b n : Int) (s : Bool) (w : World) (h : IsW n) (hb : U b) (hz : cut n b = 0) : Calls Tryz.prog 157 #[.int .u64 a, .int .u64 b, .int .i64 n, .bool s] w fun e w' => e = .returned (.tuple #[.int .u64 0, .int .i64 10]) ∧ Below w.heap.size w w' := by
  go_enter Tryz.func157, Tryz.ntmps157
  go_wp2_with (first | (go_at_call 120; refine (width_yes _ h _).mono ?_; rintro e w' ⟨rfl, rfl⟩) | (go_at_call 184; refine (lower_any _ _ _ h hb).mono ?_; rintro e w' ⟨rfl, rfl⟩) | go_in)
  go_ret2
  exact ⟨rfl, bel2⟩

set_option maxHeartbeats 400000 in
theorem div_no (a b n : Int) (s : Bool) (w : World) (h : NoW n) : Calls Tryz.prog 157 #[.int .u64 a, .int .u64 b, .int .i64 n, .bool s] w fun e w' => e = .returned (.tuple #[.int .u64 0, .int .i64 1]) ∧ Below w.heap.size w w' := by
  go_enter Tryz.func157, Tryz.ntmps157
  go_wp2_with (first | (go_at_call 120; refine (width_no _ _ h).mono ?_; rintro e w' ⟨rfl, rfl⟩) | go_in)
  go_ret2
  exact ⟨rfl, bel2⟩

set_option maxHeartbeats 400000 in
theorem rem1_u (x y : Int) (w : World) (p1 : Nat) (v : Value) (hx : 0 ≤ x) (hx' : x ≤ 18446744073709551615) (hy : 1 ≤ y) (c1 : w.cell? ⟨p1, 0, none⟩ = some (.bool false)) :
    Calls Tryz.prog 180 #[.int .u64 x, .int .u64 y, .pointer (some ⟨p1, 0, none⟩), v] w fun e w' => e = .returned (.int .u64 (x % y)) ∧ w' = w := by
  go_enter Tryz.func180, Tryz.ntmps180
  go_wp2
  go_ret
  exact ⟨rfl, rfl⟩

set_option maxHeartbeats 400000 in
theorem rem1_s (x y n : Int) (w : World) (p1 p2 : Nat) (h : IsW n) (hx : U x) (hy : U y) (hne : ¬ sgn n y = 0) (c1 : w.cell? ⟨p1, 0, none⟩ = some (.bool true)) (c2 : w.cell? ⟨p2, 0, none⟩ = some (.int .i64 n)) :
    Calls Tryz.prog 180 #[.int .u64 x, .int .u64 y, .pointer (some ⟨p1, 0, none⟩), .pointer (some ⟨p2, 0, none⟩)] w fun e w' => e = .returned (.int .u64 (IntKind.u64.wrap ((sgn n x).tmod (sgn n y)))) ∧ ∃ q, w' = w.drewN q := by
  go_enter Tryz.func180, Tryz.ntmps180
  go_wp2_with fail
  go_quiet (first | (go_at_call_of 151 (Value.int .u64 x); exact Calls.quiet_of_same (meaning_any _ _ _ h hx)) | (go_at_call_of 151 (Value.int .u64 y); exact Calls.quiet_of_same (meaning_any _ _ _ h hy)))
  go_wp2
  go_ret
  exact ⟨rfl, _, rfl⟩

set_option maxHeartbeats 400000 in
theorem of2_remu (x b n : Int) (w : World) (p1 p2 p3 ps : Nat) (v : Value) (h : IsW n) (hb : U b) (hx : 0 ≤ x) (hx' : x ≤ 18446744073709551615) (hne : 1 ≤ cut n b)
    (c1 : w.cell? ⟨p1, 0, none⟩ = some (.func (.func 180) #[] #[.pointer (some ⟨ps, 0, none⟩), v])) (c2 : w.cell? ⟨p2, 0, none⟩ = some (.int .u64 b)) (c3 : w.cell? ⟨p3, 0, none⟩ = some (.int .i64 n)) (c4 : w.cell? ⟨ps, 0, none⟩ = some (.bool false)) :
    Calls Tryz.prog 185 #[.int .u64 x, .pointer (some ⟨p1, 0, none⟩), .pointer (some ⟨p2, 0, none⟩), .pointer (some ⟨p3, 0, none⟩)] w fun e w' => e = .returned (.int .u64 (x % cut n b)) ∧ ∃ q, w' = w.drewN q := by
  go_enter Tryz.func185, Tryz.ntmps185
  go_wp2_with fail
  go_quiet (first | (go_at_call 184; exact Calls.quiet_of_same (lower_any _ _ _ h hb)) | (go_at_call 180; exact Calls.quiet_of_same (rem1_u _ _ _ _ _ hx hx' hne c4)))
  go_wp2
  go_ret
  exact ⟨rfl, _, rfl⟩

set_option maxHeartbeats 400000 in
theorem of2_rems (x b n : Int) (w : World) (p1 p2 p3 ps pw : Nat) (h : IsW n) (hb : U b) (hx : U x) (hne : ¬ sgn n (cut n b) = 0)
    (c1 : w.cell? ⟨p1, 0, none⟩ = some (.func (.func 180) #[] #[.pointer (some ⟨ps, 0, none⟩), .pointer (some ⟨pw, 0, none⟩)])) (c2 : w.cell? ⟨p2, 0, none⟩ = some (.int .u64 b)) (c3 : w.cell? ⟨p3, 0, none⟩ = some (.int .i64 n)) (c4 : w.cell? ⟨ps, 0, none⟩ = some (.bool true)) (c5 : w.cell? ⟨pw, 0, none⟩ = some (.int .i64 n)) :
    Calls Tryz.prog 185 #[.int .u64 x, .pointer (some ⟨p1, 0, none⟩), .pointer (some ⟨p2, 0, none⟩), .pointer (some ⟨p3, 0, none⟩)] w fun e w' => e = .returned (.int .u64 (IntKind.u64.wrap ((sgn n x).tmod (sgn n (cut n b))))) ∧ ∃ q, w' = w.drewN q := by
  go_enter Tryz.func185, Tryz.ntmps185
  go_wp2_with fail
  go_quiet (first | (go_at_call 184; exact Calls.quiet_of_same (lower_any _ _ _ h hb)) | (go_at_call 180; exact Calls.quiet_of (rem1_s _ _ _ _ _ _ h hx (u_cut h _) hne c4 c5)))
  go_wp2
  go_ret
  exact ⟨rfl, _, rfl⟩

theorem remu_num {n : Int} (h : IsW n) (a b : Int) (hb : 1 ≤ cut n b) : cut n (cut n a % cut n b) = cut n a % cut n b := by
  have h1 := rem_le h a hb
  have h2 := cut_lt h a
  exact cut_of h1.1 (by omega)
theorem rems_num {n : Int} (h : IsW n) (a b : Int) : cut n (IntKind.u64.wrap ((sgn n (cut n a)).tmod (sgn n (cut n b)))) = cut n ((sgn n a).tmod (sgn n b)) := by
  rw [cut_wrap h, sgn_cut, sgn_cut]
theorem remu_u {n : Int} (h : IsW n) (a b : Int) (hb : 1 ≤ cut n b) : U (cut n a % cut n b) := by
  have h1 := rem_le h a hb
  have h2 := cut_hi h a
  exact ⟨h1.1, by omega⟩

set_option maxHeartbeats 400000 in
theorem rem_u (a b n : Int) (w : World) (h : IsW n) (ha : U a) (hb : U b) (hne : ¬ cut n b = 0) : Calls Tryz.prog 158 #[.int .u64 a, .int .u64 b, .int .i64 n, .bool false] w fun e w' => e = .returned (.tuple #[.int .u64 (cut n a % cut n b), .int .i64 0]) ∧ Below w.heap.size w w' := by
  have hp : 1 ≤ cut n b := by have := cut_lo h b; omega
  have hn := remu_num h a b hp
  have HA := hide (cut_lo h a)
  have HB := hide (cut_hi h a)
  have hz : (cut n b == 0) = false := beq_eq_false_iff_ne.2 hne
  have HP := hide hp
  clear hne hp
  go_enter Tryz.func158, Tryz.ntmps158
  go_wp2_with (first | (go_at_call 120; refine (width_yes _ h _).mono ?_; rintro e w' ⟨rfl, hw⟩; subst w') | (go_at_call_of 184 (Value.int .u64 a); refine (lower_any _ _ _ h ha).mono ?_; rintro e w' ⟨rfl, hw⟩; subst w') | (go_at_call_of 184 (Value.int .u64 b); refine (lower_any _ _ _ h hb).mono ?_; rintro e w' ⟨rfl, hw⟩; subst w') | (go_at_call 184; refine (lower_any _ _ _ h (remu_u h _ _ (unhide HP))).mono ?_; rintro e w' ⟨rfl, hw⟩; subst w') | (go_at_call 185; refine (of2_remu _ _ _ _ _ _ _ (w.heap.size + 1) (.pointer (some ⟨w.heap.size, 0, none⟩)) h hb (unhide HA) (unhide HB) (unhide HP) ?_ ?_ ?_ ?_).mono ?_; (simp [go_sem]); (simp [go_sem]); (simp [go_sem]); (simp [go_sem]); rintro e w' ⟨rfl, q, rfl⟩) | go_in)
  go_ret2
  exact ⟨rfl, bel5⟩

set_option maxHeartbeats 400000 in
theorem rem_s (a b n : Int) (w : World) (h : IsW n) (ha : U a) (hb : U b) (hne : ¬ cut n b = 0) : Calls Tryz.prog 158 #[.int .u64 a, .int .u64 b, .int .i64 n, .bool true] w fun e w' => e = .returned (.tuple #[.int .u64 (cut n ((sgn n a).tmod (sgn n b))), .int .i64 0]) ∧ Below w.heap.size w w' := by
  have HS := hide (sgn_zero h (x := cut n b) (by rw [cut_cut]; exact hne))
  have hn := rems_num h a b
  have hz : (cut n b == 0) = false := beq_eq_false_iff_ne.2 hne
  clear hne
  go_enter Tryz.func158, Tryz.ntmps158
  go_wp2_with (first | (go_at_call 120; refine (width_yes _ h _).mono ?_; rintro e w' ⟨rfl, hw⟩; subst w') | (go_at_call_of 184 (Value.int .u64 a); refine (lower_any _ _ _ h ha).mono ?_; rintro e w' ⟨rfl, hw⟩; subst w') | (go_at_call_of 184 (Value.int .u64 b); refine (lower_any _ _ _ h hb).mono ?_; rintro e w' ⟨rfl, hw⟩; subst w') | (go_at_call 184; refine (lower_any _ _ _ h (u_wrap _)).mono ?_; rintro e w' ⟨rfl, hw⟩; subst w') | (go_at_call 185; refine (of2_rems _ _ _ _ _ _ _ (w.heap.size + 1) w.heap.size h hb (u_cut h _) (unhide HS) ?_ ?_ ?_ ?_ ?_).mono ?_; (simp [go_sem]); (simp [go_sem]); (simp [go_sem]); (simp [go_sem]); (simp [go_sem]); rintro e w' ⟨rfl, q, rfl⟩) | go_in)
  go_ret2
  exact ⟨rfl, bel5⟩

set_option maxHeartbeats 400000 in
theorem rem_zero (a b n : Int) (s : Bool) (w : World) (h : IsW n) (hb : U b) (hz : cut n b = 0) : Calls Tryz.prog 158 #[.int .u64 a, .int .u64 b, .int .i64 n, .bool s] w fun e w' => e = .returned (.tuple #[.int .u64 0, .int .i64 10]) ∧ Below w.heap.size w w' := by
  go_enter Tryz.func158, Tryz.ntmps158
  go_wp2_with (first | (go_at_call 120; refine (width_yes _ h _).mono ?_; rintro e w' ⟨rfl, rfl⟩) | (go_at_call 184; refine (lower_any _ _ _ h hb).mono ?_; rintro e w' ⟨rfl, rfl⟩) | go_in)
  go_ret2
  exact ⟨rfl, bel2⟩

set_option maxHeartbeats 400000 in
theorem rem_no (a b n : Int) (s : Bool) (w : World) (h : NoW n) : Calls Tryz.prog 158 #[.int .u64 a, .int .u64 b, .int .i64 n, .bool s] w fun e w' => e = .returned (.tuple #[.int .u64 0, .int .i64 1]) ∧ Below w.heap.size w w' := by
  go_enter Tryz.func158, Tryz.ntmps158
  go_wp2_with (first | (go_at_call 120; refine (width_no _ _ h).mono ?_; rintro e w' ⟨rfl, rfl⟩) | go_in)
  go_ret2
  exact ⟨rfl, bel2⟩
end Go.Proofs.YtaidefdbjcgcbaaGreat
