/-
  WordParts answers true: quotient and rest make the number, and the rest is less than the divisor.
-/
import Derived.Test.YtljccpgcfkgllaaAlive
import Derived.Test.YtljccpgcfkgllaaShift
import Derived.Test.YtljccpgcfkgllaaDiv
import Derived.Test.YtljccpgcfkgllaaPlain2
namespace Go.Proofs.Ytljccpgcfkgllaa
open Go.RowKit

theorem cut_sgn {n : Int} (x : Int) : cut n (sgn n x) = cut n x := by
  unfold sgn; split
  · exact cut_cut n x
  · have : cut n x - md n = cut n x + md n * (-1) := by omega
    unfold cut at *; rw [this, Int.add_mul_emod_self_left, Int.emod_emod]
theorem sgn_lo {n : Int} (h : IsW n) (x : Int) : - md n ≤ 2 * sgn n x ∧ 2 * sgn n x < md n := by
  have h0 := cut_lo h x; have h1 := cut_lt h x
  unfold sgn; split <;> omega
theorem sgn_of {n : Int} (h : IsW n) {x : Int} (h0 : - md n ≤ 2 * x) (h1 : 2 * x < md n) : sgn n (cut n x) = x := by
  rw [sgn_cut]
  have hp := md_pos h
  by_cases hx : 0 ≤ x
  · have e : cut n x = x := cut_of hx (by omega)
    unfold sgn; rw [e, if_pos h1]
  · have e : cut n x = x + md n := by
      have : cut n (x + md n) = cut n x := by
        have : x + md n = x + md n * 1 := by omega
        unfold cut; rw [this, Int.add_mul_emod_self_left]
      rw [← this]; exact cut_of (by omega) (by omega)
    unfold sgn; rw [e, if_neg (by omega)]; omega
theorem tmod_abs (x y : Int) (hy : y ≠ 0) : (x.tmod y).natAbs < y.natAbs := by
  rw [Int.natAbs_tmod]; exact Nat.mod_lt _ (by omega)
theorem tmod_sign (x y : Int) : (0 ≤ x → 0 ≤ x.tmod y) ∧ (x ≤ 0 → x.tmod y ≤ 0) := by
  refine ⟨fun h => Int.tmod_nonneg y h, fun h => ?_⟩
  have := Int.tmod_nonneg y (a := -x) (by omega)
  rw [Int.neg_tmod] at this; omega
theorem make_u (n a b : Int) : cut n (cut n (cut n a / cut n b * b) + cut n a % cut n b) = cut n a := by
  have m : ∀ q : Int, cut n (q * b) = cut n (q * cut n b) := fun q => by rw [← cut_mul n q b, ← cut_mul n q (cut n b), cut_cut]
  have l : ∀ s t : Int, cut n (cut n s + t) = cut n (s + t) := fun s t => by rw [← cut_add, cut_cut, cut_add]
  rw [m, l, Int.mul_comm, Int.mul_ediv_add_emod, cut_cut]
theorem make_s (n a b : Int) : cut n (cut n (cut n ((sgn n a).tdiv (sgn n b)) * b) + cut n ((sgn n a).tmod (sgn n b))) = cut n a := by
  have e : cut n (cut n ((sgn n a).tdiv (sgn n b)) * b) = cut n ((sgn n a).tdiv (sgn n b) * sgn n b) := by
    rw [← cut_mul n _ (sgn n b), cut_sgn, ← cut_mul n _ b, cut_cut]
  rw [e, cut_add, Int.mul_comm, Int.mul_tdiv_add_tmod, cut_sgn]

set_option maxHeartbeats 400000 in
theorem wp_no (a b n : Int) (s : Bool) (w : World) (h : NoW n) :
    Calls Try.prog 8 #[.int .u64 a, .int .u64 b, .int .i64 n, .bool s] w fun e w' => e = .returned (.bool true) ∧ Below w.heap.size w w' := by
  go_enter Try.func8, Try.ntmps8
  go_wp2_with fail
  refine (alive_any _).mono ?_
  rintro e w1 ⟨rfl, k1⟩
  go_wp2_with fail
  refine (div_no _ _ _ _ _ h).mono ?_
  rintro e w2 ⟨rfl, k2⟩
  go_wp2_with fail
  refine (rem_no _ _ _ _ _ h).mono ?_
  rintro e w3 ⟨rfl, k3⟩
  go_wp2
  go_ret
  exact ⟨rfl, bt (bt k1 k2) k3⟩

set_option maxHeartbeats 400000 in
theorem wp_zero (a b n : Int) (s : Bool) (w : World) (h : IsW n) (hb : U b) (hz : cut n b = 0) :
    Calls Try.prog 8 #[.int .u64 a, .int .u64 b, .int .i64 n, .bool s] w fun e w' => e = .returned (.bool true) ∧ Below w.heap.size w w' := by
  have HZ := hide hz
  clear hz
  go_enter Try.func8, Try.ntmps8
  go_wp2_with fail
  refine (alive_any _).mono ?_
  rintro e w1 ⟨rfl, k1⟩
  go_wp2_with fail
  refine (div_zero _ _ _ _ _ h hb (unhide HZ)).mono ?_
  rintro e w2 ⟨rfl, k2⟩
  go_wp2_with fail
  refine (rem_zero _ _ _ _ _ h hb (unhide HZ)).mono ?_
  rintro e w3 ⟨rfl, k3⟩
  go_wp2
  go_ret
  exact ⟨rfl, bt (bt k1 k2) k3⟩

set_option maxHeartbeats 1000000 in
theorem wp_u (a b n : Int) (w : World) (h : IsW n) (ha : U a) (hb : U b) (hne : ¬ cut n b = 0) :
    Calls Try.prog 8 #[.int .u64 a, .int .u64 b, .int .i64 n, .bool false] w fun e w' => e = .returned (.bool true) ∧ Below w.heap.size w w' := by
  have hp : 1 ≤ cut n b := by have := cut_lo h b; omega
  have UQ := divu_u h a b hp
  have UR := remu_u h a b hp
  have HM := hide (make_u n a b)
  have hlt : cut n a % cut n b < cut n b := Int.emod_lt_of_pos _ (by omega)
  have HD := hide (div_u a b n · h ha hb hne)
  have HR := hide (rem_u a b n · h ha hb hne)
  have HC := hide (cut_any a n · h ha)
  have HB := hide (cut_any b n · h hb)
  generalize cut n a / cut n b = q at UQ HM HD
  generalize cut n a % cut n b = r at UR HM HR hlt
  generalize cut n a = A at HM HC
  generalize cut n b = B at HB hlt
  clear hne hp
  go_enter Try.func8, Try.ntmps8
  go_wp2_with fail
  refine (alive_any _).mono ?_
  rintro e w1 ⟨rfl, k1⟩
  go_wp2_with fail
  refine (unhide HD _).mono ?_
  rintro e w2 ⟨rfl, k2⟩
  go_wp2_with fail
  refine (unhide HR _).mono ?_
  rintro e w3 ⟨rfl, k3⟩
  go_wp2_with fail
  refine (mul_any q b n _ h UQ hb).mono ?_
  rintro e w4 ⟨rfl, k4⟩
  go_wp2_with fail
  refine (add_any (cut n (q * b)) r n _ h (u_cut h _) UR).mono ?_
  rw [unhide HM]
  rintro e w5 ⟨rfl, k5⟩
  go_wp2_with fail
  refine (unhide HC _).mono ?_
  rintro e w6 ⟨rfl, rfl⟩
  go_wp2_with fail
  refine (unhide HB _).mono ?_
  rintro e w7 ⟨rfl, rfl⟩
  go_wp2
  go_ret
  exact ⟨rfl, bt (bt (bt (bt k1 k2) k3) k4) k5⟩

set_option maxHeartbeats 1000000 in
theorem wp_s (a b n : Int) (w : World) (h : IsW n) (ha : U a) (hb : U b) (hne : ¬ cut n b = 0) :
    Calls Try.prog 8 #[.int .u64 a, .int .u64 b, .int .i64 n, .bool true] w fun e w' => e = .returned (.bool true) ∧ Below w.heap.size w w' := by
  have hs0 : ¬ sgn n b = 0 := sgn_zero h hne
  have ba := sgn_lo h a
  have bb := sgn_lo h b
  have hml := md_le h
  have hsg := tmod_sign (sgn n a) (sgn n b)
  have hab := tmod_abs (sgn n a) (sgn n b) hs0
  have HM := hide (make_s n a b)
  have HD := hide (div_s a b n · h ha hb hne)
  have HR := hide (rem_s a b n · h ha hb hne)
  have HC := hide (cut_any a n · h ha)
  have HB := hide (cut_any b n · h hb)
  have UQ := u_cut h ((sgn n a).tdiv (sgn n b))
  have UR := u_cut h ((sgn n a).tmod (sgn n b))
  have UA := u_cut h a
  have UB := u_cut h b
  have HX : Hid (sgn n (cut n ((sgn n a).tmod (sgn n b))) = (sgn n a).tmod (sgn n b)) := sgn_of h (by omega) (by omega)
  have HY : Hid (sgn n (cut n b) = sgn n b) := sgn_cut n b
  have HZ : Hid (sgn n (cut n a) = sgn n a) := sgn_cut n a
  generalize cut n ((sgn n a).tdiv (sgn n b)) = q at UQ HM HD
  generalize cut n ((sgn n a).tmod (sgn n b)) = r at UR HM HR HX
  generalize (sgn n a).tmod (sgn n b) = x at hsg hab HX
  generalize cut n a = A at HM HC UA HZ
  generalize cut n b = B at HB UB HY hne
  generalize sgn n a = z at ba hsg HZ
  generalize sgn n b = y at bb hab HY hs0
  have x0 : -9223372036854775808 ≤ x := by omega
  have x1 : x ≤ 9223372036854775807 := by omega
  have y0 : -9223372036854775808 ≤ y := by omega
  have y1 : y ≤ 9223372036854775807 := by omega
  have HAB := hide hab
  have s1 : 0 < x → ¬ z < 0 := by omega
  have s2 : x < 0 → ¬ 0 < z := by omega
  clear hsg hab ba bb hml hne hs0
  have S1 := hide s1
  have S2 := hide s2
  clear s1 s2
  by_cases cx : 0 < x
  all_goals by_cases cy : 0 < y
  all_goals by_cases cx2 : x < 0
  all_goals first | (exfalso; omega; done) | skip
  all_goals first | (have cz := unhide S1 cx) | (have cz := unhide S2 cx2) | skip
  all_goals clear S1 S2
  all_goals
    go_enter Try.func8, Try.ntmps8
    go_wp2_with fail
    refine (alive_any _).mono ?_
    rintro e w1 ⟨rfl, k1⟩
    go_wp2_with fail
    refine (unhide HD _).mono ?_
    rintro e w2 ⟨rfl, k2⟩
    go_wp2_with fail
    refine (unhide HR _).mono ?_
    rintro e w3 ⟨rfl, k3⟩
    go_wp2_with fail
    refine (mul_any q b n _ h UQ hb).mono ?_
    rintro e w4 ⟨rfl, k4⟩
    go_wp2_with fail
    refine (add_any (cut n (q * b)) r n _ h (u_cut h _) UR).mono ?_
    rw [unhide HM]
    rintro e w5 ⟨rfl, k5⟩
    go_wp2_with fail
    refine (unhide HC _).mono ?_
    rintro e w6 ⟨rfl, rfl⟩
    go_wp2_with fail
    refine (unhide HB _).mono ?_
    rintro e w7 ⟨rfl, rfl⟩
    go_wp2_with fail
    refine (signed_any r n _ h UR).mono ?_
    rw [unhide HX]
    rintro e w8 ⟨rfl, rfl⟩
    go_wp2_with fail
    refine (signed_any B n _ h UB).mono ?_
    rw [unhide HY]
    rintro e w9 ⟨rfl, rfl⟩
    go_wp2_with fail
    refine (signed_any A n _ h UA).mono ?_
    rw [unhide HZ]
    rintro e w10 ⟨rfl, rfl⟩
    go_wp2
    go_ret
    refine ⟨ret_eq (congrArg _ (decide_eq_true ?_)), bt (bt (bt (bt k1 k2) k3) k4) k5⟩
    have := unhide HAB
    omega

theorem walk_wordParts (a0 a1 a2 : Int) (a3 : Bool) (w0 : (Lit.int .u64 a0).wf = true) (w1 : (Lit.int .u64 a1).wf = true) (_w2 : (Lit.int .i64 a2).wf = true) (w : World) :
    Calls Try.prog 8 #[.int .u64 a0, .int .u64 a1, .int .i64 a2, .bool a3] w fun e w' => e = .returned (.bool true) ∧ Below w.heap.size w w' := by
  have ha := bounds_u w0
  have hb := bounds_u w1
  rcases isW_or a2 with h | h
  · by_cases hz : cut a2 a1 = 0
    · exact wp_zero a0 a1 a2 a3 w h hb hz
    · cases a3
      · exact wp_u a0 a1 a2 w h ha hb hz
      · exact wp_s a0 a1 a2 w h ha hb hz
  · exact wp_no a0 a1 a2 a3 w h
end Go.Proofs.Ytljccpgcfkgllaa
