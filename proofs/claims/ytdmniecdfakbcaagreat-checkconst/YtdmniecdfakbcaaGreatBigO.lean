/-
  Do: an operator of what bits mean.
-/
import Derived.Test.YtdmniecdfakbcaaGreatBigNz
namespace Go.Proofs.YtdmniecdfakbcaaGreat
open Go.RowKit
set_option linter.unusedSimpArgs false
set_option linter.unusedVariables false

theorem abs_mul_lt {X Y : Int} (hx : X.natAbs ≤ 18446744073709551615) (hy : Y.natAbs ≤ 18446744073709551615) : (X * Y).natAbs < 4294967296 ^ 6 := by
  rw [Int.natAbs_mul]
  have := Nat.mul_le_mul hx hy
  have b : (18446744073709551615 : Nat) * 18446744073709551615 < 4294967296 ^ 6 := by decide
  omega
theorem abs_div_lt {X Y : Int} (hx : X.natAbs ≤ 18446744073709551615) : (X.tdiv Y).natAbs < 4294967296 ^ 6 := by
  rw [Int.natAbs_tdiv]
  have h2 : X.natAbs / Y.natAbs ≤ X.natAbs := Nat.div_le_self X.natAbs Y.natAbs
  have b : (18446744073709551615 : Nat) < 4294967296 ^ 6 := by decide
  exact Nat.lt_of_le_of_lt h2 (by omega)
theorem abs_mod_lt {X Y : Int} (hx : X.natAbs ≤ 18446744073709551615) : (X.tmod Y).natAbs < 4294967296 ^ 6 := by
  rw [Int.natAbs_tmod]
  have h2 : X.natAbs % Y.natAbs ≤ X.natAbs := Nat.mod_le X.natAbs Y.natAbs
  have b : (18446744073709551615 : Nat) < 4294967296 ^ 6 := by decide
  exact Nat.lt_of_le_of_lt h2 (by omega)
set_option maxRecDepth 100000 in
set_option maxHeartbeats 1000000 in
theorem do_add (a b n : Int) (s : Bool) (w : World) (h : IsW n) (ha : U a) (hb : U b) :
    Calls Tryz.prog 36 #[.int .u8 43, .int .u64 a, .int .u64 b, .int .i64 n, .bool s] w fun e w' => e = .returned (.tuple #[.int .u64 (cut n ((mn s n a) + (mn s n b))), .int .i64 0]) ∧ Below w.heap.size w w' := by
  have MA := fun w => meant_any a n s w h ha
  have MB := fun w => meant_any b n s w h hb
  have xa := mn_abs h s a
  have xb := mn_abs h s b
  generalize mn s n a = X at *
  generalize mn s n b = Y at *
  have b4 : (18446744073709551616 : Nat) < 4294967296 ^ 4 := by decide
  have b6 : (18446744073709551616 : Nat) * 18446744073709551616 < 4294967296 ^ 6 := by decide
  have b7 : (4294967296 : Nat) ^ 4 < 4294967296 ^ 7 := by decide
  have b8 : (4294967296 : Nat) ^ 4 < 4294967296 ^ 8 := by decide
  go_enter Tryz.func36, Tryz.ntmps36
  go_wp2_with fail
  refine (rwidth_yes n h _).mono ?_
  rintro e w1 ⟨rfl, k1⟩
  have K1 := hide k1
  clear k1
  go_wp2_with fail
  refine (MA _).mono ?_
  rintro e w2 ⟨p, rfl, hp, k2, B2⟩
  have K2 := hide ((unhide K1).trans (k2.mono (unhide K1).size))
  have HB2 := hide B2
  have hp2 := B2.lt
  clear k2 B2
  go_wp2_with fail
  refine (MB _).mono ?_
  rintro e w3 ⟨q, rfl, hq, k3, B3⟩
  have K3 := hide ((unhide K2).trans (k3.mono (unhide K2).size))
  have X3 := hide (((unhide HB2).step k3).step (below_a w3 (.cells #[.bool false, .slice none 0 0] 69)))
  have Y3 := hide (B3.step (below_a w3 (.cells #[.bool false, .slice none 0 0] 69)))
  have Z3 := hide (Big.new w3)
  have hq2 := B3.lt
  have s3 := k3.size
  have K4 := hide ((unhide K3).trans ((below_a w3 (.cells #[.bool false, .slice none 0 0] 69)).mono (unhide K3).size))
  have hs4 : (w3.alloc (.cells #[.bool false, .slice none 0 0] 69)).heap.size = w3.heap.size + 1 := by simp
  clear k3 B3
  go_wp2_with fail
  generalize w3.alloc (.cells #[.bool false, .slice none 0 0] 69) = w4 at *
  have k03 : w.heap.size ≤ w3.heap.size := (unhide K3).size
  refine (add_big w3.heap.size p q X Y w4 (unhide Z3).int (unhide X3) (unhide Y3) (by omega) (by omega) (by omega)).mono ?_
  rintro e w5 ⟨rfl, k5, B5⟩
  have K5 := hide ((unhide K4).trans (k5.below k03 (unhide K4).size))
  have HB5 := hide B5
  clear k5 B5
  go_wp2_with fail
  refine (fitW w3.heap.size (X + Y) n _ (unhide HB5) h (by omega)).mono ?_
  rintro e w9 ⟨rfl, k9⟩
  have K9 := hide ((unhide K5).trans (k9.mono (unhide K5).size))
  clear k9
  go_wp2_with fail
  go_ret2
  exact ⟨rfl, unhide K9⟩
set_option maxRecDepth 100000 in
set_option maxHeartbeats 1000000 in
theorem do_sub (a b n : Int) (s : Bool) (w : World) (h : IsW n) (ha : U a) (hb : U b) :
    Calls Tryz.prog 36 #[.int .u8 45, .int .u64 a, .int .u64 b, .int .i64 n, .bool s] w fun e w' => e = .returned (.tuple #[.int .u64 (cut n ((mn s n a) - (mn s n b))), .int .i64 0]) ∧ Below w.heap.size w w' := by
  have MA := fun w => meant_any a n s w h ha
  have MB := fun w => meant_any b n s w h hb
  have xa := mn_abs h s a
  have xb := mn_abs h s b
  generalize mn s n a = X at *
  generalize mn s n b = Y at *
  have b4 : (18446744073709551616 : Nat) < 4294967296 ^ 4 := by decide
  have b6 : (18446744073709551616 : Nat) * 18446744073709551616 < 4294967296 ^ 6 := by decide
  have b7 : (4294967296 : Nat) ^ 4 < 4294967296 ^ 7 := by decide
  have b8 : (4294967296 : Nat) ^ 4 < 4294967296 ^ 8 := by decide
  go_enter Tryz.func36, Tryz.ntmps36
  go_wp2_with fail
  refine (rwidth_yes n h _).mono ?_
  rintro e w1 ⟨rfl, k1⟩
  have K1 := hide k1
  clear k1
  go_wp2_with fail
  refine (MA _).mono ?_
  rintro e w2 ⟨p, rfl, hp, k2, B2⟩
  have K2 := hide ((unhide K1).trans (k2.mono (unhide K1).size))
  have HB2 := hide B2
  have hp2 := B2.lt
  clear k2 B2
  go_wp2_with fail
  refine (MB _).mono ?_
  rintro e w3 ⟨q, rfl, hq, k3, B3⟩
  have K3 := hide ((unhide K2).trans (k3.mono (unhide K2).size))
  have X3 := hide (((unhide HB2).step k3).step (below_a w3 (.cells #[.bool false, .slice none 0 0] 69)))
  have Y3 := hide (B3.step (below_a w3 (.cells #[.bool false, .slice none 0 0] 69)))
  have Z3 := hide (Big.new w3)
  have hq2 := B3.lt
  have s3 := k3.size
  have K4 := hide ((unhide K3).trans ((below_a w3 (.cells #[.bool false, .slice none 0 0] 69)).mono (unhide K3).size))
  have hs4 : (w3.alloc (.cells #[.bool false, .slice none 0 0] 69)).heap.size = w3.heap.size + 1 := by simp
  clear k3 B3
  go_wp2_with fail
  generalize w3.alloc (.cells #[.bool false, .slice none 0 0] 69) = w4 at *
  have k03 : w.heap.size ≤ w3.heap.size := (unhide K3).size
  refine (sub_big w3.heap.size p q X Y w4 (unhide Z3).int (unhide X3) (unhide Y3) (by omega) (by omega) (by omega)).mono ?_
  rintro e w5 ⟨rfl, k5, B5⟩
  have K5 := hide ((unhide K4).trans (k5.below k03 (unhide K4).size))
  have HB5 := hide B5
  clear k5 B5
  go_wp2_with fail
  refine (fitW w3.heap.size (X - Y) n _ (unhide HB5) h (by omega)).mono ?_
  rintro e w9 ⟨rfl, k9⟩
  have K9 := hide ((unhide K5).trans (k9.mono (unhide K5).size))
  clear k9
  go_wp2_with fail
  go_ret2
  exact ⟨rfl, unhide K9⟩
set_option maxRecDepth 100000 in
set_option maxHeartbeats 1000000 in
theorem do_mul (a b n : Int) (s : Bool) (w : World) (h : IsW n) (ha : U a) (hb : U b) :
    Calls Tryz.prog 36 #[.int .u8 42, .int .u64 a, .int .u64 b, .int .i64 n, .bool s] w fun e w' => e = .returned (.tuple #[.int .u64 (cut n ((mn s n a) * (mn s n b))), .int .i64 0]) ∧ Below w.heap.size w w' := by
  have MA := fun w => meant_any a n s w h ha
  have MB := fun w => meant_any b n s w h hb
  have xa := mn_abs h s a
  have xb := mn_abs h s b
  generalize mn s n a = X at *
  generalize mn s n b = Y at *
  have b4 : (18446744073709551616 : Nat) < 4294967296 ^ 4 := by decide
  have b6 : (18446744073709551616 : Nat) * 18446744073709551616 < 4294967296 ^ 6 := by decide
  have b7 : (4294967296 : Nat) ^ 4 < 4294967296 ^ 7 := by decide
  have b8 : (4294967296 : Nat) ^ 4 < 4294967296 ^ 8 := by decide
  go_enter Tryz.func36, Tryz.ntmps36
  go_wp2_with fail
  refine (rwidth_yes n h _).mono ?_
  rintro e w1 ⟨rfl, k1⟩
  have K1 := hide k1
  clear k1
  go_wp2_with fail
  refine (MA _).mono ?_
  rintro e w2 ⟨p, rfl, hp, k2, B2⟩
  have K2 := hide ((unhide K1).trans (k2.mono (unhide K1).size))
  have HB2 := hide B2
  have hp2 := B2.lt
  clear k2 B2
  go_wp2_with fail
  refine (MB _).mono ?_
  rintro e w3 ⟨q, rfl, hq, k3, B3⟩
  have K3 := hide ((unhide K2).trans (k3.mono (unhide K2).size))
  have X3 := hide (((unhide HB2).step k3).step (below_a w3 (.cells #[.bool false, .slice none 0 0] 69)))
  have Y3 := hide (B3.step (below_a w3 (.cells #[.bool false, .slice none 0 0] 69)))
  have Z3 := hide (Big.new w3)
  have hq2 := B3.lt
  have s3 := k3.size
  have K4 := hide ((unhide K3).trans ((below_a w3 (.cells #[.bool false, .slice none 0 0] 69)).mono (unhide K3).size))
  have hs4 : (w3.alloc (.cells #[.bool false, .slice none 0 0] 69)).heap.size = w3.heap.size + 1 := by simp
  clear k3 B3
  go_wp2_with fail
  generalize w3.alloc (.cells #[.bool false, .slice none 0 0] 69) = w4 at *
  have k03 : w.heap.size ≤ w3.heap.size := (unhide K3).size
  refine (mul_big w3.heap.size p q X Y w4 (unhide Z3).int (unhide X3) (unhide Y3) (by omega) (by omega) (by omega) (by omega)).mono ?_
  rintro e w5 ⟨rfl, k5, B5⟩
  have K5 := hide ((unhide K4).trans (k5.below k03 (unhide K4).size))
  have HB5 := hide B5
  clear k5 B5
  go_wp2_with fail
  refine (fitW w3.heap.size (X * Y) n _ (unhide HB5) h (by exact abs_mul_lt xa xb)).mono ?_
  rintro e w9 ⟨rfl, k9⟩
  have K9 := hide ((unhide K5).trans (k9.mono (unhide K5).size))
  clear k9
  go_wp2_with fail
  go_ret2
  exact ⟨rfl, unhide K9⟩
set_option maxRecDepth 100000 in
set_option maxHeartbeats 1000000 in
theorem do_div (a b n : Int) (s : Bool) (w : World) (h : IsW n) (ha : U a) (hb : U b) (hne : mn s n b ≠ 0) :
    Calls Tryz.prog 36 #[.int .u8 47, .int .u64 a, .int .u64 b, .int .i64 n, .bool s] w fun e w' => e = .returned (.tuple #[.int .u64 (cut n ((mn s n a).tdiv (mn s n b))), .int .i64 0]) ∧ Below w.heap.size w w' := by
  have MA := fun w => meant_any a n s w h ha
  have MB := fun w => meant_any b n s w h hb
  have xa := mn_abs h s a
  have xb := mn_abs h s b
  generalize mn s n a = X at *
  generalize mn s n b = Y at *
  have b4 : (18446744073709551616 : Nat) < 4294967296 ^ 4 := by decide
  have b6 : (18446744073709551616 : Nat) * 18446744073709551616 < 4294967296 ^ 6 := by decide
  have b7 : (4294967296 : Nat) ^ 4 < 4294967296 ^ 7 := by decide
  have b8 : (4294967296 : Nat) ^ 4 < 4294967296 ^ 8 := by decide
  go_enter Tryz.func36, Tryz.ntmps36
  go_wp2_with fail
  refine (rwidth_yes n h _).mono ?_
  rintro e w1 ⟨rfl, k1⟩
  have K1 := hide k1
  clear k1
  go_wp2_with fail
  refine (MA _).mono ?_
  rintro e w2 ⟨p, rfl, hp, k2, B2⟩
  have K2 := hide ((unhide K1).trans (k2.mono (unhide K1).size))
  have HB2 := hide B2
  have hp2 := B2.lt
  clear k2 B2
  go_wp2_with fail
  refine (MB _).mono ?_
  rintro e w3 ⟨q, rfl, hq, k3, B3⟩
  have K3 := hide ((unhide K2).trans (k3.mono (unhide K2).size))
  have X3 := hide (((unhide HB2).step k3).step (below_a w3 (.cells #[.bool false, .slice none 0 0] 69)))
  have Y3 := hide (B3.step (below_a w3 (.cells #[.bool false, .slice none 0 0] 69)))
  have Z3 := hide (Big.new w3)
  have hq2 := B3.lt
  have s3 := k3.size
  have K4 := hide ((unhide K3).trans ((below_a w3 (.cells #[.bool false, .slice none 0 0] 69)).mono (unhide K3).size))
  have hs4 : (w3.alloc (.cells #[.bool false, .slice none 0 0] 69)).heap.size = w3.heap.size + 1 := by simp
  clear k3 B3
  go_wp2_with fail
  generalize w3.alloc (.cells #[.bool false, .slice none 0 0] 69) = w4 at *
  have k03 : w.heap.size ≤ w3.heap.size := (unhide K3).size
  have SG := sign_any q Y w4 (unhide Y3) (by omega)
  have hsg : (Y.sign == 0) = false := beq_eq_false_iff_ne.2 (by rw [Ne, Int.sign_eq_zero_iff_zero]; exact hne)
  generalize Y.sign = sg at *
  refine SG.mono ?_
  rintro e w5 ⟨rfl, rfl⟩
  clear SG
  have R5 := Big.new w5
  rw [hs4] at R5
  replace R5 := hide R5
  have X5 := hide ((unhide X3).step (below_a w5 (.cells #[.bool false, .slice none 0 0] 69)))
  have Y5 := hide ((unhide Y3).step (below_a w5 (.cells #[.bool false, .slice none 0 0] 69)))
  have Z5 := hide ((unhide Z3).step (below_a w5 (.cells #[.bool false, .slice none 0 0] 69)))
  have K5 := hide ((unhide K4).trans ((below_a w5 (.cells #[.bool false, .slice none 0 0] 69)).mono (unhide K4).size))
  have hs5 : (w5.alloc (.cells #[.bool false, .slice none 0 0] 69)).heap.size = w5.heap.size + 1 := by simp
  go_wp2_with fail
  generalize w5.alloc (.cells #[.bool false, .slice none 0 0] 69) = w6 at *
  have b64 : (18446744073709551615 : Int) < 4294967296 ^ 8 := by decide
  refine (quorem_any w3.heap.size p q (w3.heap.size + 1) X Y w6 (unhide Z5).int (unhide R5).int (unhide X5) (unhide Y5) (by omega) (divOk_short (by omega) (by omega) (by omega) (.inr (.inl (by omega)))) (by omega) (by omega) hne).mono ?_
  rintro e w7 ⟨rfl, k7, BQ, BR⟩
  have K7 := hide ((unhide K5).trans (k7.below k03 (by omega) (unhide K5).size))
  have HQ := hide BQ
  have HR := hide BR
  clear k7 BQ BR
  go_wp2_with fail
  refine (fitW w3.heap.size (X.tdiv Y) n _ (unhide HQ) h (by exact abs_div_lt xa)).mono ?_
  rintro e w9 ⟨rfl, k9⟩
  have K9 := hide ((unhide K7).trans (k9.mono (unhide K7).size))
  clear k9
  go_wp2_with fail
  go_ret2
  exact ⟨rfl, unhide K9⟩
set_option maxRecDepth 100000 in
set_option maxHeartbeats 1000000 in
theorem do_rem (a b n : Int) (s : Bool) (w : World) (h : IsW n) (ha : U a) (hb : U b) (hne : mn s n b ≠ 0) :
    Calls Tryz.prog 36 #[.int .u8 37, .int .u64 a, .int .u64 b, .int .i64 n, .bool s] w fun e w' => e = .returned (.tuple #[.int .u64 (cut n ((mn s n a).tmod (mn s n b))), .int .i64 0]) ∧ Below w.heap.size w w' := by
  have MA := fun w => meant_any a n s w h ha
  have MB := fun w => meant_any b n s w h hb
  have xa := mn_abs h s a
  have xb := mn_abs h s b
  generalize mn s n a = X at *
  generalize mn s n b = Y at *
  have b4 : (18446744073709551616 : Nat) < 4294967296 ^ 4 := by decide
  have b6 : (18446744073709551616 : Nat) * 18446744073709551616 < 4294967296 ^ 6 := by decide
  have b7 : (4294967296 : Nat) ^ 4 < 4294967296 ^ 7 := by decide
  have b8 : (4294967296 : Nat) ^ 4 < 4294967296 ^ 8 := by decide
  go_enter Tryz.func36, Tryz.ntmps36
  go_wp2_with fail
  refine (rwidth_yes n h _).mono ?_
  rintro e w1 ⟨rfl, k1⟩
  have K1 := hide k1
  clear k1
  go_wp2_with fail
  refine (MA _).mono ?_
  rintro e w2 ⟨p, rfl, hp, k2, B2⟩
  have K2 := hide ((unhide K1).trans (k2.mono (unhide K1).size))
  have HB2 := hide B2
  have hp2 := B2.lt
  clear k2 B2
  go_wp2_with fail
  refine (MB _).mono ?_
  rintro e w3 ⟨q, rfl, hq, k3, B3⟩
  have K3 := hide ((unhide K2).trans (k3.mono (unhide K2).size))
  have X3 := hide (((unhide HB2).step k3).step (below_a w3 (.cells #[.bool false, .slice none 0 0] 69)))
  have Y3 := hide (B3.step (below_a w3 (.cells #[.bool false, .slice none 0 0] 69)))
  have Z3 := hide (Big.new w3)
  have hq2 := B3.lt
  have s3 := k3.size
  have K4 := hide ((unhide K3).trans ((below_a w3 (.cells #[.bool false, .slice none 0 0] 69)).mono (unhide K3).size))
  have hs4 : (w3.alloc (.cells #[.bool false, .slice none 0 0] 69)).heap.size = w3.heap.size + 1 := by simp
  clear k3 B3
  go_wp2_with fail
  generalize w3.alloc (.cells #[.bool false, .slice none 0 0] 69) = w4 at *
  have k03 : w.heap.size ≤ w3.heap.size := (unhide K3).size
  have SG := sign_any q Y w4 (unhide Y3) (by omega)
  have hsg : (Y.sign == 0) = false := beq_eq_false_iff_ne.2 (by rw [Ne, Int.sign_eq_zero_iff_zero]; exact hne)
  generalize Y.sign = sg at *
  refine SG.mono ?_
  rintro e w5 ⟨rfl, rfl⟩
  clear SG
  have R5 := Big.new w5
  rw [hs4] at R5
  replace R5 := hide R5
  have X5 := hide ((unhide X3).step (below_a w5 (.cells #[.bool false, .slice none 0 0] 69)))
  have Y5 := hide ((unhide Y3).step (below_a w5 (.cells #[.bool false, .slice none 0 0] 69)))
  have Z5 := hide ((unhide Z3).step (below_a w5 (.cells #[.bool false, .slice none 0 0] 69)))
  have K5 := hide ((unhide K4).trans ((below_a w5 (.cells #[.bool false, .slice none 0 0] 69)).mono (unhide K4).size))
  have hs5 : (w5.alloc (.cells #[.bool false, .slice none 0 0] 69)).heap.size = w5.heap.size + 1 := by simp
  go_wp2_with fail
  generalize w5.alloc (.cells #[.bool false, .slice none 0 0] 69) = w6 at *
  have b64 : (18446744073709551615 : Int) < 4294967296 ^ 8 := by decide
  refine (quorem_any w3.heap.size p q (w3.heap.size + 1) X Y w6 (unhide Z5).int (unhide R5).int (unhide X5) (unhide Y5) (by omega) (divOk_short (by omega) (by omega) (by omega) (.inr (.inl (by omega)))) (by omega) (by omega) hne).mono ?_
  rintro e w7 ⟨rfl, k7, BQ, BR⟩
  have K7 := hide ((unhide K5).trans (k7.below k03 (by omega) (unhide K5).size))
  have HQ := hide BQ
  have HR := hide BR
  clear k7 BQ BR
  go_wp2_with fail
  refine (fitW (w3.heap.size + 1) (X.tmod Y) n _ (unhide HR) h (by exact abs_mod_lt xa)).mono ?_
  rintro e w9 ⟨rfl, k9⟩
  have K9 := hide ((unhide K7).trans (k9.mono (unhide K7).size))
  clear k9
  go_wp2_with fail
  go_ret2
  exact ⟨rfl, unhide K9⟩
set_option maxRecDepth 100000 in
set_option maxHeartbeats 1000000 in
theorem do_div0 (a b n : Int) (s : Bool) (w : World) (h : IsW n) (ha : U a) (hb : U b) (hze : mn s n b = 0) :
    Calls Tryz.prog 36 #[.int .u8 47, .int .u64 a, .int .u64 b, .int .i64 n, .bool s] w fun e w' => e = .returned (.tuple #[.int .u64 (0), .int .i64 10]) ∧ Below w.heap.size w w' := by
  have MA := fun w => meant_any a n s w h ha
  have MB := fun w => meant_any b n s w h hb
  have xa := mn_abs h s a
  have xb := mn_abs h s b
  generalize mn s n a = X at *
  generalize mn s n b = Y at *
  have b4 : (18446744073709551616 : Nat) < 4294967296 ^ 4 := by decide
  have b6 : (18446744073709551616 : Nat) * 18446744073709551616 < 4294967296 ^ 6 := by decide
  have b7 : (4294967296 : Nat) ^ 4 < 4294967296 ^ 7 := by decide
  have b8 : (4294967296 : Nat) ^ 4 < 4294967296 ^ 8 := by decide
  go_enter Tryz.func36, Tryz.ntmps36
  go_wp2_with fail
  refine (rwidth_yes n h _).mono ?_
  rintro e w1 ⟨rfl, k1⟩
  have K1 := hide k1
  clear k1
  go_wp2_with fail
  refine (MA _).mono ?_
  rintro e w2 ⟨p, rfl, hp, k2, B2⟩
  have K2 := hide ((unhide K1).trans (k2.mono (unhide K1).size))
  have HB2 := hide B2
  have hp2 := B2.lt
  clear k2 B2
  go_wp2_with fail
  refine (MB _).mono ?_
  rintro e w3 ⟨q, rfl, hq, k3, B3⟩
  have K3 := hide ((unhide K2).trans (k3.mono (unhide K2).size))
  have X3 := hide (((unhide HB2).step k3).step (below_a w3 (.cells #[.bool false, .slice none 0 0] 69)))
  have Y3 := hide (B3.step (below_a w3 (.cells #[.bool false, .slice none 0 0] 69)))
  have Z3 := hide (Big.new w3)
  have hq2 := B3.lt
  have s3 := k3.size
  have K4 := hide ((unhide K3).trans ((below_a w3 (.cells #[.bool false, .slice none 0 0] 69)).mono (unhide K3).size))
  have hs4 : (w3.alloc (.cells #[.bool false, .slice none 0 0] 69)).heap.size = w3.heap.size + 1 := by simp
  clear k3 B3
  go_wp2_with fail
  generalize w3.alloc (.cells #[.bool false, .slice none 0 0] 69) = w4 at *
  have SG := sign_any q Y w4 (unhide Y3) (by omega)
  rw [hze] at SG
  refine SG.mono ?_
  rintro e w5 ⟨rfl, rfl⟩
  clear SG
  go_wp2_with fail
  go_ret2
  exact ⟨rfl, unhide K4⟩
set_option maxRecDepth 100000 in
set_option maxHeartbeats 1000000 in
theorem do_rem0 (a b n : Int) (s : Bool) (w : World) (h : IsW n) (ha : U a) (hb : U b) (hze : mn s n b = 0) :
    Calls Tryz.prog 36 #[.int .u8 37, .int .u64 a, .int .u64 b, .int .i64 n, .bool s] w fun e w' => e = .returned (.tuple #[.int .u64 (0), .int .i64 10]) ∧ Below w.heap.size w w' := by
  have MA := fun w => meant_any a n s w h ha
  have MB := fun w => meant_any b n s w h hb
  have xa := mn_abs h s a
  have xb := mn_abs h s b
  generalize mn s n a = X at *
  generalize mn s n b = Y at *
  have b4 : (18446744073709551616 : Nat) < 4294967296 ^ 4 := by decide
  have b6 : (18446744073709551616 : Nat) * 18446744073709551616 < 4294967296 ^ 6 := by decide
  have b7 : (4294967296 : Nat) ^ 4 < 4294967296 ^ 7 := by decide
  have b8 : (4294967296 : Nat) ^ 4 < 4294967296 ^ 8 := by decide
  go_enter Tryz.func36, Tryz.ntmps36
  go_wp2_with fail
  refine (rwidth_yes n h _).mono ?_
  rintro e w1 ⟨rfl, k1⟩
  have K1 := hide k1
  clear k1
  go_wp2_with fail
  refine (MA _).mono ?_
  rintro e w2 ⟨p, rfl, hp, k2, B2⟩
  have K2 := hide ((unhide K1).trans (k2.mono (unhide K1).size))
  have HB2 := hide B2
  have hp2 := B2.lt
  clear k2 B2
  go_wp2_with fail
  refine (MB _).mono ?_
  rintro e w3 ⟨q, rfl, hq, k3, B3⟩
  have K3 := hide ((unhide K2).trans (k3.mono (unhide K2).size))
  have X3 := hide (((unhide HB2).step k3).step (below_a w3 (.cells #[.bool false, .slice none 0 0] 69)))
  have Y3 := hide (B3.step (below_a w3 (.cells #[.bool false, .slice none 0 0] 69)))
  have Z3 := hide (Big.new w3)
  have hq2 := B3.lt
  have s3 := k3.size
  have K4 := hide ((unhide K3).trans ((below_a w3 (.cells #[.bool false, .slice none 0 0] 69)).mono (unhide K3).size))
  have hs4 : (w3.alloc (.cells #[.bool false, .slice none 0 0] 69)).heap.size = w3.heap.size + 1 := by simp
  clear k3 B3
  go_wp2_with fail
  generalize w3.alloc (.cells #[.bool false, .slice none 0 0] 69) = w4 at *
  have SG := sign_any q Y w4 (unhide Y3) (by omega)
  rw [hze] at SG
  refine SG.mono ?_
  rintro e w5 ⟨rfl, rfl⟩
  clear SG
  go_wp2_with fail
  go_ret2
  exact ⟨rfl, unhide K4⟩
set_option maxRecDepth 100000 in
set_option maxHeartbeats 1000000 in
theorem do_less_yes (a b n : Int) (s : Bool) (w : World) (h : IsW n) (ha : U a) (hb : U b) (hlt : mn s n a < mn s n b) :
    Calls Tryz.prog 36 #[.int .u8 60, .int .u64 a, .int .u64 b, .int .i64 n, .bool s] w fun e w' => e = .returned (.tuple #[.int .u64 (cut n 1), .int .i64 0]) ∧ Below w.heap.size w w' := by
  have MA := fun w => meant_any a n s w h ha
  have MB := fun w => meant_any b n s w h hb
  have xa := mn_abs h s a
  have xb := mn_abs h s b
  generalize mn s n a = X at *
  generalize mn s n b = Y at *
  have b4 : (18446744073709551616 : Nat) < 4294967296 ^ 4 := by decide
  have b6 : (18446744073709551616 : Nat) * 18446744073709551616 < 4294967296 ^ 6 := by decide
  have b7 : (4294967296 : Nat) ^ 4 < 4294967296 ^ 7 := by decide
  have b8 : (4294967296 : Nat) ^ 4 < 4294967296 ^ 8 := by decide
  have hcm : cm X Y < 0 := by unfold cm; rw [if_pos hlt]; decide
  go_enter Tryz.func36, Tryz.ntmps36
  go_wp2_with fail
  refine (rwidth_yes n h _).mono ?_
  rintro e w1 ⟨rfl, k1⟩
  have K1 := hide k1
  clear k1
  go_wp2_with fail
  refine (MA _).mono ?_
  rintro e w2 ⟨p, rfl, hp, k2, B2⟩
  have K2 := hide ((unhide K1).trans (k2.mono (unhide K1).size))
  have HB2 := hide B2
  have hp2 := B2.lt
  clear k2 B2
  go_wp2_with fail
  refine (MB _).mono ?_
  rintro e w3 ⟨q, rfl, hq, k3, B3⟩
  have K3 := hide ((unhide K2).trans (k3.mono (unhide K2).size))
  have X3 := hide (((unhide HB2).step k3).step (below_a w3 (.cells #[.bool false, .slice none 0 0] 69)))
  have Y3 := hide (B3.step (below_a w3 (.cells #[.bool false, .slice none 0 0] 69)))
  have Z3 := hide (Big.new w3)
  have hq2 := B3.lt
  have s3 := k3.size
  have K4 := hide ((unhide K3).trans ((below_a w3 (.cells #[.bool false, .slice none 0 0] 69)).mono (unhide K3).size))
  have hs4 : (w3.alloc (.cells #[.bool false, .slice none 0 0] 69)).heap.size = w3.heap.size + 1 := by simp
  clear k3 B3
  go_wp2_with fail
  generalize w3.alloc (.cells #[.bool false, .slice none 0 0] 69) = w4 at *
  have k03 : w.heap.size ≤ w3.heap.size := (unhide K3).size
  have CM := cmp_big p q X Y w4 (unhide X3) (unhide Y3) (by omega) (by omega)
  generalize cm X Y = cv at *
  refine CM.mono ?_
  rintro e w5 ⟨⟨t, rfl⟩, rfl⟩
  clear CM
  have Z5 : Hid (Big (w4.drewN t) w3.heap.size 0) := unhide Z3
  have K5 : Hid (Below w.heap.size w (w4.drewN t)) := ⟨(unhide K4).os, (unhide K4).tape, (unhide K4).output, (unhide K4).size, (unhide K4).block⟩
  generalize w4.drewN t = w5 at *
  go_wp2_with fail
  refine (setI_any w3.heap.size 1 w5 (unhide Z5).int ⟨by decide, by decide⟩).mono ?_
  rintro e w6 ⟨rfl, k6, B6⟩
  have K6 := hide ((unhide K5).trans (k6.below k03 (unhide K5).size))
  have HB6 := hide B6
  clear k6 B6
  go_wp2_with fail
  refine (fitW w3.heap.size 1 n _ (unhide HB6) h (by decide)).mono ?_
  rintro e w9 ⟨rfl, k9⟩
  have K9 := hide ((unhide K6).trans (k9.mono (unhide K6).size))
  clear k9
  go_wp2_with fail
  go_ret2
  exact ⟨rfl, unhide K9⟩
set_option maxRecDepth 100000 in
set_option maxHeartbeats 1000000 in
theorem do_less_no (a b n : Int) (s : Bool) (w : World) (h : IsW n) (ha : U a) (hb : U b) (hlt : ¬ mn s n a < mn s n b) :
    Calls Tryz.prog 36 #[.int .u8 60, .int .u64 a, .int .u64 b, .int .i64 n, .bool s] w fun e w' => e = .returned (.tuple #[.int .u64 (cut n 0), .int .i64 0]) ∧ Below w.heap.size w w' := by
  have MA := fun w => meant_any a n s w h ha
  have MB := fun w => meant_any b n s w h hb
  have xa := mn_abs h s a
  have xb := mn_abs h s b
  generalize mn s n a = X at *
  generalize mn s n b = Y at *
  have b4 : (18446744073709551616 : Nat) < 4294967296 ^ 4 := by decide
  have b6 : (18446744073709551616 : Nat) * 18446744073709551616 < 4294967296 ^ 6 := by decide
  have b7 : (4294967296 : Nat) ^ 4 < 4294967296 ^ 7 := by decide
  have b8 : (4294967296 : Nat) ^ 4 < 4294967296 ^ 8 := by decide
  have hcm : decide (cm X Y < 0) = false := by unfold cm; rw [if_neg hlt]; split <;> decide
  go_enter Tryz.func36, Tryz.ntmps36
  go_wp2_with fail
  refine (rwidth_yes n h _).mono ?_
  rintro e w1 ⟨rfl, k1⟩
  have K1 := hide k1
  clear k1
  go_wp2_with fail
  refine (MA _).mono ?_
  rintro e w2 ⟨p, rfl, hp, k2, B2⟩
  have K2 := hide ((unhide K1).trans (k2.mono (unhide K1).size))
  have HB2 := hide B2
  have hp2 := B2.lt
  clear k2 B2
  go_wp2_with fail
  refine (MB _).mono ?_
  rintro e w3 ⟨q, rfl, hq, k3, B3⟩
  have K3 := hide ((unhide K2).trans (k3.mono (unhide K2).size))
  have X3 := hide (((unhide HB2).step k3).step (below_a w3 (.cells #[.bool false, .slice none 0 0] 69)))
  have Y3 := hide (B3.step (below_a w3 (.cells #[.bool false, .slice none 0 0] 69)))
  have Z3 := hide (Big.new w3)
  have hq2 := B3.lt
  have s3 := k3.size
  have K4 := hide ((unhide K3).trans ((below_a w3 (.cells #[.bool false, .slice none 0 0] 69)).mono (unhide K3).size))
  have hs4 : (w3.alloc (.cells #[.bool false, .slice none 0 0] 69)).heap.size = w3.heap.size + 1 := by simp
  clear k3 B3
  go_wp2_with fail
  generalize w3.alloc (.cells #[.bool false, .slice none 0 0] 69) = w4 at *
  have k03 : w.heap.size ≤ w3.heap.size := (unhide K3).size
  have CM := cmp_big p q X Y w4 (unhide X3) (unhide Y3) (by omega) (by omega)
  generalize cm X Y = cv at *
  refine CM.mono ?_
  rintro e w5 ⟨⟨t, rfl⟩, rfl⟩
  clear CM
  have Z5 : Hid (Big (w4.drewN t) w3.heap.size 0) := unhide Z3
  have K5 : Hid (Below w.heap.size w (w4.drewN t)) := ⟨(unhide K4).os, (unhide K4).tape, (unhide K4).output, (unhide K4).size, (unhide K4).block⟩
  generalize w4.drewN t = w5 at *
  go_wp2_with fail
  refine (fitW w3.heap.size 0 n _ (unhide Z5) h (by decide)).mono ?_
  rintro e w9 ⟨rfl, k9⟩
  have K9 := hide ((unhide K5).trans (k9.mono (unhide K5).size))
  clear k9
  go_wp2_with fail
  go_ret2
  exact ⟨rfl, unhide K9⟩
set_option maxRecDepth 100000 in
theorem do_no (c a b n : Int) (s : Bool) (w : World) (h : NoW n) :
    Calls Tryz.prog 36 #[.int .u8 c, .int .u64 a, .int .u64 b, .int .i64 n, .bool s] w fun e w' => e = .returned (.tuple #[.int .u64 0, .int .i64 1]) ∧ Below w.heap.size w w' := by
  have RW := fun w => rwidth_no n w h
  clear h
  go_enter Tryz.func36, Tryz.ntmps36
  go_wp2_with fail
  refine (RW _).mono ?_
  rintro e w1 ⟨rfl, k1⟩
  have K1 := hide k1
  clear k1
  go_wp2_with fail
  go_ret2
  exact ⟨rfl, unhide K1⟩
end Go.Proofs.YtdmniecdfakbcaaGreat
