/-
  Shift: what bits mean, moved up or down.
-/
import Derived.Test.YtfkhbhjpnfajeaaBigN
namespace Go.Proofs.Ytfkhbhjpnfajeaa
open Go.RowKit
set_option linter.unusedSimpArgs false
set_option linter.unusedVariables false

theorem pow64 {k : Nat} (h : k ≤ 64) : (1 : Int) ≤ 2 ^ k ∧ (2 : Int) ^ k ≤ 18446744073709551616 := by
  obtain ⟨a, b⟩ := p64 h
  exact ⟨a, b⟩
theorem mul_pow_lt {x : Int} {k : Nat} (h0 : 0 ≤ x) (h1 : x ≤ 18446744073709551615) (h : k ≤ 64) : x * 2 ^ k < 4294967296 ^ 6 ∧ 0 ≤ x * 2 ^ k := by
  obtain ⟨a, b⟩ := pow64 h
  have c := Int.mul_le_mul h1 b (by omega) (by decide)
  have d : (18446744073709551615 : Int) * 18446744073709551616 < 4294967296 ^ 6 := by decide
  exact ⟨by omega, Int.mul_nonneg h0 (by omega)⟩
theorem div_abs_le (x : Int) (k : Nat) : (x / 2 ^ k).natAbs ≤ x.natAbs := by
  have hp : (0 : Int) < 2 ^ k := Int.pow_pos (by decide)
  by_cases h : 0 ≤ x
  · have := div_pow_le x k h; omega
  · have h1 : x / 2 ^ k < 0 := Int.ediv_neg_of_neg_of_pos (by omega) hp
    have h2 : x ≤ x / 2 ^ k := by
      rw [Int.le_ediv_iff_mul_le hp]
      have := Int.mul_le_mul_of_nonneg_left (a := 1) (b := 2 ^ k) (c := -x) (by omega) (by omega)
      rw [Int.neg_mul, Int.neg_mul] at this
      omega
    omega

set_option maxRecDepth 100000 in
set_option maxHeartbeats 1000000 in
theorem shift_up (a m n : Int) (w : World) (h : IsW n) (ha : U a) (hm : U m) :
    Calls Try.prog 20 #[.int .u64 a, .int .u64 m, .int .i64 n, .bool true, .bool false] w fun e w' => e = .returned (.tuple #[.int .u64 (cut n (cut n a * 2 ^ min m.toNat 64)), .int .i64 0]) ∧ Below w.heap.size w w' := by
  have MA := fun w => meant_any a n false w h ha
  rw [show mn false n a = cut n a from rfl] at MA
  have c0 := cut_lo h a
  have c1 := cut_hi h a
  generalize cut n a = C at *
  obtain ⟨k, hk⟩ : ∃ k, k = min m.toNat 64 := ⟨_, rfl⟩
  have k64 : k ≤ 64 := by omega
  rw [← hk]
  obtain ⟨q1, q2⟩ := mul_pow_lt c0 c1 k64
  have q3 : C * 2 ^ k < 4294967296 ^ 8 := Int.lt_trans q1 (by decide)
  have LS := fun p w hp => lsh_own p k C w hp c0 (by omega) q3
  have FI := fun p w hp => fitW p (C * 2 ^ k) n w hp h (by omega)
  generalize C * 2 ^ k = V at *
  have hm0 := hm.1
  by_cases hb : m ≤ 64
  · have e1 : m = (k : Int) := by omega
    subst e1
    clear hk
    go_enter Try.func20, Try.ntmps20
    go_wp2_with fail
    refine (rwidth_yes n h _).mono ?_
    rintro e w1 ⟨rfl, k1⟩
    have K1 := hide k1
    clear k1
    go_wp2_with fail
    refine (MA _).mono ?_
    rintro e w2 ⟨p, rfl, hp, k2, B2⟩
    have K2 := hide ((unhide K1).trans (k2.mono (unhide K1).size))
    have HB2 := hide B2
    have s1 := (unhide K1).size
    clear k2 B2
    go_wp2_with fail
    refine (LS _ _ (unhide HB2)).mono ?_
    rintro e w3 ⟨rfl, k3, B3⟩
    have K3 := hide ((unhide K2).trans (k3.below (by omega) (unhide K2).size))
    have HB3 := hide B3
    clear k3 B3
    go_wp2_with fail
    refine (FI _ _ (unhide HB3)).mono ?_
    rintro e w4 ⟨rfl, k4⟩
    have K4 := hide ((unhide K3).trans (k4.mono (unhide K3).size))
    clear k4
    go_wp2_with fail
    go_ret2
    exact ⟨rfl, unhide K4⟩
  · have e1 : k = 64 := by omega
    subst e1
    have hb1 : 64 < m := by omega
    clear hk hb
    go_enter Try.func20, Try.ntmps20
    go_wp2_with fail
    refine (rwidth_yes n h _).mono ?_
    rintro e w1 ⟨rfl, k1⟩
    have K1 := hide k1
    clear k1
    go_wp2_with fail
    refine (MA _).mono ?_
    rintro e w2 ⟨p, rfl, hp, k2, B2⟩
    have K2 := hide ((unhide K1).trans (k2.mono (unhide K1).size))
    have HB2 := hide B2
    have s1 := (unhide K1).size
    clear k2 B2
    go_wp2_with fail
    refine (LS _ _ (unhide HB2)).mono ?_
    rintro e w3 ⟨rfl, k3, B3⟩
    have K3 := hide ((unhide K2).trans (k3.below (by omega) (unhide K2).size))
    have HB3 := hide B3
    clear k3 B3
    go_wp2_with fail
    refine (FI _ _ (unhide HB3)).mono ?_
    rintro e w4 ⟨rfl, k4⟩
    have K4 := hide ((unhide K3).trans (k4.mono (unhide K3).size))
    clear k4
    go_wp2_with fail
    go_ret2
    exact ⟨rfl, unhide K4⟩


set_option maxRecDepth 100000 in
set_option maxHeartbeats 1000000 in
theorem shift_down (a m n : Int) (s : Bool) (w : World) (h : IsW n) (ha : U a) (hm : U m) :
    Calls Try.prog 20 #[.int .u64 a, .int .u64 m, .int .i64 n, .bool false, .bool s] w fun e w' => e = .returned (.tuple #[.int .u64 (cut n (mn s n a / 2 ^ min m.toNat 64)), .int .i64 0]) ∧ Below w.heap.size w w' := by
  have MA := fun w => meant_any a n s w h ha
  have xa := mn_abs h s a
  generalize mn s n a = X at *
  obtain ⟨k, hk⟩ : ∃ k, k = min m.toNat 64 := ⟨_, rfl⟩
  have k64 : k ≤ 64 := by omega
  rw [← hk]
  obtain ⟨q1, q2⟩ := pow64 k64
  have b6 : (18446744073709551616 : Nat) < 4294967296 ^ 6 := by decide
  have b8 : (18446744073709551616 : Int) < 4294967296 ^ 8 := by decide
  have xv := div_abs_le X k
  have TW := fun w => two_any k w k64
  have FI := fun p w hp => fitW p (X / 2 ^ k) n w hp h (by omega)
  have hm0 := hm.1
  by_cases hb : m ≤ 64
  · have e1 : m = (k : Int) := by omega
    subst e1
    clear hk
    obtain ⟨D, hD⟩ : ∃ D : Int, D = 2 ^ k := ⟨_, rfl⟩
    rw [← hD] at TW FI q1 q2 xv ⊢
    have d0 : 0 < D := by omega
    clear hD
    go_enter Try.func20, Try.ntmps20
    go_wp2_with fail
    refine (rwidth_yes n h _).mono ?_
    rintro e w1 ⟨rfl, k1⟩
    have K1 := hide k1
    clear k1
    go_wp2_with fail
    refine (MA _).mono ?_
    rintro e w2 ⟨p, rfl, hp, k2, B2⟩
    have K2 := hide ((unhide K1).trans (k2.mono (unhide K1).size))
    have s1 := (unhide K1).size
    have s2 := k2.size
    have lp := B2.lt
    have X2 := hide ((B2.step (below_a w2 (.cells #[.bool false, .slice none 0 0] 46))).step (below_a _ (.cells #[.bool false, .slice none 0 0] 46)))
    have Q2 := hide ((Big.new w2).step (below_a _ (.cells #[.bool false, .slice none 0 0] 46)))
    have R2 := hide (Big.new (w2.alloc (.cells #[.bool false, .slice none 0 0] 46)))
    have hs1 : (w2.alloc (.cells #[.bool false, .slice none 0 0] 46)).heap.size = w2.heap.size + 1 := by simp
    have hs2 : ((w2.alloc (.cells #[.bool false, .slice none 0 0] 46)).alloc (.cells #[.bool false, .slice none 0 0] 46)).heap.size = w2.heap.size + 1 + 1 := by simp
    rw [hs1] at R2
    have K3 := hide (((unhide K2).alloc (unhide K2).size (.cells #[.bool false, .slice none 0 0] 46)).alloc (by have := (unhide K2).size; rw [hs1]; omega) (.cells #[.bool false, .slice none 0 0] 46))
    clear k2 B2 hs1
    go_wp2_with fail
    generalize (w2.alloc (.cells #[.bool false, .slice none 0 0] 46)).alloc (.cells #[.bool false, .slice none 0 0] 46) = w3 at *
    refine (TW _).mono ?_
    rintro e w4 ⟨rfl, k4, B4⟩
    have K4 := hide ((unhide K3).trans (k4.mono (unhide K3).size))
    have T4 := hide B4
    have X4 := hide ((unhide X2).step k4)
    have Q4 := hide ((unhide Q2).step k4)
    have R4 := hide ((unhide R2).step k4)
    rw [hs2] at T4
    have s4 := k4.size
    clear k4 B4 X2 Q2 R2
    go_wp2_with fail
    refine (divmod_any w2.heap.size p (w2.heap.size + 1 + 1) (w2.heap.size + 1) X D w4 (unhide Q4).int (unhide R4).int (unhide X4) (unhide T4) (by omega) (divOk_short (by omega) (by omega) (by omega) (.inr (.inl (by omega)))) (by omega) (by omega) d0).mono ?_
    rintro e w5 ⟨rfl, k5, B5, C5⟩
    have K5 := hide ((unhide K4).trans (k5.below (by omega) (by omega) (unhide K4).size))
    have HB5 := hide B5
    clear k5 B5 C5
    go_wp2_with fail
    refine (FI _ _ (unhide HB5)).mono ?_
    rintro e w6 ⟨rfl, k6⟩
    have K6 := hide ((unhide K5).trans (k6.mono (unhide K5).size))
    clear k6
    go_wp2_with fail
    go_ret2
    exact ⟨rfl, unhide K6⟩
  · have e1 : k = 64 := by omega
    subst e1
    have hb1 : 64 < m := by omega
    clear hk hb
    obtain ⟨D, hD⟩ : ∃ D : Int, D = 2 ^ 64 := ⟨_, rfl⟩
    rw [← hD] at TW FI q1 q2 xv ⊢
    have d0 : 0 < D := by omega
    clear hD
    go_enter Try.func20, Try.ntmps20
    go_wp2_with fail
    refine (rwidth_yes n h _).mono ?_
    rintro e w1 ⟨rfl, k1⟩
    have K1 := hide k1
    clear k1
    go_wp2_with fail
    refine (MA _).mono ?_
    rintro e w2 ⟨p, rfl, hp, k2, B2⟩
    have K2 := hide ((unhide K1).trans (k2.mono (unhide K1).size))
    have s1 := (unhide K1).size
    have s2 := k2.size
    have lp := B2.lt
    have X2 := hide ((B2.step (below_a w2 (.cells #[.bool false, .slice none 0 0] 46))).step (below_a _ (.cells #[.bool false, .slice none 0 0] 46)))
    have Q2 := hide ((Big.new w2).step (below_a _ (.cells #[.bool false, .slice none 0 0] 46)))
    have R2 := hide (Big.new (w2.alloc (.cells #[.bool false, .slice none 0 0] 46)))
    have hs1 : (w2.alloc (.cells #[.bool false, .slice none 0 0] 46)).heap.size = w2.heap.size + 1 := by simp
    have hs2 : ((w2.alloc (.cells #[.bool false, .slice none 0 0] 46)).alloc (.cells #[.bool false, .slice none 0 0] 46)).heap.size = w2.heap.size + 1 + 1 := by simp
    rw [hs1] at R2
    have K3 := hide (((unhide K2).alloc (unhide K2).size (.cells #[.bool false, .slice none 0 0] 46)).alloc (by have := (unhide K2).size; rw [hs1]; omega) (.cells #[.bool false, .slice none 0 0] 46))
    clear k2 B2 hs1
    go_wp2_with fail
    generalize (w2.alloc (.cells #[.bool false, .slice none 0 0] 46)).alloc (.cells #[.bool false, .slice none 0 0] 46) = w3 at *
    refine (TW _).mono ?_
    rintro e w4 ⟨rfl, k4, B4⟩
    have K4 := hide ((unhide K3).trans (k4.mono (unhide K3).size))
    have T4 := hide B4
    have X4 := hide ((unhide X2).step k4)
    have Q4 := hide ((unhide Q2).step k4)
    have R4 := hide ((unhide R2).step k4)
    rw [hs2] at T4
    have s4 := k4.size
    clear k4 B4 X2 Q2 R2
    go_wp2_with fail
    refine (divmod_any w2.heap.size p (w2.heap.size + 1 + 1) (w2.heap.size + 1) X D w4 (unhide Q4).int (unhide R4).int (unhide X4) (unhide T4) (by omega) (divOk_short (by omega) (by omega) (by omega) (.inr (.inl (by omega)))) (by omega) (by omega) d0).mono ?_
    rintro e w5 ⟨rfl, k5, B5, C5⟩
    have K5 := hide ((unhide K4).trans (k5.below (by omega) (by omega) (unhide K4).size))
    have HB5 := hide B5
    clear k5 B5 C5
    go_wp2_with fail
    refine (FI _ _ (unhide HB5)).mono ?_
    rintro e w6 ⟨rfl, k6⟩
    have K6 := hide ((unhide K5).trans (k6.mono (unhide K5).size))
    clear k6
    go_wp2_with fail
    go_ret2
    exact ⟨rfl, unhide K6⟩
set_option maxRecDepth 100000 in
theorem shift_no (a m n : Int) (u s : Bool) (w : World) (h : NoW n) :
    Calls Try.prog 20 #[.int .u64 a, .int .u64 m, .int .i64 n, .bool u, .bool s] w fun e w' => e = .returned (.tuple #[.int .u64 0, .int .i64 1]) ∧ Below w.heap.size w w' := by
  have RW := fun w => rwidth_no n w h
  clear h
  go_enter Try.func20, Try.ntmps20
  go_wp2_with fail
  refine (RW _).mono ?_
  rintro e w1 ⟨rfl, k1⟩
  have K1 := hide k1
  clear k1
  go_wp2_with fail
  go_ret2
  exact ⟨rfl, unhide K1⟩
end Go.Proofs.Ytfkhbhjpnfajeaa
