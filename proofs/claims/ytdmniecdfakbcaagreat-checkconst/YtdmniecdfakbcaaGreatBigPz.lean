/-
  Shift: what bits mean, moved up or down.
-/
import Derived.Test.YtdmniecdfakbcaaGreatBigNz
import Derived.Test.YtdmniecdfakbcaaGreatBigC
namespace Go.Proofs.YtdmniecdfakbcaaGreat
open Go.RowKit
set_option linter.unusedSimpArgs false
set_option linter.unusedVariables false

theorem pow64 {k : Nat} (h : k ≤ 64) : (1 : Int) ≤ 2 ^ k ∧ (2 : Int) ^ k ≤ 18446744073709551616 := by
  obtain ⟨a, b⟩ := p64 h
  exact ⟨a, b⟩
theorem mul_pow_lt {x : Int} {k : Nat} (h0 : 0 ≤ x) (h1 : x ≤ 18446744073709551615) (h : k ≤ 64) : x * 2 ^ k < 4294967296 ^ 6 ∧ 0 ≤ x * 2 ^ k := by
  obtain ⟨a, b⟩ := pow64 h
  have c := Int.mul_le_mul h1 b (by omega) (by decide)
  have d : (18446744073709551615 : Int) * 18446744073709551616 < 4294967296 ^ 6 := by decide
  exact ⟨by omega, Int.mul_nonneg h0 (by omega)⟩
theorem div_abs_le (x : Int) (k : Nat) : (x / 2 ^ k).natAbs ≤ x.natAbs := by
  have hp : (0 : Int) < 2 ^ k := Int.pow_pos (by decide)
  by_cases h : 0 ≤ x
  · have := div_pow_le x k h; omega
  · have h1 : x / 2 ^ k < 0 := Int.ediv_neg_of_neg_of_pos (by omega) hp
    have h2 : x ≤ x / 2 ^ k := by
      rw [Int.le_ediv_iff_mul_le hp]
      have := Int.mul_le_mul_of_nonneg_left (a := 1) (b := 2 ^ k) (c := -x) (by omega) (by omega)
      rw [Int.neg_mul, Int.neg_mul] at this
      omega
    omega

set_option maxRecDepth 100000 in
set_option maxHeartbeats 1000000 in
theorem shift_up (a m n : Int) (w : World) (h : IsW n) (ha : U a) (hm : U m) :
    Calls Tryz.prog 34 #[.int .u64 a, .int .u64 m, .int .i64 n, .bool true, .bool false] w fun e w' => e = .returned (.tuple #[.int .u64 (cut n (cut n a * 2 ^ min m.toNat 64)), .int .i64 0]) ∧ Below w.heap.size w w' := by
  have MA := fun w => meant_any a n false w h ha
  rw [show mn false n a = cut n a from rfl] at MA
  have c0 := cut_lo h a
  have c1 := cut_hi h a
  generalize cut n a = C at *
  obtain ⟨k, hk⟩ : ∃ k, k = min m.toNat 64 := ⟨_, rfl⟩
  have k64 : k ≤ 64 := by omega
  rw [← hk]
  obtain ⟨q1, q2⟩ := mul_pow_lt c0 c1 k64
  have q3 : C * 2 ^ k < 4294967296 ^ 8 := Int.lt_trans q1 (by decide)
  have LS := fun p w hp => lsh_own p k C w hp c0 (by omega) q3
  have FI := fun p w hp => fitW p (C * 2 ^ k) n w hp h (by omega)
  generalize C * 2 ^ k = V at *
  have hm0 := hm.1
  by_cases hb : m ≤ 64
  · have e1 : m = (k : Int) := by omega
    subst e1
    clear hk
    go_enter Tryz.func34, Tryz.ntmps34
    go_wp2_with fail
    refine (rwidth_yes n h _).mono ?_
    rintro e w1 ⟨rfl, k1⟩
    have K1 := hide k1
    clear k1
    go_wp2_with fail
    refine (MA _).mono ?_
    rintro e w2 ⟨p, rfl, hp, k2, B2⟩
    have K2 := hide ((unhide K1).trans (k2.mono (unhide K1).size))
    have HB2 := hide B2
    have s1 := (unhide K1).size
    clear k2 B2
    go_wp2_with fail
    refine (LS _ _ (unhide HB2)).mono ?_
    rintro e w3 ⟨rfl, k3, B3⟩
    have K3 := hide ((unhide K2).trans (k3.below (by omega) (unhide K2).size))
    have HB3 := hide B3
    clear k3 B3
    go_wp2_with fail
    refine (FI _ _ (unhide HB3)).mono ?_
    rintro e w4 ⟨rfl, k4⟩
    have K4 := hide ((unhide K3).trans (k4.mono (unhide K3).size))
    clear k4
    go_wp2_with fail
    go_ret2
    exact ⟨rfl, unhide K4⟩
  · have e1 : k = 64 := by omega
    subst e1
    have hb1 : 64 < m := by omega
    clear hk hb
    go_enter Tryz.func34, Tryz.ntmps34
    go_wp2_with fail
    refine (rwidth_yes n h _).mono ?_
    rintro e w1 ⟨rfl, k1⟩
    have K1 := hide k1
    clear k1
    go_wp2_with fail
    refine (MA _).mono ?_
    rintro e w2 ⟨p, rfl, hp, k2, B2⟩
    have K2 := hide ((unhide K1).trans (k2.mono (unhide K1).size))
    have HB2 := hide B2
    have s1 := (unhide K1).size
    clear k2 B2
    go_wp2_with fail
    refine (LS _ _ (unhide HB2)).mono ?_
    rintro e w3 ⟨rfl, k3, B3⟩
    have K3 := hide ((unhide K2).trans (k3.below (by omega) (unhide K2).size))
    have HB3 := hide B3
    clear k3 B3
    go_wp2_with fail
    refine (FI _ _ (unhide HB3)).mono ?_
    rintro e w4 ⟨rfl, k4⟩
    have K4 := hide ((unhide K3).trans (k4.mono (unhide K3).size))
    clear k4
    go_wp2_with fail
    go_ret2
    exact ⟨rfl, unhide K4⟩


set_option maxRecDepth 100000 in
set_option maxHeartbeats 1000000 in
theorem shift_down (a m n : Int) (s : Bool) (w : World) (h : IsW n) (ha : U a) (hm : U m) :
    Calls Tryz.prog 34 #[.int .u64 a, .int .u64 m, .int .i64 n, .bool false, .bool s] w fun e w' => e = .returned (.tuple #[.int .u64 (cut n (mn s n a / 2 ^ min m.toNat 64)), .int .i64 0]) ∧ Below w.heap.size w w' := by
  have MA := fun w => meant_any a n s w h ha
  have xa := mn_abs h s a
  generalize mn s n a = X at *
  obtain ⟨k, hk⟩ : ∃ k, k = min m.toNat 64 := ⟨_, rfl⟩
  have k64 : k ≤ 64 := by omega
  rw [← hk]
  obtain ⟨q1, q2⟩ := pow64 k64
  have b6 : (18446744073709551616 : Nat) < 4294967296 ^ 6 := by decide
  have b8 : (18446744073709551616 : Int) < 4294967296 ^ 8 := by decide
  have xv := div_abs_le X k
  have TW := fun w => two_any k w k64
  have FI := fun p w hp => fitW p (X / 2 ^ k) n w hp h (by omega)
  have hm0 := hm.1
  by_cases hb : m ≤ 64
  · have e1 : m = (k : Int) := by omega
    subst e1
    clear hk
    obtain ⟨D, hD⟩ : ∃ D : Int, D = 2 ^ k := ⟨_, rfl⟩
    rw [← hD] at TW FI q1 q2 xv ⊢
    have d0 : 0 < D := by omega
    clear hD
    go_enter Tryz.func34, Tryz.ntmps34
    go_wp2_with fail
    refine (rwidth_yes n h _).mono ?_
    rintro e w1 ⟨rfl, k1⟩
    have K1 := hide k1
    clear k1
    go_wp2_with fail
    refine (MA _).mono ?_
    rintro e w2 ⟨p, rfl, hp, k2, B2⟩
    have K2 := hide ((unhide K1).trans (k2.mono (unhide K1).size))
    have s1 := (unhide K1).size
    have s2 := k2.size
    have lp := B2.lt
    have X2 := hide ((B2.step (below_a w2 (.cells #[.bool false, .slice none 0 0] 69))).step (below_a _ (.cells #[.bool false, .slice none 0 0] 69)))
    have Q2 := hide ((Big.new w2).step (below_a _ (.cells #[.bool false, .slice none 0 0] 69)))
    have R2 := hide (Big.new (w2.alloc (.cells #[.bool false, .slice none 0 0] 69)))
    have hs1 : (w2.alloc (.cells #[.bool false, .slice none 0 0] 69)).heap.size = w2.heap.size + 1 := by simp
    have hs2 : ((w2.alloc (.cells #[.bool false, .slice none 0 0] 69)).alloc (.cells #[.bool false, .slice none 0 0] 69)).heap.size = w2.heap.size + 1 + 1 := by simp
    rw [hs1] at R2
    have K3 := hide (((unhide K2).alloc (unhide K2).size (.cells #[.bool false, .slice none 0 0] 69)).alloc (by have := (unhide K2).size; rw [hs1]; omega) (.cells #[.bool false, .slice none 0 0] 69))
    clear k2 B2 hs1
    go_wp2_with fail
    generalize (w2.alloc (.cells #[.bool false, .slice none 0 0] 69)).alloc (.cells #[.bool false, .slice none 0 0] 69) = w3 at *
    refine (TW _).mono ?_
    rintro e w4 ⟨rfl, k4, B4⟩
    have K4 := hide ((unhide K3).trans (k4.mono (unhide K3).size))
    have T4 := hide B4
    have X4 := hide ((unhide X2).step k4)
    have Q4 := hide ((unhide Q2).step k4)
    have R4 := hide ((unhide R2).step k4)
    rw [hs2] at T4
    have s4 := k4.size
    clear k4 B4 X2 Q2 R2
    go_wp2_with fail
    refine (divmod_any w2.heap.size p (w2.heap.size + 1 + 1) (w2.heap.size + 1) X D w4 (unhide Q4).int (unhide R4).int (unhide X4) (unhide T4) (by omega) (divOk_short (by omega) (by omega) (by omega) (.inr (.inl (by omega)))) (by omega) (by omega) d0).mono ?_
    rintro e w5 ⟨rfl, k5, B5, C5⟩
    have K5 := hide ((unhide K4).trans (k5.below (by omega) (by omega) (unhide K4).size))
    have HB5 := hide B5
    clear k5 B5 C5
    go_wp2_with fail
    refine (FI _ _ (unhide HB5)).mono ?_
    rintro e w6 ⟨rfl, k6⟩
    have K6 := hide ((unhide K5).trans (k6.mono (unhide K5).size))
    clear k6
    go_wp2_with fail
    go_ret2
    exact ⟨rfl, unhide K6⟩
  · have e1 : k = 64 := by omega
    subst e1
    have hb1 : 64 < m := by omega
    clear hk hb
    obtain ⟨D, hD⟩ : ∃ D : Int, D = 2 ^ 64 := ⟨_, rfl⟩
    rw [← hD] at TW FI q1 q2 xv ⊢
    have d0 : 0 < D := by omega
    clear hD
    go_enter Tryz.func34, Tryz.ntmps34
    go_wp2_with fail
    refine (rwidth_yes n h _).mono ?_
    rintro e w1 ⟨rfl, k1⟩
    have K1 := hide k1
    clear k1
    go_wp2_with fail
    refine (MA _).mono ?_
    rintro e w2 ⟨p, rfl, hp, k2, B2⟩
    have K2 := hide ((unhide K1).trans (k2.mono (unhide K1).size))
    have s1 := (unhide K1).size
    have s2 := k2.size
    have lp := B2.lt
    have X2 := hide ((B2.step (below_a w2 (.cells #[.bool false, .slice none 0 0] 69))).step (below_a _ (.cells #[.bool false, .slice none 0 0] 69)))
    have Q2 := hide ((Big.new w2).step (below_a _ (.cells #[.bool false, .slice none 0 0] 69)))
    have R2 := hide (Big.new (w2.alloc (.cells #[.bool false, .slice none 0 0] 69)))
    have hs1 : (w2.alloc (.cells #[.bool false, .slice none 0 0] 69)).heap.size = w2.heap.size + 1 := by simp
    have hs2 : ((w2.alloc (.cells #[.bool false, .slice none 0 0] 69)).alloc (.cells #[.bool false, .slice none 0 0] 69)).heap.size = w2.heap.size + 1 + 1 := by simp
    rw [hs1] at R2
    have K3 := hide (((unhide K2).alloc (unhide K2).size (.cells #[.bool false, .slice none 0 0] 69)).alloc (by have := (unhide K2).size; rw [hs1]; omega) (.cells #[.bool false, .slice none 0 0] 69))
    clear k2 B2 hs1
    go_wp2_with fail
    generalize (w2.alloc (.cells #[.bool false, .slice none 0 0] 69)).alloc (.cells #[.bool false, .slice none 0 0] 69) = w3 at *
    refine (TW _).mono ?_
    rintro e w4 ⟨rfl, k4, B4⟩
    have K4 := hide ((unhide K3).trans (k4.mono (unhide K3).size))
    have T4 := hide B4
    have X4 := hide ((unhide X2).step k4)
    have Q4 := hide ((unhide Q2).step k4)
    have R4 := hide ((unhide R2).step k4)
    rw [hs2] at T4
    have s4 := k4.size
    clear k4 B4 X2 Q2 R2
    go_wp2_with fail
    refine (divmod_any w2.heap.size p (w2.heap.size + 1 + 1) (w2.heap.size + 1) X D w4 (unhide Q4).int (unhide R4).int (unhide X4) (unhide T4) (by omega) (divOk_short (by omega) (by omega) (by omega) (.inr (.inl (by omega)))) (by omega) (by omega) d0).mono ?_
    rintro e w5 ⟨rfl, k5, B5, C5⟩
    have K5 := hide ((unhide K4).trans (k5.below (by omega) (by omega) (unhide K4).size))
    have HB5 := hide B5
    clear k5 B5 C5
    go_wp2_with fail
    refine (FI _ _ (unhide HB5)).mono ?_
    rintro e w6 ⟨rfl, k6⟩
    have K6 := hide ((unhide K5).trans (k6.mono (unhide K5).size))
    clear k6
    go_wp2_with fail
    go_ret2
    exact ⟨rfl, unhide K6⟩
set_option maxRecDepth 100000 in
theorem shift_no (a m n : Int) (u s : Bool) (w : World) (h : NoW n) :
    Calls Tryz.prog 34 #[.int .u64 a, .int .u64 m, .int .i64 n, .bool u, .bool s] w fun e w' => e = .returned (.tuple #[.int .u64 0, .int .i64 1]) ∧ Below w.heap.size w w' := by
  have RW := fun w => rwidth_no n w h
  clear h
  go_enter Tryz.func34, Tryz.ntmps34
  go_wp2_with fail
  refine (RW _).mono ?_
  rintro e w1 ⟨rfl, k1⟩
  have K1 := hide k1
  clear k1
  go_wp2_with fail
  go_ret2
  exact ⟨rfl, unhide K1⟩
end Go.Proofs.YtdmniecdfakbcaaGreat

/-
  Numbers of any size, of any sign: moved up where they lie; turned; each bit turned over.
-/
namespace Go.Proofs.YtdmniecdfakbcaaGreat
open Go.RowKit
set_option linter.unusedSimpArgs false
set_option linter.unusedVariables false

theorem sg_mul (z c : Int) : sg (decide (z < 0)) ((z.natAbs : Int) * c) = z * c := by
  unfold sg
  by_cases h : z < 0
  · have e : (z.natAbs : Int) = -z := by omega
    rw [if_pos (by simpa using h), e, Int.neg_mul, Int.neg_neg]
  · have e : (z.natAbs : Int) = z := by omega
    rw [if_neg (by simpa using h), e]
theorem dec_mul (z : Int) (k : Nat) : decide (z * 2 ^ k < 0) = decide (z < 0) := by
  have hp : (0 : Int) < 2 ^ k := Int.pow_pos (by decide)
  by_cases h : z < 0
  · rw [decide_eq_true h, decide_eq_true (Int.mul_neg_of_neg_of_pos h hp)]
  · rw [decide_eq_false h, decide_eq_false (by have := Int.mul_nonneg (show 0 ≤ z by omega) (Int.le_of_lt hp); omega)]
set_option maxHeartbeats 1000000 in
/-- A number of any sign that is moved up where it lies. -/
theorem lsh_sg (p k : Nat) (z : Int) (w : World) (hq : Big w p z) (hk : k ≤ 1000) (hz : (z.natAbs : Int) * 2 ^ k < 4294967296 ^ 8) :
    Calls Tryz.prog 59 #[.pointer (some ⟨p, 0, none⟩), .pointer (some ⟨p, 0, none⟩), .int .u64 (k : Int)] w fun e w' => e = .returned (.pointer (some ⟨p, 0, none⟩)) ∧ Tn p w w' ∧ Big w' p (z * 2 ^ k) := by
  obtain ⟨v, c0, c1, hD, hlt⟩ := hq.cells
  have hsm := sg_mul z (2 ^ k)
  have hdm : decide (z * 2 ^ k < 0) = decide (z < 0) := dec_mul z k
  have h0 : (0 : Int) ≤ (z.natAbs : Int) := by omega
  have HP := hide hq.int
  have HD := hide hD
  have hz1 : (z.natAbs : Int) < 4294967296 ^ 8 := by
    have h1 : (1 : Int) ≤ 2 ^ k := Int.pow_pos (by decide)
    have h2 := Int.mul_le_mul_of_nonneg_left h1 h0
    omega
  have HZ := hide hz
  clear hq hD hz
  generalize decide (z < 0) = NG at *
  generalize (z.natAbs : Int) = NA at *
  go_enter Tryz.func59, Tryz.ntmps59
  go_wp2_with fail
  refine reg_start (fun W => W.cell? ⟨p, 0, none⟩ = some (.bool NG)) (by kernel_rfl) ?_
  refine reg_seg 0 8 5 (by kernel_rfl) (by decide) (by kernel_rfl) (by kernel_rfl) (fun _ _ _ _ _ h => h) ?_
  simp only [List.take_succ_cons, List.take_zero, List.drop_succ_cons, List.drop_zero]
  repeat (refine wpSteady_step (fun K hK => ?_); go_simp; first | (refine steady_of ?_ (fun W hW => ?_) (hK _ ?_); rotate_left; (obtain h1 := hW; go_simp; first | done | rfl); clear hK K) | (refine hK _ ?_; clear hK K))
  refine wpSteady_nil ?_
  refine reg_seg 9 1 4 (by kernel_rfl) (by decide) (by kernel_rfl) (by kernel_rfl) (fun _ _ _ _ _ h => h) ?_
  simp only [List.take_succ_cons, List.take_zero, List.drop_succ_cons, List.drop_zero]
  repeat (refine wpSteady_step (fun K hK => ?_); go_simp; first | (refine steady_of ?_ (fun W hW => ?_) (hK _ ?_); rotate_left; (obtain h1 := hW; go_simp; first | done | rfl); clear hK K) | (refine hK _ ?_; clear hK K))
  refine wpSteady_nil ?_
  refine reg_one 8 3 (by kernel_rfl) (by kernel_rfl) c0 ?_
  simp only [List.take_succ_cons, List.take_zero, List.drop_succ_cons, List.drop_zero]
  go_wp2_with fail
  first | refine next_nil ?_ | refine next_go ?_
  refine reg_one 10 2 (by kernel_rfl) (by kernel_rfl) c0 ?_
  simp only [List.take_succ_cons, List.take_zero, List.drop_succ_cons, List.drop_zero]
  go_wp2_with fail
  refine (left_any v NA k w.drew (unhide HD) hz1 hk).mono ?_
  rintro e w1 ⟨k1, v1, rfl, D1⟩
  have K1 := hide (of_drew k1)
  have HD1 := hide D1
  have c01 := cell_keep (unhide K1) hlt c0
  have hp1 := hide ((unhide HP).step (unhide K1))
  clear k1 D1
  go_wp2_with fail
  first | refine next_nil ?_ | refine next_go ?_
  refine reg_one 11 1 (by kernel_rfl) (by kernel_rfl) c01 ?_
  simp only [List.take_succ_cons, List.take_zero, List.drop_succ_cons, List.drop_zero]
  go_wp2_with fail
  refine (give_any p NG v1 _ w1 (unhide hp1) (unhide HD1) (unhide HZ)).mono ?_
  rintro e w2 ⟨rfl, k2, b2⟩
  rw [hsm] at b2
  have K2 := hide k2
  obtain ⟨v2, c02, _, _, _⟩ := b2.cells
  rw [hdm] at c02
  have B2 := hide b2
  clear k2 b2
  go_wp2_with fail
  first | refine next_nil ?_ | refine next_go ?_
  refine reg_one 12 0 (by kernel_rfl) (by kernel_rfl) c02 ?_
  simp only [List.take_succ_cons, List.take_zero, List.drop_succ_cons, List.drop_zero]
  go_wp2_with fail
  first | refine next_nil ?_ | refine next_go ?_
  refine reg_end (by kernel_rfl) c02 ?_
  go_wp2_with fail
  go_ret
  exact ⟨rfl, (Tn.of (unhide K1)).trans (unhide K2), unhide B2⟩
set_option maxRecDepth 100000 in
set_option maxHeartbeats 1000000 in
theorem shift_up2 (a m n : Int) (s : Bool) (w : World) (h : IsW n) (ha : U a) (hm : U m) :
    Calls Tryz.prog 34 #[.int .u64 a, .int .u64 m, .int .i64 n, .bool true, .bool s] w fun e w' => e = .returned (.tuple #[.int .u64 (cut n (mn s n a * 2 ^ min m.toNat 64)), .int .i64 0]) ∧ Below w.heap.size w w' := by
  have MA := fun w => meant_any a n s w h ha
  have c1 := mn_abs h s a
  generalize mn s n a = C at *
  obtain ⟨k, hk⟩ : ∃ k, k = min m.toNat 64 := ⟨_, rfl⟩
  have k64 : k ≤ 64 := by omega
  rw [← hk]
  obtain ⟨q1, q2⟩ := mul_pow_lt (x := (C.natAbs : Int)) (by omega) (by omega) k64
  have q3 : (C.natAbs : Int) * 2 ^ k < 4294967296 ^ 8 := Int.lt_trans q1 (by decide)
  have LS := fun p w hp => lsh_sg p k C w hp (by omega) q3
  have q4 : (C * 2 ^ k).natAbs < 4294967296 ^ 6 := by
    rw [Int.natAbs_mul, Int.natAbs_pow]
    have e2 : ((C.natAbs * 2 ^ k : Nat) : Int) = (C.natAbs : Int) * 2 ^ k := by rw [Int.natCast_mul, Int.natCast_pow]; rfl
    have e3 : (2 : Int).natAbs = 2 := rfl
    rw [e3]
    have e4 : ((C.natAbs * 2 ^ k : Nat) : Int) < ((4294967296 ^ 6 : Nat) : Int) := by rw [e2]; exact Int.lt_of_lt_of_le q1 (by decide)
    exact Int.ofNat_lt.1 e4
  have FI := fun p w hp => fitW p (C * 2 ^ k) n w hp h q4
  clear q1 q2 q3 q4 c1
  generalize C * 2 ^ k = V at *
  have hm0 := hm.1
  by_cases hb : m ≤ 64
  · have e1 : m = (k : Int) := by omega
    subst e1
    clear hk
    go_enter Tryz.func34, Tryz.ntmps34
    go_wp2_with fail
    refine (rwidth_yes n h _).mono ?_
    rintro e w1 ⟨rfl, k1⟩
    have K1 := hide k1
    clear k1
    go_wp2_with fail
    refine (MA _).mono ?_
    rintro e w2 ⟨p, rfl, hp, k2, B2⟩
    have K2 := hide ((unhide K1).trans (k2.mono (unhide K1).size))
    have HB2 := hide B2
    have s1 := (unhide K1).size
    clear k2 B2
    go_wp2_with fail
    refine (LS _ _ (unhide HB2)).mono ?_
    rintro e w3 ⟨rfl, k3, B3⟩
    have K3 := hide ((unhide K2).trans (k3.below (by omega) (unhide K2).size))
    have HB3 := hide B3
    clear k3 B3
    go_wp2_with fail
    refine (FI _ _ (unhide HB3)).mono ?_
    rintro e w4 ⟨rfl, k4⟩
    have K4 := hide ((unhide K3).trans (k4.mono (unhide K3).size))
    clear k4
    go_wp2_with fail
    go_ret2
    exact ⟨rfl, unhide K4⟩
  · have e1 : k = 64 := by omega
    subst e1
    have hb1 : 64 < m := by omega
    clear hk hb
    go_enter Tryz.func34, Tryz.ntmps34
    go_wp2_with fail
    refine (rwidth_yes n h _).mono ?_
    rintro e w1 ⟨rfl, k1⟩
    have K1 := hide k1
    clear k1
    go_wp2_with fail
    refine (MA _).mono ?_
    rintro e w2 ⟨p, rfl, hp, k2, B2⟩
    have K2 := hide ((unhide K1).trans (k2.mono (unhide K1).size))
    have HB2 := hide B2
    have s1 := (unhide K1).size
    clear k2 B2
    go_wp2_with fail
    refine (LS _ _ (unhide HB2)).mono ?_
    rintro e w3 ⟨rfl, k3, B3⟩
    have K3 := hide ((unhide K2).trans (k3.below (by omega) (unhide K2).size))
    have HB3 := hide B3
    clear k3 B3
    go_wp2_with fail
    refine (FI _ _ (unhide HB3)).mono ?_
    rintro e w4 ⟨rfl, k4⟩
    have K4 := hide ((unhide K3).trans (k4.mono (unhide K3).size))
    clear k4
    go_wp2_with fail
    go_ret2
    exact ⟨rfl, unhide K4⟩


theorem sg_turn (z : Int) : sg (!decide (z < 0)) (z.natAbs : Int) = -z := by
  unfold sg
  by_cases h : z < 0
  · have e : (z.natAbs : Int) = -z := by omega
    rw [decide_eq_true h, e]; rfl
  · have e : (z.natAbs : Int) = z := by omega
    rw [decide_eq_false h, e]; rfl
set_option maxHeartbeats 1000000 in
theorem neg_any (p q : Nat) (z : Int) (w : World) (hp : IntAt w p) (hq : Big w q z) (hne : q ≠ p) (hz : z.natAbs < 4294967296 ^ 7) :
    Calls Tryz.prog 31 #[.pointer (some ⟨p, 0, none⟩), .pointer (some ⟨q, 0, none⟩)] w fun e w' => e = .returned (.pointer (some ⟨p, 0, none⟩)) ∧ Tn p w w' ∧ Big w' p (-z) := by
  have b7 : (4294967296 : Nat) ^ 7 < 4294967296 ^ 8 := by decide
  obtain ⟨v, c0, c1, hD, hlt⟩ := hq.cells
  have HP := hide hp
  have HQ := hide hq
  have HD := hide hD
  clear hp hq hD
  go_enter Tryz.func31, Tryz.ntmps31
  go_wp2_with fail
  refine reg_start (fun W => W.cell? ⟨q, 0, none⟩ = some (.bool (decide (z < 0))) ∧ W.cell? ⟨q, 1, none⟩ = some v) (by kernel_rfl) ?_
  refine reg_seg 0 10 3 (by kernel_rfl) (by decide) (by kernel_rfl) (by kernel_rfl) (fun _ _ _ _ _ h => h) ?_
  simp only [List.take_succ_cons, List.take_zero, List.drop_succ_cons, List.drop_zero]
  repeat (refine wpSteady_step (fun K hK => ?_); go_simp; first | (refine steady_of ?_ (fun W hW => ?_) (hK _ ?_); rotate_left; (obtain ⟨h1, h2⟩ := hW; go_simp; first | done | rfl); clear hK K) | (refine hK _ ?_; clear hK K))
  refine wpSteady_nil ?_
  refine reg_one 10 2 (by kernel_rfl) (by kernel_rfl) ⟨c0, c1⟩ ?_
  simp only [List.take_succ_cons, List.take_zero, List.drop_succ_cons, List.drop_zero]
  go_wp2_with fail
  refine (twin_any v z.natAbs w.drew (unhide HD) (by omega)).mono ?_
  rintro e w1 ⟨k1, v1, rfl, D1⟩
  have K1 := hide (of_drew k1)
  have HD1 := hide D1
  have c01 := cell_keep (unhide K1) hlt c0
  have c11 := cell_keep (unhide K1) hlt c1
  have hp1 := hide ((unhide HP).step (unhide K1))
  clear k1 D1
  go_wp2_with fail
  first | refine next_nil ?_ | refine next_go ?_
  refine reg_one 11 1 (by kernel_rfl) (by kernel_rfl) ⟨c01, c11⟩ ?_
  simp only [List.take_succ_cons, List.take_zero, List.drop_succ_cons, List.drop_zero]
  go_wp2_with fail
  refine (give_any p (!decide (z < 0)) v1 z.natAbs w1 (unhide hp1) (unhide HD1) (by omega)).mono ?_
  rintro e w2 ⟨rfl, k2, b2⟩
  rw [sg_turn] at b2
  have K2 := hide k2
  have B2 := hide b2
  have hlt1 : q < w1.heap.size := Nat.lt_of_lt_of_le hlt (unhide K1).size
  have c02 := (World.cell?_of_block (w := w1) (a := ⟨q, 0, none⟩) ((unhide K2).block q hlt1 hne)).trans c01
  have c12 := (World.cell?_of_block (w := w1) (a := ⟨q, 1, none⟩) ((unhide K2).block q hlt1 hne)).trans c11
  clear k2 b2
  go_wp2_with fail
  first | refine next_nil ?_ | refine next_go ?_
  refine reg_one 12 0 (by kernel_rfl) (by kernel_rfl) ⟨c02, c12⟩ ?_
  simp only [List.take_succ_cons, List.take_zero, List.drop_succ_cons, List.drop_zero]
  go_wp2_with fail
  first | refine next_nil ?_ | refine next_go ?_
  refine reg_end (by kernel_rfl) ⟨c02, c12⟩ ?_
  go_wp2_with fail
  go_ret
  exact ⟨rfl, (Tn.of (unhide K1)).trans (unhide K2), unhide B2⟩
theorem tn_mix {p : Nat} {w w1 w2 w3 w4 : World} (k0 : Below w.heap.size w w1) (k2 : Tn w.heap.size w1 w2) (k3 : Below w2.heap.size w2 w3) (k4 : Tn p w3 w4) (_hp : p < w.heap.size) : Tn p w w4 := by
  have a : Below w.heap.size w w2 := k0.trans (k2.below (Nat.le_refl _) k0.size)
  exact (Tn.of (a.trans (k3.mono a.size))).trans k4
set_option maxHeartbeats 1000000 in
theorem not_any (p q : Nat) (z : Int) (w : World) (hp : IntAt w p) (hq : Big w q z) (hne : q ≠ p) (hz : z.natAbs < 4294967296 ^ 6) :
    Calls Tryz.prog 32 #[.pointer (some ⟨p, 0, none⟩), .pointer (some ⟨q, 0, none⟩)] w fun e w' => e = .returned (.pointer (some ⟨p, 0, none⟩)) ∧ Tn p w w' ∧ Big w' p (-z - 1) := by
  have b7 : (4294967296 : Nat) ^ 6 < 4294967296 ^ 7 := by decide
  have k0 := below_a w (.cells #[.bool false, .slice none 0 0] 69)
  have hlq := hq.lt
  have hlp := hp.lt
  have N0 := hide (Big.new w).int
  have Q0 := hide (hq.step k0)
  have P0 := hide (hp.step k0)
  have K0 := hide k0
  have hs0 : (w.alloc (.cells #[.bool false, .slice none 0 0] 69)).heap.size = w.heap.size + 1 := by simp
  clear hp hq k0
  go_enter Tryz.func32, Tryz.ntmps32
  go_wp2_with fail
  generalize w.alloc (.cells #[.bool false, .slice none 0 0] 69) = w1 at *
  refine (neg_any w.heap.size q z w1 (unhide N0) (unhide Q0) (by omega) (by omega)).mono ?_
  rintro e w2 ⟨rfl, k2, B2⟩
  have K2 := hide k2
  have HB2 := hide B2
  have P2 := hide ((unhide P0).tn k2 (by omega))
  have hs2 := k2.size
  clear k2 B2
  go_wp2_with fail
  refine (newI_any 1 w2 ⟨by decide, by decide⟩).mono ?_
  rintro e w3 ⟨rfl, k3, B3⟩
  have K3 := hide k3
  have HB3 := hide B3
  have N3 := hide ((unhide HB2).step k3)
  have P3 := hide ((unhide P2).step k3)
  have hs3 := (unhide P2).lt
  clear k3 B3
  go_wp2_with fail
  refine (sub_big p w.heap.size w2.heap.size (-z) 1 w3 (unhide P3) (unhide N3) (unhide HB3) (by omega) (by omega) (by decide)).mono ?_
  rintro e w4 ⟨rfl, k4, B4⟩
  have K4 := hide k4
  have HB4 := hide B4
  clear k4 B4
  go_wp2_with fail
  go_ret
  exact ⟨rfl, tn_mix (unhide K0) (unhide K2) (unhide K3) (unhide K4) hlp, unhide HB4⟩
end Go.Proofs.YtdmniecdfakbcaaGreat
