/-
  BigN, BigO, BigP.
-/
import Derived.Test.YtlkoidkdeopgjaaGreatDoorka
import Derived.Test.YtlkoidkdeopgjaaGreatDoorbd
import Derived.Test.YtlkoidkdeopgjaaGreatDoorbc
import Derived.Test.YtlkoidkdeopgjaaGreatDoorbf
import Derived.Test.YtlkoidkdeopgjaaGreatDoorbg
set_option maxHeartbeats 4000000
set_option maxRecDepth 100000
namespace Go.Proofs.YtlkoidkdeopgjaaGreatDoor
open Go.RowKit
set_option linter.unusedSimpArgs false
set_option linter.unusedVariables false
theorem divOk_w {n x : Int} (h : IsW n) (h0 : 0 ≤ x) (h1 : x < 4294967296 ^ 6) : DivOk x (md n) := by
 have b6 : (4294967296 : Int) ^ 6 < 4294967296 ^ 8 := by decide
 have b8 : (18446744073709551616 : Int) < 4294967296 ^ 8 := by decide
 rcases h with rfl | rfl | rfl | rfl
 · rw [md_8]; exact divOk_short (by omega) (by omega) (by decide) (.inr (.inr (by decide)))
 · rw [md_16]; exact divOk_short (by omega) (by omega) (by decide) (.inr (.inr (by decide)))
 · rw [md_32]
   by_cases hl : x < 18446744073709551616
   · exact divOk_short (by omega) (by omega) (by decide) (.inr (.inl hl))
   · have e : (4294967296 : Int) = 4294967296 ^ 1 := by decide
     intro w v1 v2 d1 d2
     have := div_long1 v1 v2 x w d1 (by rw [← e]; exact d2) h1 (by omega)
     rw [← e] at this
     exact this
 · rw [md_64]
   by_cases hl : x < 18446744073709551616
   · exact divOk_short (by omega) (by omega) (by decide) (.inr (.inl hl))
   · have e : (18446744073709551616 : Int) = 4294967296 ^ 2 := by decide
     intro w v1 v2 d1 d2
     have := div_long2 v1 v2 x w d1 (by rw [← e]; exact d2) h1 (by omega)
     rw [← e] at this
     exact this
theorem w_nat {n : Int} (h : IsW n) : ∃ k : Nat, n = (k : Int) ∧ 8 ≤ k ∧ k ≤ 64 := by
 rcases h with rfl | rfl | rfl | rfl
 · exact ⟨8, rfl, by decide, by decide⟩
 · exact ⟨16, rfl, by decide, by decide⟩
 · exact ⟨32, rfl, by decide, by decide⟩
 · exact ⟨64, rfl, by decide, by decide⟩
theorem fitW (a : Nat) (x n : Int) (w : World) (ha : Big w a x) (h : IsW n) (hx : x.natAbs < 4294967296 ^ 6) :
   Calls Tryz.prog 27 #[.pointer (some ⟨a, 0, none⟩), .int .i64 n] w fun e w' => e = .returned (.int .u64 (cut n x)) ∧ Below w.heap.size w w' := by
 have hd := divOk_w (x := (x.natAbs : Int)) h (by omega) (by omega)
 obtain ⟨k, rfl, _, h2⟩ := w_nat h
 exact fit_any a x k w ha h2 hx hd
theorem twoI (z : Int) (w : World) (h0 : 0 ≤ z) (h1 : z ≤ 64) :
   Calls Tryz.prog 33 #[.int .i64 z] w fun e w' => e = .returned (.pointer (some ⟨w.heap.size, 0, none⟩)) ∧ Below w.heap.size w w' ∧ Big w' w.heap.size (2 ^ z.toNat) := by
 obtain ⟨k, rfl⟩ : ∃ k : Nat, z = k := ⟨z.toNat, by omega⟩
 exact two_any k w (by omega)
theorem half_w {n : Int} (h : IsW n) : 2 * 2 ^ (n - 1).toNat = md n ∧ (0 : Int) < 2 ^ (n - 1).toNat ∧ 0 ≤ n - 1 ∧ n ≤ 64 ∧ 0 ≤ n := by
 rcases h with rfl | rfl | rfl | rfl <;> refine ⟨by decide, by decide, by decide, by decide, by decide⟩
theorem mn_abs {n : Int} (h : IsW n) (s : Bool) (x : Int) : (mn s n x).natAbs ≤ 18446744073709551615 := by
 have a := cut_lo h x
 have b := cut_hi h x
 have c := cut_lt h x
 have d := md_le h
 unfold mn sgn
 split
 · split <;> omega
 · omega
theorem meant_any (x n : Int) (s : Bool) (w : World) (h : IsW n) (hx : U x) :
   Calls Tryz.prog 19 #[.int .u64 x, .int .i64 n, .bool s] w fun e w' => ∃ p, e = .returned (.pointer (some ⟨p, 0, none⟩)) ∧ w.heap.size ≤ p ∧ Below w.heap.size w w' ∧ Big w' p (mn s n x) := by
 obtain ⟨h1, h2, h3, h4, h5⟩ := half_w h
 have c0 := cut_lo h x
 have c1 := cut_hi h x
 have c2 := cut_lt h x
 have mle := md_le h
 have mpos := md_pos h
 have b8 : (18446744073709551616 : Nat) < 4294967296 ^ 6 := by decide
 have FA := fun a w ha => fitW a x n w ha h (by unfold U at hx; omega)
 have WA := fun w => whole_any (cut n x) w (u_cut h x)
 have HU := hide hx
 clear hx
 have T1 := fun w => twoI (n - 1) w h3 (by omega)
 have T2 := fun w => twoI n w h5 h4
 rw [show (2 : Int) ^ n.toNat = md n from rfl] at T2
 generalize hm : mn s n x = M
 have HM := hide hm
 clear hm
 generalize hC : cut n x = C at *
 have HC := hide hC
 clear hC
 generalize hmd : md n = D at *
 have HMD := hide hmd
 clear hmd
 generalize (2 : Int) ^ (n - 1).toNat = E at *
 cases s
 · obtain rfl : M = C := by rw [← unhide HM, ← unhide HC]; rfl
   clear T1 T2
   go_enter Tryz.func19, Tryz.ntmps19
   go_wp2_with fail
   refine (whole_any x w (unhide HU)).mono ?_
   rintro e w1 ⟨rfl, k1, B1⟩
   have K1 := hide k1
   have HB1 := hide B1
   clear k1 B1
   go_wp2_with fail
   refine (FA _ _ (unhide HB1)).mono ?_
   rintro e w2 ⟨rfl, k2⟩
   have K2 := hide ((unhide K1).trans (k2.mono (unhide K1).size))
   clear k2
   go_wp2_with fail
   refine (WA _).mono ?_
   rintro e w3 ⟨rfl, k3, B3⟩
   have K3 := hide ((unhide K2).trans (k3.mono (unhide K2).size))
   have HB3 := hide B3
   clear k3 B3
   go_wp2_with fail
   go_ret
   exact ⟨_, rfl, (unhide K2).size, unhide K3, unhide HB3⟩
 · by_cases hs : 2 * C < D
   · obtain rfl : M = C := by
       have a := unhide HM
       unfold mn sgn at a
       rw [if_pos rfl, unhide HC, unhide HMD, if_pos hs] at a
       exact a.symm
     have hcm : cm M E = -1 := by unfold cm; rw [if_pos (by omega)]
     have CM := fun p q w hp hq => cmp_big p q M E w hp hq (by omega) (by omega)
     rw [hcm] at CM
     clear T2 hcm
     go_enter Tryz.func19, Tryz.ntmps19
     go_wp2_with fail
     refine (whole_any x w (unhide HU)).mono ?_
     rintro e w1 ⟨rfl, k1, B1⟩
     have K1 := hide k1
     have HB1 := hide B1
     clear k1 B1
     go_wp2_with fail
     refine (FA _ _ (unhide HB1)).mono ?_
     rintro e w2 ⟨rfl, k2⟩
     have K2 := hide ((unhide K1).trans (k2.mono (unhide K1).size))
     clear k2
     go_wp2_with fail
     refine (WA _).mono ?_
     rintro e w3 ⟨rfl, k3, B3⟩
     have K3 := hide ((unhide K2).trans (k3.mono (unhide K2).size))
     have HB3 := hide B3
     clear k3 B3
     go_wp2_with fail
     refine (T1 _).mono ?_
     rintro e w4 ⟨rfl, k4, B4⟩
     have K4 := hide ((unhide K3).trans (k4.mono (unhide K3).size))
     have HB4 := hide B4
     have HB3 := hide ((unhide HB3).step k4)
     clear k4 B4
     go_wp2_with fail
     refine (CM _ _ _ (unhide HB3) (unhide HB4)).mono ?_
     rintro e w5 ⟨⟨q, rfl⟩, rfl⟩
     go_wp2_with fail
     go_ret
     exact ⟨_, rfl, (unhide K2).size, ⟨(unhide K4).os, (unhide K4).tape, (unhide K4).output, (unhide K4).size, (unhide K4).block⟩, unhide HB3⟩
   · obtain rfl : M = C - D := by
       have a := unhide HM
       unfold mn sgn at a
       rw [if_pos rfl, unhide HC, unhide HMD, if_neg hs] at a
       exact a.symm
     have hcm : 0 ≤ cm C E := by unfold cm; rw [if_neg (by omega)]; split <;> decide
     have CM := fun p q w hp hq => cmp_big p q C E w hp hq (by omega) (by omega)
     generalize cm C E = cv at *
     go_enter Tryz.func19, Tryz.ntmps19
     go_wp2_with fail
     refine (whole_any x w (unhide HU)).mono ?_
     rintro e w1 ⟨rfl, k1, B1⟩
     have K1 := hide k1
     have HB1 := hide B1
     clear k1 B1
     go_wp2_with fail
     refine (FA _ _ (unhide HB1)).mono ?_
     rintro e w2 ⟨rfl, k2⟩
     have K2 := hide ((unhide K1).trans (k2.mono (unhide K1).size))
     clear k2
     go_wp2_with fail
     refine (WA _).mono ?_
     rintro e w3 ⟨rfl, k3, B3⟩
     have K3 := hide ((unhide K2).trans (k3.mono (unhide K2).size))
     have HB3 := hide B3
     clear k3 B3
     go_wp2_with fail
     refine (T1 _).mono ?_
     rintro e w4 ⟨rfl, k4, B4⟩
     have K4 := hide ((unhide K3).trans (k4.mono (unhide K3).size))
     have HB4 := hide B4
     have HB3 := hide ((unhide HB3).step k4)
     clear k4 B4
     go_wp2_with fail
     refine (CM _ _ _ (unhide HB3) (unhide HB4)).mono ?_
     rintro e w5 ⟨⟨q, rfl⟩, rfl⟩
     have HB5 : Hid (Big (w4.drewN q) w2.heap.size C) := unhide HB3
     have K5 : Hid (Below w.heap.size w (w4.drewN q)) := ⟨(unhide K4).os, (unhide K4).tape, (unhide K4).output, (unhide K4).size, (unhide K4).block⟩
     generalize w4.drewN q = w5 at *
     go_wp2_with fail
     refine (T2 _).mono ?_
     rintro e w6 ⟨rfl, k6, B6⟩
     have K6 := hide ((unhide K5).trans (k6.mono (unhide K5).size))
     have HB6 := hide B6
     have HB7 := hide ((unhide HB5).step k6)
     have ne : w5.heap.size ≠ w2.heap.size := by have := (unhide HB5).lt; omega
     clear k6 B6
     go_wp2_with fail
     refine (sub_big w2.heap.size w2.heap.size w5.heap.size C D _ (unhide HB7).int (unhide HB7) (unhide HB6) ne (by omega) (by omega)).mono ?_
     rintro e w7 ⟨rfl, k7, B7⟩
     have K7 := hide ((unhide K6).trans (k7.below (unhide K2).size (unhide K6).size))
     have HB8 := hide B7
     clear k7 B7
     go_wp2_with fail
     go_ret
     exact ⟨_, rfl, (unhide K2).size, unhide K7, unhide HB8⟩
end Go.Proofs.YtlkoidkdeopgjaaGreatDoor
namespace Go.Proofs.YtlkoidkdeopgjaaGreatDoor
open Go.RowKit
set_option linter.unusedSimpArgs false
set_option linter.unusedVariables false
theorem abs_mod_lt {X Y : Int} (hx : X.natAbs ≤ 18446744073709551615) : (X.tmod Y).natAbs < 4294967296 ^ 6 := by
 rw [Int.natAbs_tmod]
 have h2 : X.natAbs % Y.natAbs ≤ X.natAbs := Nat.mod_le X.natAbs Y.natAbs
 have b : (18446744073709551615 : Nat) < 4294967296 ^ 6 := by decide
 exact Nat.lt_of_le_of_lt h2 (by omega)
theorem do_rem (a b n : Int) (s : Bool) (w : World) (h : IsW n) (ha : U a) (hb : U b) (hne : mn s n b ≠ 0) :
   Calls Tryz.prog 15 #[.int .u8 37, .int .u64 a, .int .u64 b, .int .i64 n, .bool s] w fun e w' => e = .returned (.tuple #[.int .u64 (cut n ((mn s n a).tmod (mn s n b))), .int .i64 0]) ∧ Below w.heap.size w w' := by
 have MA := fun w => meant_any a n s w h ha
 have MB := fun w => meant_any b n s w h hb
 have xa := mn_abs h s a
 have xb := mn_abs h s b
 generalize mn s n a = X at *
 generalize mn s n b = Y at *
 have b4 : (18446744073709551616 : Nat) < 4294967296 ^ 4 := by decide
 have b6 : (18446744073709551616 : Nat) * 18446744073709551616 < 4294967296 ^ 6 := by decide
 have b7 : (4294967296 : Nat) ^ 4 < 4294967296 ^ 7 := by decide
 have b8 : (4294967296 : Nat) ^ 4 < 4294967296 ^ 8 := by decide
 go_enter Tryz.func15, Tryz.ntmps15
 go_wp2_with fail
 refine (rwidth_yes n h _).mono ?_
 rintro e w1 ⟨rfl, k1⟩
 have K1 := hide k1
 clear k1
 go_wp2_with fail
 refine (MA _).mono ?_
 rintro e w2 ⟨p, rfl, hp, k2, B2⟩
 have K2 := hide ((unhide K1).trans (k2.mono (unhide K1).size))
 have HB2 := hide B2
 have hp2 := B2.lt
 clear k2 B2
 go_wp2_with fail
 refine (MB _).mono ?_
 rintro e w3 ⟨q, rfl, hq, k3, B3⟩
 have K3 := hide ((unhide K2).trans (k3.mono (unhide K2).size))
 have X3 := hide (((unhide HB2).step k3).step (below_a w3 (.cells #[.bool false, .slice none 0 0] 34)))
 have Y3 := hide (B3.step (below_a w3 (.cells #[.bool false, .slice none 0 0] 34)))
 have Z3 := hide (Big.new w3)
 have hq2 := B3.lt
 have s3 := k3.size
 have K4 := hide ((unhide K3).trans ((below_a w3 (.cells #[.bool false, .slice none 0 0] 34)).mono (unhide K3).size))
 have hs4 : (w3.alloc (.cells #[.bool false, .slice none 0 0] 34)).heap.size = w3.heap.size + 1 := by simp
 clear k3 B3
 go_wp2_with fail
 generalize w3.alloc (.cells #[.bool false, .slice none 0 0] 34) = w4 at *
 have k03 : w.heap.size ≤ w3.heap.size := (unhide K3).size
 have SG := sign_any q Y w4 (unhide Y3) (by omega)
 have hsg : (Y.sign == 0) = false := beq_eq_false_iff_ne.2 (by rw [Ne, Int.sign_eq_zero_iff_zero]; exact hne)
 generalize Y.sign = sg at *
 refine SG.mono ?_
 rintro e w5 ⟨rfl, rfl⟩
 clear SG
 have R5 := Big.new w5
 rw [hs4] at R5
 replace R5 := hide R5
 have X5 := hide ((unhide X3).step (below_a w5 (.cells #[.bool false, .slice none 0 0] 34)))
 have Y5 := hide ((unhide Y3).step (below_a w5 (.cells #[.bool false, .slice none 0 0] 34)))
 have Z5 := hide ((unhide Z3).step (below_a w5 (.cells #[.bool false, .slice none 0 0] 34)))
 have K5 := hide ((unhide K4).trans ((below_a w5 (.cells #[.bool false, .slice none 0 0] 34)).mono (unhide K4).size))
 have hs5 : (w5.alloc (.cells #[.bool false, .slice none 0 0] 34)).heap.size = w5.heap.size + 1 := by simp
 go_wp2_with fail
 generalize w5.alloc (.cells #[.bool false, .slice none 0 0] 34) = w6 at *
 have b64 : (18446744073709551615 : Int) < 4294967296 ^ 8 := by decide
 refine (quorem_any w3.heap.size p q (w3.heap.size + 1) X Y w6 (unhide Z5).int (unhide R5).int (unhide X5) (unhide Y5) (by omega) (divOk_short (by omega) (by omega) (by omega) (.inr (.inl (by omega)))) (by omega) (by omega) hne).mono ?_
 rintro e w7 ⟨rfl, k7, BQ, BR⟩
 have K7 := hide ((unhide K5).trans (k7.below k03 (by omega) (unhide K5).size))
 have HQ := hide BQ
 have HR := hide BR
 clear k7 BQ BR
 go_wp2_with fail
 refine (fitW (w3.heap.size + 1) (X.tmod Y) n _ (unhide HR) h (by exact abs_mod_lt xa)).mono ?_
 rintro e w9 ⟨rfl, k9⟩
 have K9 := hide ((unhide K7).trans (k9.mono (unhide K7).size))
 clear k9
 go_wp2_with fail
 go_ret2
 exact ⟨rfl, unhide K9⟩
theorem do_rem0 (a b n : Int) (s : Bool) (w : World) (h : IsW n) (ha : U a) (hb : U b) (hze : mn s n b = 0) :
   Calls Tryz.prog 15 #[.int .u8 37, .int .u64 a, .int .u64 b, .int .i64 n, .bool s] w fun e w' => e = .returned (.tuple #[.int .u64 (0), .int .i64 10]) ∧ Below w.heap.size w w' := by
 have MA := fun w => meant_any a n s w h ha
 have MB := fun w => meant_any b n s w h hb
 have xa := mn_abs h s a
 have xb := mn_abs h s b
 generalize mn s n a = X at *
 generalize mn s n b = Y at *
 have b4 : (18446744073709551616 : Nat) < 4294967296 ^ 4 := by decide
 have b6 : (18446744073709551616 : Nat) * 18446744073709551616 < 4294967296 ^ 6 := by decide
 have b7 : (4294967296 : Nat) ^ 4 < 4294967296 ^ 7 := by decide
 have b8 : (4294967296 : Nat) ^ 4 < 4294967296 ^ 8 := by decide
 go_enter Tryz.func15, Tryz.ntmps15
 go_wp2_with fail
 refine (rwidth_yes n h _).mono ?_
 rintro e w1 ⟨rfl, k1⟩
 have K1 := hide k1
 clear k1
 go_wp2_with fail
 refine (MA _).mono ?_
 rintro e w2 ⟨p, rfl, hp, k2, B2⟩
 have K2 := hide ((unhide K1).trans (k2.mono (unhide K1).size))
 have HB2 := hide B2
 have hp2 := B2.lt
 clear k2 B2
 go_wp2_with fail
 refine (MB _).mono ?_
 rintro e w3 ⟨q, rfl, hq, k3, B3⟩
 have K3 := hide ((unhide K2).trans (k3.mono (unhide K2).size))
 have X3 := hide (((unhide HB2).step k3).step (below_a w3 (.cells #[.bool false, .slice none 0 0] 34)))
 have Y3 := hide (B3.step (below_a w3 (.cells #[.bool false, .slice none 0 0] 34)))
 have Z3 := hide (Big.new w3)
 have hq2 := B3.lt
 have s3 := k3.size
 have K4 := hide ((unhide K3).trans ((below_a w3 (.cells #[.bool false, .slice none 0 0] 34)).mono (unhide K3).size))
 have hs4 : (w3.alloc (.cells #[.bool false, .slice none 0 0] 34)).heap.size = w3.heap.size + 1 := by simp
 clear k3 B3
 go_wp2_with fail
 generalize w3.alloc (.cells #[.bool false, .slice none 0 0] 34) = w4 at *
 have SG := sign_any q Y w4 (unhide Y3) (by omega)
 rw [hze] at SG
 refine SG.mono ?_
 rintro e w5 ⟨rfl, rfl⟩
 clear SG
 go_wp2_with fail
 go_ret2
 exact ⟨rfl, unhide K4⟩
end Go.Proofs.YtlkoidkdeopgjaaGreatDoor
namespace Go.Proofs.YtlkoidkdeopgjaaGreatDoor
open Go.RowKit
set_option linter.unusedSimpArgs false
set_option linter.unusedVariables false
theorem pow64 {k : Nat} (h : k ≤ 64) : (1 : Int) ≤ 2 ^ k ∧ (2 : Int) ^ k ≤ 18446744073709551616 := by
 obtain ⟨a, b⟩ := p64 h
 exact ⟨a, b⟩
theorem mul_pow_lt {x : Int} {k : Nat} (h0 : 0 ≤ x) (h1 : x ≤ 18446744073709551615) (h : k ≤ 64) : x * 2 ^ k < 4294967296 ^ 6 ∧ 0 ≤ x * 2 ^ k := by
 obtain ⟨a, b⟩ := pow64 h
 have c := Int.mul_le_mul h1 b (by omega) (by decide)
 have d : (18446744073709551615 : Int) * 18446744073709551616 < 4294967296 ^ 6 := by decide
 exact ⟨by omega, Int.mul_nonneg h0 (by omega)⟩
theorem div_abs_le (x : Int) (k : Nat) : (x / 2 ^ k).natAbs ≤ x.natAbs := by
 have hp : (0 : Int) < 2 ^ k := Int.pow_pos (by decide)
 by_cases h : 0 ≤ x
 · have := div_pow_le x k h; omega
 · have h1 : x / 2 ^ k < 0 := Int.ediv_neg_of_neg_of_pos (by omega) hp
   have h2 : x ≤ x / 2 ^ k := by
     rw [Int.le_ediv_iff_mul_le hp]
     have := Int.mul_le_mul_of_nonneg_left (a := 1) (b := 2 ^ k) (c := -x) (by omega) (by omega)
     rw [Int.neg_mul, Int.neg_mul] at this
     omega
   omega
theorem shift_up (a m n : Int) (w : World) (h : IsW n) (ha : U a) (hm : U m) :
   Calls Tryz.prog 17 #[.int .u64 a, .int .u64 m, .int .i64 n, .bool true, .bool false] w fun e w' => e = .returned (.tuple #[.int .u64 (cut n (cut n a * 2 ^ min m.toNat 64)), .int .i64 0]) ∧ Below w.heap.size w w' := by
 have MA := fun w => meant_any a n false w h ha
 rw [show mn false n a = cut n a from rfl] at MA
 have c0 := cut_lo h a
 have c1 := cut_hi h a
 generalize cut n a = C at *
 obtain ⟨k, hk⟩ : ∃ k, k = min m.toNat 64 := ⟨_, rfl⟩
 have k64 : k ≤ 64 := by omega
 rw [← hk]
 obtain ⟨q1, q2⟩ := mul_pow_lt c0 c1 k64
 have q3 : C * 2 ^ k < 4294967296 ^ 8 := Int.lt_trans q1 (by decide)
 have LS := fun p w hp => lsh_own p k C w hp c0 (by omega) q3
 have FI := fun p w hp => fitW p (C * 2 ^ k) n w hp h (by omega)
 generalize C * 2 ^ k = V at *
 have hm0 := hm.1
 by_cases hb : m ≤ 64
 · have e1 : m = (k : Int) := by omega
   subst e1
   clear hk
   go_enter Tryz.func17, Tryz.ntmps17
   go_wp2_with fail
   refine (rwidth_yes n h _).mono ?_
   rintro e w1 ⟨rfl, k1⟩
   have K1 := hide k1
   clear k1
   go_wp2_with fail
   refine (MA _).mono ?_
   rintro e w2 ⟨p, rfl, hp, k2, B2⟩
   have K2 := hide ((unhide K1).trans (k2.mono (unhide K1).size))
   have HB2 := hide B2
   have s1 := (unhide K1).size
   clear k2 B2
   go_wp2_with fail
   refine (LS _ _ (unhide HB2)).mono ?_
   rintro e w3 ⟨rfl, k3, B3⟩
   have K3 := hide ((unhide K2).trans (k3.below (by omega) (unhide K2).size))
   have HB3 := hide B3
   clear k3 B3
   go_wp2_with fail
   refine (FI _ _ (unhide HB3)).mono ?_
   rintro e w4 ⟨rfl, k4⟩
   have K4 := hide ((unhide K3).trans (k4.mono (unhide K3).size))
   clear k4
   go_wp2_with fail
   go_ret2
   exact ⟨rfl, unhide K4⟩
 · have e1 : k = 64 := by omega
   subst e1
   have hb1 : 64 < m := by omega
   clear hk hb
   go_enter Tryz.func17, Tryz.ntmps17
   go_wp2_with fail
   refine (rwidth_yes n h _).mono ?_
   rintro e w1 ⟨rfl, k1⟩
   have K1 := hide k1
   clear k1
   go_wp2_with fail
   refine (MA _).mono ?_
   rintro e w2 ⟨p, rfl, hp, k2, B2⟩
   have K2 := hide ((unhide K1).trans (k2.mono (unhide K1).size))
   have HB2 := hide B2
   have s1 := (unhide K1).size
   clear k2 B2
   go_wp2_with fail
   refine (LS _ _ (unhide HB2)).mono ?_
   rintro e w3 ⟨rfl, k3, B3⟩
   have K3 := hide ((unhide K2).trans (k3.below (by omega) (unhide K2).size))
   have HB3 := hide B3
   clear k3 B3
   go_wp2_with fail
   refine (FI _ _ (unhide HB3)).mono ?_
   rintro e w4 ⟨rfl, k4⟩
   have K4 := hide ((unhide K3).trans (k4.mono (unhide K3).size))
   clear k4
   go_wp2_with fail
   go_ret2
   exact ⟨rfl, unhide K4⟩
theorem shift_down (a m n : Int) (s : Bool) (w : World) (h : IsW n) (ha : U a) (hm : U m) :
   Calls Tryz.prog 17 #[.int .u64 a, .int .u64 m, .int .i64 n, .bool false, .bool s] w fun e w' => e = .returned (.tuple #[.int .u64 (cut n (mn s n a / 2 ^ min m.toNat 64)), .int .i64 0]) ∧ Below w.heap.size w w' := by
 have MA := fun w => meant_any a n s w h ha
 have xa := mn_abs h s a
 generalize mn s n a = X at *
 obtain ⟨k, hk⟩ : ∃ k, k = min m.toNat 64 := ⟨_, rfl⟩
 have k64 : k ≤ 64 := by omega
 rw [← hk]
 obtain ⟨q1, q2⟩ := pow64 k64
 have b6 : (18446744073709551616 : Nat) < 4294967296 ^ 6 := by decide
 have b8 : (18446744073709551616 : Int) < 4294967296 ^ 8 := by decide
 have xv := div_abs_le X k
 have TW := fun w => two_any k w k64
 have FI := fun p w hp => fitW p (X / 2 ^ k) n w hp h (by omega)
 have hm0 := hm.1
 by_cases hb : m ≤ 64
 · have e1 : m = (k : Int) := by omega
   subst e1
   clear hk
   obtain ⟨D, hD⟩ : ∃ D : Int, D = 2 ^ k := ⟨_, rfl⟩
   rw [← hD] at TW FI q1 q2 xv ⊢
   have d0 : 0 < D := by omega
   clear hD
   go_enter Tryz.func17, Tryz.ntmps17
   go_wp2_with fail
   refine (rwidth_yes n h _).mono ?_
   rintro e w1 ⟨rfl, k1⟩
   have K1 := hide k1
   clear k1
   go_wp2_with fail
   refine (MA _).mono ?_
   rintro e w2 ⟨p, rfl, hp, k2, B2⟩
   have K2 := hide ((unhide K1).trans (k2.mono (unhide K1).size))
   have s1 := (unhide K1).size
   have s2 := k2.size
   have lp := B2.lt
   have X2 := hide ((B2.step (below_a w2 (.cells #[.bool false, .slice none 0 0] 34))).step (below_a _ (.cells #[.bool false, .slice none 0 0] 34)))
   have Q2 := hide ((Big.new w2).step (below_a _ (.cells #[.bool false, .slice none 0 0] 34)))
   have R2 := hide (Big.new (w2.alloc (.cells #[.bool false, .slice none 0 0] 34)))
   have hs1 : (w2.alloc (.cells #[.bool false, .slice none 0 0] 34)).heap.size = w2.heap.size + 1 := by simp
   have hs2 : ((w2.alloc (.cells #[.bool false, .slice none 0 0] 34)).alloc (.cells #[.bool false, .slice none 0 0] 34)).heap.size = w2.heap.size + 1 + 1 := by simp
   rw [hs1] at R2
   have K3 := hide (((unhide K2).alloc (unhide K2).size (.cells #[.bool false, .slice none 0 0] 34)).alloc (by have := (unhide K2).size; rw [hs1]; omega) (.cells #[.bool false, .slice none 0 0] 34))
   clear k2 B2 hs1
   go_wp2_with fail
   generalize (w2.alloc (.cells #[.bool false, .slice none 0 0] 34)).alloc (.cells #[.bool false, .slice none 0 0] 34) = w3 at *
   refine (TW _).mono ?_
   rintro e w4 ⟨rfl, k4, B4⟩
   have K4 := hide ((unhide K3).trans (k4.mono (unhide K3).size))
   have T4 := hide B4
   have X4 := hide ((unhide X2).step k4)
   have Q4 := hide ((unhide Q2).step k4)
   have R4 := hide ((unhide R2).step k4)
   rw [hs2] at T4
   have s4 := k4.size
   clear k4 B4 X2 Q2 R2
   go_wp2_with fail
   refine (divmod_any w2.heap.size p (w2.heap.size + 1 + 1) (w2.heap.size + 1) X D w4 (unhide Q4).int (unhide R4).int (unhide X4) (unhide T4) (by omega) (divOk_short (by omega) (by omega) (by omega) (.inr (.inl (by omega)))) (by omega) (by omega) d0).mono ?_
   rintro e w5 ⟨rfl, k5, B5, C5⟩
   have K5 := hide ((unhide K4).trans (k5.below (by omega) (by omega) (unhide K4).size))
   have HB5 := hide B5
   clear k5 B5 C5
   go_wp2_with fail
   refine (FI _ _ (unhide HB5)).mono ?_
   rintro e w6 ⟨rfl, k6⟩
   have K6 := hide ((unhide K5).trans (k6.mono (unhide K5).size))
   clear k6
   go_wp2_with fail
   go_ret2
   exact ⟨rfl, unhide K6⟩
 · have e1 : k = 64 := by omega
   subst e1
   have hb1 : 64 < m := by omega
   clear hk hb
   obtain ⟨D, hD⟩ : ∃ D : Int, D = 2 ^ 64 := ⟨_, rfl⟩
   rw [← hD] at TW FI q1 q2 xv ⊢
   have d0 : 0 < D := by omega
   clear hD
   go_enter Tryz.func17, Tryz.ntmps17
   go_wp2_with fail
   refine (rwidth_yes n h _).mono ?_
   rintro e w1 ⟨rfl, k1⟩
   have K1 := hide k1
   clear k1
   go_wp2_with fail
   refine (MA _).mono ?_
   rintro e w2 ⟨p, rfl, hp, k2, B2⟩
   have K2 := hide ((unhide K1).trans (k2.mono (unhide K1).size))
   have s1 := (unhide K1).size
   have s2 := k2.size
   have lp := B2.lt
   have X2 := hide ((B2.step (below_a w2 (.cells #[.bool false, .slice none 0 0] 34))).step (below_a _ (.cells #[.bool false, .slice none 0 0] 34)))
   have Q2 := hide ((Big.new w2).step (below_a _ (.cells #[.bool false, .slice none 0 0] 34)))
   have R2 := hide (Big.new (w2.alloc (.cells #[.bool false, .slice none 0 0] 34)))
   have hs1 : (w2.alloc (.cells #[.bool false, .slice none 0 0] 34)).heap.size = w2.heap.size + 1 := by simp
   have hs2 : ((w2.alloc (.cells #[.bool false, .slice none 0 0] 34)).alloc (.cells #[.bool false, .slice none 0 0] 34)).heap.size = w2.heap.size + 1 + 1 := by simp
   rw [hs1] at R2
   have K3 := hide (((unhide K2).alloc (unhide K2).size (.cells #[.bool false, .slice none 0 0] 34)).alloc (by have := (unhide K2).size; rw [hs1]; omega) (.cells #[.bool false, .slice none 0 0] 34))
   clear k2 B2 hs1
   go_wp2_with fail
   generalize (w2.alloc (.cells #[.bool false, .slice none 0 0] 34)).alloc (.cells #[.bool false, .slice none 0 0] 34) = w3 at *
   refine (TW _).mono ?_
   rintro e w4 ⟨rfl, k4, B4⟩
   have K4 := hide ((unhide K3).trans (k4.mono (unhide K3).size))
   have T4 := hide B4
   have X4 := hide ((unhide X2).step k4)
   have Q4 := hide ((unhide Q2).step k4)
   have R4 := hide ((unhide R2).step k4)
   rw [hs2] at T4
   have s4 := k4.size
   clear k4 B4 X2 Q2 R2
   go_wp2_with fail
   refine (divmod_any w2.heap.size p (w2.heap.size + 1 + 1) (w2.heap.size + 1) X D w4 (unhide Q4).int (unhide R4).int (unhide X4) (unhide T4) (by omega) (divOk_short (by omega) (by omega) (by omega) (.inr (.inl (by omega)))) (by omega) (by omega) d0).mono ?_
   rintro e w5 ⟨rfl, k5, B5, C5⟩
   have K5 := hide ((unhide K4).trans (k5.below (by omega) (by omega) (unhide K4).size))
   have HB5 := hide B5
   clear k5 B5 C5
   go_wp2_with fail
   refine (FI _ _ (unhide HB5)).mono ?_
   rintro e w6 ⟨rfl, k6⟩
   have K6 := hide ((unhide K5).trans (k6.mono (unhide K5).size))
   clear k6
   go_wp2_with fail
   go_ret2
   exact ⟨rfl, unhide K6⟩
end Go.Proofs.YtlkoidkdeopgjaaGreatDoor
