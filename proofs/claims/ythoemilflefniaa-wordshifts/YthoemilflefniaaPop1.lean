/-
  OnesCount64, word.Bits, the answer's Ones.
-/
import Derived.Test.YthoemilflefniaaPop0
import Derived.Test.YthoemilflefniaaWidth
import Derived.Test.YthoemilflefniaaBigG
namespace Go.Proofs.Ythoemilflefniaa
open Go.RowKit
set_option linter.unusedSimpArgs false
set_option linter.unusedVariables false

theorem and64 (a m : Nat) (ha : a < 18446744073709551616) (hm : m < 18446744073709551616) : bits .and .u64 (a : Int) (m : Int) = ((a &&& m : Nat) : Int) := by
  have e : bits .and .u64 (a : Int) (m : Int) = IntKind.u64.wrap (((BitVec.ofInt 64 (a : Int) &&& BitVec.ofInt 64 (m : Int)).toNat : Nat) : Int) := rfl
  have h : (a &&& m) ≤ a := Nat.and_le_left
  rw [e, BitVec.toNat_and, BitVec.toNat_ofInt, BitVec.toNat_ofInt, u64_wrap]
  have e1 : ((a : Int) % ((2 ^ 64 : Nat) : Int)).toNat = a := by omega
  have e2 : ((m : Int) % ((2 ^ 64 : Nat) : Int)).toNat = m := by omega
  rw [e1, e2]; omega
theorem and127 (a : Nat) (ha : a < 9223372036854775808) : bits .and .i64 (a : Int) 127 = ((a % 128 : Nat) : Int) := by
  have e : bits .and .i64 (a : Int) 127 = IntKind.i64.wrap (((BitVec.ofInt 64 (a : Int) &&& BitVec.ofInt 64 127).toNat : Nat) : Int) := rfl
  have f : (BitVec.ofInt 64 127).toNat = 2 ^ 7 - 1 := by decide
  rw [e, BitVec.toNat_and, f, Nat.and_two_pow_sub_one_eq_mod, BitVec.toNat_ofInt, IntKind.wrap_i64]
  omega
theorem cnt_le : ∀ (k x : Nat), 255 * cnt k x ≤ 8 * (256 ^ k - 1)
  | 0, x => by simp [cnt]
  | k + 1, x => by
    have ih := cnt_le k (x / 256)
    have p := pop8_le' x
    have q : 0 < 256 ^ k := Nat.pow_pos (by decide)
    simp only [cnt]
    rw [Nat.pow_succ]
    generalize 256 ^ k = P at *
    generalize pop 8 (x % 256) = a at *
    generalize cnt k (x / 256) = b at *
    omega
theorem cnt_small (x : Nat) : cnt 8 x ≤ 578721382704613384 := by
  have := cnt_le 8 x
  rw [show 256 ^ 8 - 1 = 18446744073709551615 from rfl] at this
  omega
set_option maxRecDepth 100000 in
set_option maxHeartbeats 1000000 in
theorem onesCount_any (x : Nat) (hx : x < 18446744073709551616) (w : World) : Calls Try.prog 65 #[.int .u64 (x : Int)] w fun e w' => e = .returned (.int .i64 (pop 64 x : Nat)) ∧ w' = w := by
  have sw := swar 8 x (by simpa using hx)
  unfold s3 s2 s1 at sw
  rw [show mask 85 8 = 6148914691236517205 from by decide, show mask 51 8 = 3689348814741910323 from by decide, show mask 15 8 = 1085102592571150095 from by decide] at sw
  obtain ⟨a1, h1⟩ : ∃ a, a = x / 2 &&& 6148914691236517205 := ⟨_, rfl⟩
  obtain ⟨a2, h2⟩ : ∃ a, a = x &&& 6148914691236517205 := ⟨_, rfl⟩
  rw [← h1, ← h2] at sw
  have l1 : a1 ≤ 6148914691236517205 := by rw [h1]; exact Nat.and_le_right
  have l2 : a2 ≤ 6148914691236517205 := by rw [h2]; exact Nat.and_le_right
  obtain ⟨a3, h3⟩ : ∃ a, a = (a1 + a2) / 4 &&& 3689348814741910323 := ⟨_, rfl⟩
  obtain ⟨a4, h4⟩ : ∃ a, a = (a1 + a2) &&& 3689348814741910323 := ⟨_, rfl⟩
  rw [← h3, ← h4] at sw
  have l3 : a3 ≤ 3689348814741910323 := by rw [h3]; exact Nat.and_le_right
  have l4 : a4 ≤ 3689348814741910323 := by rw [h4]; exact Nat.and_le_right
  have e1 : bits .and .u64 ((x : Int) / 2) 6148914691236517205 = (a1 : Int) := by
    rw [h1]; exact and64 (x / 2) 6148914691236517205 (by omega) (by decide)
  have e2 : bits .and .u64 (x : Int) 6148914691236517205 = (a2 : Int) := by
    rw [h2]; exact and64 x 6148914691236517205 (by omega) (by decide)
  have e3 : bits .and .u64 (((a1 : Int) + (a2 : Int)) / 4) 3689348814741910323 = (a3 : Int) := by
    rw [h3]; exact and64 ((a1 + a2) / 4) 3689348814741910323 (by omega) (by decide)
  have e4 : bits .and .u64 ((a1 : Int) + (a2 : Int)) 3689348814741910323 = (a4 : Int) := by
    rw [h4]; exact and64 (a1 + a2) 3689348814741910323 (by omega) (by decide)
  have e5 : bits .and .u64 (((a3 : Int) + (a4 : Int)) / 16 + ((a3 : Int) + (a4 : Int))) 1085102592571150095 = ((cnt 8 x : Nat) : Int) := by
    rw [← sw]; exact and64 ((a3 + a4) / 16 + (a3 + a4)) 1085102592571150095 (by omega) (by decide)
  obtain ⟨g1, g2, g3, g4⟩ := ones64 x (cnt 8 x) rfl
  have l5 := cnt_small x
  generalize cnt 8 x = y at *
  rw [← g4]
  have e6 := and127 (y + y / 256 + (y + y / 256) / 65536 + (y + y / 256 + (y + y / 256) / 65536) / 4294967296) (by omega)
  obtain ⟨X, hX⟩ : ∃ X : Int, X = (x : Int) := ⟨_, rfl⟩
  obtain ⟨A1, hA1⟩ : ∃ X : Int, X = (a1 : Int) := ⟨_, rfl⟩
  obtain ⟨A2, hA2⟩ : ∃ X : Int, X = (a2 : Int) := ⟨_, rfl⟩
  obtain ⟨A3, hA3⟩ : ∃ X : Int, X = (a3 : Int) := ⟨_, rfl⟩
  obtain ⟨A4, hA4⟩ : ∃ X : Int, X = (a4 : Int) := ⟨_, rfl⟩
  obtain ⟨Y, hY⟩ : ∃ X : Int, X = (y : Int) := ⟨_, rfl⟩
  rw [← hX, ← hA1] at e1
  rw [← hX, ← hA2] at e2
  rw [← hA1, ← hA2, ← hA3] at e3
  rw [← hA1, ← hA2, ← hA4] at e4
  rw [← hA3, ← hA4, ← hY] at e5
  have e7 : ((y + y / 256 + (y + y / 256) / 65536 + (y + y / 256 + (y + y / 256) / 65536) / 4294967296 : Nat) : Int) = Y + Y / 256 + (Y + Y / 256) / 65536 + (Y + Y / 256 + (Y + Y / 256) / 65536) / 4294967296 := by rw [hY]; first | rfl | (push_cast; rfl) | simp
  rw [e7] at e6
  obtain ⟨R, hR⟩ : ∃ R : Nat, R = (y + y / 256 + (y + y / 256) / 65536 + (y + y / 256 + (y + y / 256) / 65536) / 4294967296) % 128 := ⟨_, rfl⟩
  rw [← hR] at e6 ⊢
  have r0 : 0 ≤ X ∧ X < 18446744073709551616 := by omega
  have r1 : 0 ≤ A1 ∧ A1 ≤ 6148914691236517205 := by omega
  have r2 : 0 ≤ A2 ∧ A2 ≤ 6148914691236517205 := by omega
  have r3 : 0 ≤ A3 ∧ A3 ≤ 3689348814741910323 := by omega
  have r4 : 0 ≤ A4 ∧ A4 ≤ 3689348814741910323 := by omega
  have r5 : 0 ≤ Y ∧ Y ≤ 578721382704613384 := by omega
  rw [← hX]
  clear sw h1 h2 h3 h4 l1 l2 l3 l4 l5 hA1 hA2 hA3 hA4 hY hX g1 g2 g3 g4 e7 hR hx
  go_enter Try.func65, Try.ntmps65
  go_wp2_with fail
  go_ret
  exact ⟨rfl, rfl⟩

theorem cut_nat {n : Int} (h : IsW n) {x : Int} (hx : U x) : ∃ (k y : Nat), n = (k : Int) ∧ k ≤ 64 ∧ x = (y : Int) ∧ y < 18446744073709551616 ∧ cut n x = ((y % 2 ^ k : Nat) : Int) ∧ y % 2 ^ k < 18446744073709551616 := by
  obtain ⟨y, rfl⟩ : ∃ y : Nat, x = y := ⟨x.toNat, by have := hx.1; omega⟩
  have hy : y < 18446744073709551616 := by have := hx.2; omega
  have hm : ∀ k, y % 2 ^ k ≤ y := fun k => Nat.mod_le _ _
  rcases h with rfl | rfl | rfl | rfl
  · exact ⟨8, y, rfl, by decide, rfl, hy, by unfold cut; rw [md_8]; rfl, by have := hm 8; omega⟩
  · exact ⟨16, y, rfl, by decide, rfl, hy, by unfold cut; rw [md_16]; rfl, by have := hm 16; omega⟩
  · exact ⟨32, y, rfl, by decide, rfl, hy, by unfold cut; rw [md_32]; rfl, by have := hm 32; omega⟩
  · exact ⟨64, y, rfl, by decide, rfl, hy, by unfold cut; rw [md_64]; rfl, by have := hm 64; omega⟩
theorem pop_cut (k y : Nat) (h : k ≤ 64) : pop 64 (y % 2 ^ k) = pop k y := by
  have e := pop_more k (64 - k) (y % 2 ^ k) (Nat.mod_lt _ (Nat.pow_pos (by decide)))
  rw [show k + (64 - k) = 64 by omega] at e
  rw [e, pop_mod]
/-- word.Bits. -/
theorem bits_any (x n : Int) (w : World) (h : IsW n) (hx : U x) : Calls Try.prog 25 #[.int .u64 x, .int .i64 n] w fun e w' => e = .returned (.tuple #[.int .i64 (pop n.toNat x.toNat : Nat), .int .i64 0]) ∧ w' = w := by
  have LA := fun w => lower_any x n w h hx
  have WY := fun w => width_yes n h w
  obtain ⟨k, y, rfl, hk, rfl, hy, hc, hl⟩ := cut_nat h hx
  rw [hc] at LA
  have OC := fun w => onesCount_any (y % 2 ^ k) hl w
  rw [pop_cut k y hk] at OC
  rw [Int.toNat_natCast, Int.toNat_natCast]
  generalize y % 2 ^ k = z at *
  generalize pop k y = R at *
  clear hc hl hk h hx
  go_enter Try.func25, Try.ntmps25
  go_wp2_with fail
  refine (WY _).mono ?_
  rintro e w1 ⟨rfl, hw⟩
  subst w1
  go_wp2_with fail
  refine (LA _).mono ?_
  rintro e w1 ⟨rfl, hw⟩
  subst w1
  go_wp2_with fail
  refine (OC _).mono ?_
  rintro e w1 ⟨rfl, hw⟩
  subst w1
  go_wp2_with fail
  go_ret2
  exact ⟨rfl, rfl⟩
theorem bits_no (x n : Int) (w : World) (h : NoW n) : Calls Try.prog 25 #[.int .u64 x, .int .i64 n] w fun e w' => e = .returned (.tuple #[.int .i64 0, .int .i64 1]) ∧ w' = w := by
  have WN := fun w => width_no n w h
  clear h
  go_enter Try.func25, Try.ntmps25
  go_wp2_with fail
  refine (WN _).mono ?_
  rintro e w1 ⟨rfl, hw⟩
  subst w1
  go_wp2_with fail
  go_ret2
  exact ⟨rfl, rfl⟩
theorem pop_le : ∀ (f x : Nat), pop f x ≤ f
  | 0, _ => Nat.le_refl _
  | f + 1, x => by have := pop_le f (x / 2); simp only [pop]; omega
set_option maxHeartbeats 1000000 in
/-- The answer's Ones. -/
theorem rones_any (x n : Int) (w : World) (h : IsW n) (hx : U x) : Calls Try.prog 26 #[.int .u64 x, .int .i64 n] w fun e w' => e = .returned (.tuple #[.int .i64 (pop n.toNat x.toNat : Nat), .int .i64 0]) ∧ Below w.heap.size w w' := by
  have RW := fun w => rwidth_yes n h w
  obtain ⟨k, y, rfl, hk, rfl, hy, -, -⟩ := cut_nat h hx
  rw [Int.toNat_natCast, Int.toNat_natCast]
  generalize hR : pop k y = R
  have HR := hide hR
  clear hR h hx
  go_enter Try.func26, Try.ntmps26
  go_wp2_with fail
  refine (RW _).mono ?_
  rintro e w1 ⟨rfl, k1⟩
  have K1 := hide k1
  clear k1
  go_wp2_with fail
  go_loopg [0, 6, 7] k (fun g a b c wr => ∃ (j z : Nat), j ≤ k ∧ g = k - j ∧ z < 18446744073709551616 ∧ a = .int .u64 (z : Int) ∧ (∃ r : Nat, b = .int .i64 (r : Int) ∧ r ≤ j ∧ r + pop (k - j) z = R) ∧ c = .int .i64 (j : Int) ∧ wr = w1)
  case atStart => exact ⟨0, y, Nat.zero_le _, rfl, hy, rfl, ⟨0, rfl, Nat.le_refl _, by rw [Nat.zero_add]; exact unhide HR⟩, rfl, rfl⟩
  case round =>
    obtain ⟨j, z, hj, hg, hz, rfl, ⟨r, rfl, hr, hs⟩, rfl, rfl⟩ := hrel
    by_cases hlt : j < k
    · have HS := hide hs
      clear hs
      have z0 : (0 : Int) ≤ (z : Int) := by omega
      have z1 : (z : Int) ≤ 18446744073709551615 := by omega
      have m0 : (0 : Int) ≤ (z : Int) % 2 := by omega
      have m1 : (z : Int) % 2 ≤ 1 := by omega
      go_wp2_with fail
      go_roundg (k - (j + 1))
      case measure => omega
      case rel =>
        refine ⟨j + 1, z / 2, by omega, rfl, by omega, by go_num, ⟨r + z % 2, by go_num, by omega, ?_⟩, by go_num, rfl⟩
        have a := unhide HS
        rw [show k - j = (k - (j + 1)) + 1 by omega] at a
        simp only [pop] at a
        omega
    · have e : k - j = 0 := by omega
      rw [e] at hs
      have hs2 : r = R := by simpa [pop] using hs
      clear hs
      subst hs2
      go_wp2_with fail
      go_ret2
      exact ⟨rfl, unhide K1⟩
theorem rones_no (x n : Int) (w : World) (h : NoW n) : Calls Try.prog 26 #[.int .u64 x, .int .i64 n] w fun e w' => e = .returned (.tuple #[.int .i64 0, .int .i64 1]) ∧ Below w.heap.size w w' := by
  have RW := fun w => rwidth_no n w h
  clear h
  go_enter Try.func26, Try.ntmps26
  go_wp2_with fail
  refine (RW _).mono ?_
  rintro e w1 ⟨rfl, k1⟩
  have K1 := hide k1
  clear k1
  go_wp2_with fail
  go_ret2
  exact ⟨rfl, unhide K1⟩
end Go.Proofs.Ythoemilflefniaa
