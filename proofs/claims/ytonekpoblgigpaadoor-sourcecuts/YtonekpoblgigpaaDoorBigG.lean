/-
  The document's answer, chapter 1: Width, Two and Fit.
-/
import Derived.Test.YtonekpoblgigpaaDoorBigF
import Derived.Test.YtonekpoblgigpaaDoorBigB
namespace Go.Proofs.YtonekpoblgigpaaDoor
open Go.RowKit
set_option linter.unusedSimpArgs false
set_option linter.unusedVariables false

theorem rwidth_no (n : Int) (w : World) (h : NoW n) :
    Calls Tryd.prog 41 #[.int .i64 n] w fun e w' => e = .returned (.bool false) ∧ Below w.heap.size w w' := by
  obtain ⟨h1, h2, h3, h4⟩ := h
  have KB := hide (below_a w (.cells #[.int .i64 8, .int .i64 16, .int .i64 32, .int .i64 64] 3))
  have BX := hide (Box.new w #[.int .i64 8, .int .i64 16, .int .i64 32, .int .i64 64] 3)
  go_enter Tryd.func41, Tryd.ntmps41
  go_wp2_with fail
  generalize hW : w.alloc (.cells #[.int .i64 8, .int .i64 16, .int .i64 32, .int .i64 64] 3) = W at *
  clear hW
  go_loopg [7] 4 (fun g t wr => ∃ i : Nat, i ≤ 4 ∧ g = 4 - i ∧ t = .int .i64 i ∧ wr = W)
  case atStart => exact ⟨0, by decide, rfl, rfl, rfl⟩
  case round =>
    obtain ⟨i, hi, hg, rfl, rfl⟩ := hrel
    obtain ⟨b1, b2, _⟩ := unhide BX
    have c0 := b2 0 _ rfl
    have c1 := b2 1 _ rfl
    have c2 := b2 2 _ rfl
    have c3 := b2 3 _ rfl
    clear b2
    have hi4 : i = 0 ∨ i = 1 ∨ i = 2 ∨ i = 3 ∨ i = 4 := by omega
    rcases hi4 with rfl | rfl | rfl | rfl | rfl
    · go_wp2_with fail
      go_roundg 3
      case measure => omega
      case rel => exact ⟨1, by omega, rfl, rfl, rfl⟩
    · go_wp2_with fail
      go_roundg 2
      case measure => omega
      case rel => exact ⟨2, by omega, rfl, rfl, rfl⟩
    · go_wp2_with fail
      go_roundg 1
      case measure => omega
      case rel => exact ⟨3, by omega, rfl, rfl, rfl⟩
    · go_wp2_with fail
      go_roundg 0
      case measure => omega
      case rel => exact ⟨4, by omega, rfl, rfl, rfl⟩
    · go_wp2_with fail
      go_ret
      exact ⟨rfl, unhide KB⟩
theorem rwidth_yes (n : Int) (h : IsW n) (w : World) :
    Calls Tryd.prog 41 #[.int .i64 n] w fun e w' => e = .returned (.bool true) ∧ Below w.heap.size w w' := by
  have KB := hide (below_a w (.cells #[.int .i64 8, .int .i64 16, .int .i64 32, .int .i64 64] 3))
  have BX := hide (Box.new w #[.int .i64 8, .int .i64 16, .int .i64 32, .int .i64 64] 3)
  have HN := hide (show ∃ k : Nat, k ≤ 3 ∧ n = [8, 16, 32, 64].getD k 0 by
    rcases h with rfl | rfl | rfl | rfl
    · exact ⟨0, by decide, rfl⟩
    · exact ⟨1, by decide, rfl⟩
    · exact ⟨2, by decide, rfl⟩
    · exact ⟨3, by decide, rfl⟩)
  clear h
  obtain ⟨k, hk, rfl⟩ := unhide HN
  clear HN
  go_enter Tryd.func41, Tryd.ntmps41
  go_wp2_with fail
  generalize hW : w.alloc (.cells #[.int .i64 8, .int .i64 16, .int .i64 32, .int .i64 64] 3) = W at *
  clear hW
  go_loopg [7] 4 (fun g t wr => ∃ i : Nat, i ≤ k ∧ g = 4 - i ∧ t = .int .i64 i ∧ wr = W)
  case atStart => exact ⟨0, Nat.zero_le _, rfl, rfl, rfl⟩
  case round =>
    obtain ⟨i, hi, hg, rfl, rfl⟩ := hrel
    obtain ⟨b1, b2, _⟩ := unhide BX
    have c0 := b2 0 _ rfl
    have c1 := b2 1 _ rfl
    have c2 := b2 2 _ rfl
    have c3 := b2 3 _ rfl
    clear b2
    have hk4 : k = 0 ∨ k = 1 ∨ k = 2 ∨ k = 3 := by omega
    have hi4 : i = 0 ∨ i = 1 ∨ i = 2 ∨ i = 3 := by omega
    rcases hk4 with rfl | rfl | rfl | rfl <;> rcases hi4 with rfl | rfl | rfl | rfl
    all_goals first
      | (exfalso; omega)
      | (go_wp2_with fail; go_ret; exact ⟨rfl, unhide KB⟩)
      | (go_wp2_with fail; go_roundg 3; (case measure => omega); (case rel => exact ⟨1, by omega, rfl, rfl, rfl⟩))
      | (go_wp2_with fail; go_roundg 2; (case measure => omega); (case rel => exact ⟨2, by omega, rfl, rfl, rfl⟩))
      | (go_wp2_with fail; go_roundg 1; (case measure => omega); (case rel => exact ⟨3, by omega, rfl, rfl, rfl⟩))
theorem p64 {k : Nat} (h : k ≤ 64) : (0 : Int) < 2 ^ k ∧ (2 : Int) ^ k ≤ 18446744073709551616 := by
  refine ⟨Int.pow_pos (by decide), ?_⟩
  have e : (2 : Int) ^ 64 = 2 ^ k * 2 ^ (64 - k) := by rw [← Int.pow_add]; congr 1; omega
  have h1 : (0 : Int) < 2 ^ k := Int.pow_pos (by decide)
  have h2 : (1 : Int) ≤ 2 ^ (64 - k) := Int.pow_pos (by decide)
  have h3 := Int.mul_le_mul_of_nonneg_left h2 (Int.le_of_lt h1)
  have h4 : (2 : Int) ^ 64 = 18446744073709551616 := by decide
  omega
theorem big6 : (18446744073709551616 : Int) < 4294967296 ^ 6 ∧ (18446744073709551616 : Int) < 4294967296 ^ 8 := by decide
theorem one_pow {k : Nat} (h : (2 : Int) ^ k ≤ 18446744073709551616) : (((1 : Int).natAbs : Nat) : Int) * 2 ^ k < 4294967296 ^ 8 := by
  have e : (((1 : Int).natAbs : Nat) : Int) * 2 ^ k = 2 ^ k := Int.one_mul _
  rw [e]
  exact Int.lt_of_le_of_lt h big6.2
theorem pow_abs {k : Nat} (h : (2 : Int) ^ k ≤ 18446744073709551616) (h0 : (0 : Int) < 2 ^ k) : ((2 : Int) ^ k).natAbs < 4294967296 ^ 6 ∧ ((((2 : Int) ^ k).natAbs : Nat) : Int) = 2 ^ k := by
  have e : ((((2 : Int) ^ k).natAbs : Nat) : Int) = 2 ^ k := Int.natAbs_of_nonneg (Int.le_of_lt h0)
  refine ⟨?_, e⟩
  omega
theorem two_any (k : Nat) (w : World) (hk : k ≤ 64) :
    Calls Tryd.prog 38 #[.int .i64 (k : Int)] w fun e w' => e = .returned (.pointer (some ⟨w.heap.size, 0, none⟩)) ∧ Below w.heap.size w w' ∧ Big w' w.heap.size (2 ^ k) := by
  have HN := hide (Big.new w)
  have KN := hide (below_a w (.cells #[.bool false, .slice none 0 0] 71))
  obtain ⟨p1, p2⟩ := p64 hk
  have hs : (w.alloc (.cells #[.bool false, .slice none 0 0] 71)).heap.size = w.heap.size + 1 := by simp
  have Z1 := hide (one_pow p2)
  go_enter Tryd.func38, Tryd.ntmps38
  go_wp2_with fail
  generalize w.alloc (.cells #[.bool false, .slice none 0 0] 71) = W at *
  refine (newI_any 1 W ⟨by decide, by decide⟩).mono ?_
  rintro e w1 ⟨rfl, k1, b1⟩
  have K1 := hide k1
  rw [hs] at b1
  have B1 := hide b1
  clear k1 b1
  go_wp2_with fail
  refine (lsh_any w.heap.size (w.heap.size + 1) k 1 w1 ((unhide HN).int.step (unhide K1)) (unhide B1) (by omega) (by omega) (unhide Z1)).mono ?_
  rintro e w2 ⟨rfl, k2, b2⟩
  rw [Int.one_mul] at b2
  have K2 := hide k2
  have B2 := hide b2
  clear k2 b2
  go_wp2_with fail
  go_ret
  exact ⟨rfl, (unhide KN).trans (((unhide K1).mono (by omega)).trans ((unhide K2).below (Nat.le_refl _) (by have := (unhide K1).size; omega))), unhide B2⟩
set_option maxRecDepth 100000 in
theorem fit_any (a : Nat) (x : Int) (k : Nat) (w : World) (ha : Big w a x) (hk : k ≤ 64) (hx : x.natAbs < 4294967296 ^ 6) (hd : DivOk x.natAbs (2 ^ k)) :
    Calls Tryd.prog 37 #[.pointer (some ⟨a, 0, none⟩), .int .i64 (k : Int)] w fun e w' => e = .returned (.int .u64 (x % 2 ^ k)) ∧ Below w.heap.size w w' := by
  have HN := hide (Big.new w)
  have KN := hide (below_a w (.cells #[.bool false, .slice none 0 0] 71))
  obtain ⟨p1, p2⟩ := p64 hk
  have q1 := Int.emod_nonneg x (show (2 : Int) ^ k ≠ 0 by omega)
  have q2 := Int.emod_lt_of_pos x p1
  have HA := hide ha
  obtain ⟨p3, p4⟩ := pow_abs p2 p1
  have HD := hide (show DivOk x.natAbs ((2 : Int) ^ k).natAbs by rw [p4]; exact hd)
  have P3 := hide p3
  clear p3 p4
  have hs : (w.alloc (.cells #[.bool false, .slice none 0 0] 71)).heap.size = w.heap.size + 1 := by simp
  clear ha hd
  go_enter Tryd.func37, Tryd.ntmps37
  go_wp2_with fail
  generalize w.alloc (.cells #[.bool false, .slice none 0 0] 71) = W at *
  refine (two_any k W hk).mono ?_
  rintro e w1 ⟨rfl, k1, b1⟩
  have K1 := hide k1
  rw [hs] at b1
  have B1 := hide b1
  clear k1 b1
  go_wp2_with fail
  refine (mod_any w.heap.size a (w.heap.size + 1) x (2 ^ k) w1 ((unhide HN).int.step (unhide K1)) (((unhide HA).step (unhide KN)).step (unhide K1)) (unhide B1) (unhide HD) hx (unhide P3) p1).mono ?_
  rintro e w2 ⟨rfl, k2, b2⟩
  have K2 := hide k2
  have B2 := hide b2
  clear k2 b2
  generalize hX : x % 2 ^ k = X at *
  have HX := hide hX
  clear hX
  have UA := uint_any w.heap.size X w2 (unhide B2) (by omega)
  rw [show ((X.natAbs : Nat) : Int) = X by omega] at UA
  have HU := hide UA
  clear UA
  go_wp2_with fail
  refine (unhide HU).mono ?_
  rintro e w3 ⟨rfl, rfl⟩
  go_wp2_with fail
  go_ret
  exact ⟨congrArg (fun z => Ending.returned (Value.int .u64 z)) (unhide HX).symm, (unhide KN).trans (((unhide K1).mono (by omega)).trans ((unhide K2).below (Nat.le_refl _) (by have := (unhide K1).size; omega)))⟩
end Go.Proofs.YtonekpoblgigpaaDoor
