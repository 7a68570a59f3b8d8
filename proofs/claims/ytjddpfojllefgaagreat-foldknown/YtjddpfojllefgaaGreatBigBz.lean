/-
  Lsh and Mul.
-/
import Derived.Test.YtjddpfojllefgaaGreatBigAz
import Derived.Test.YtjddpfojllefgaaGreatBigF
namespace Go.Proofs.YtjddpfojllefgaaGreat
open Go.RowKit
set_option linter.unusedSimpArgs false
set_option linter.unusedVariables false

theorem mul_sign {z : Int} (k : Nat) : (z * 2 ^ k).natAbs = z.natAbs * 2 ^ k := by
  rw [Int.natAbs_mul, Int.natAbs_pow]; rfl
theorem sg_mul2 (z : Int) (k : Nat) : sg (decide (z < 0)) ((z.natAbs : Int) * 2 ^ k) = z * 2 ^ k := by
  have h := sg_abs z
  unfold sg at *
  split
  · rename_i hh; rw [if_pos hh] at h; rw [← Int.neg_mul, h]
  · rename_i hh; rw [if_neg hh] at h; rw [h]
theorem sg_mulp (a b : Int) : sg (decide (a < 0) != decide (b < 0)) ((a.natAbs : Int) * b.natAbs) = a * b := by
  have h1 := sg_abs a
  have h2 := sg_abs b
  unfold sg at *
  by_cases ha : a < 0 <;> by_cases hb : b < 0 <;> simp [ha, hb] at h1 h2 ⊢
  · rw [show (a.natAbs : Int) = -a by omega, show (b.natAbs : Int) = -b by omega]; grind
  · rw [show (a.natAbs : Int) = -a by omega, show (b.natAbs : Int) = b by omega]; grind
  · rw [show (a.natAbs : Int) = a by omega, show (b.natAbs : Int) = -b by omega]; grind
  · rw [show (a.natAbs : Int) = a by omega, show (b.natAbs : Int) = b by omega]
set_option maxHeartbeats 1000000 in
theorem lsh_any (p q k : Nat) (z : Int) (w : World) (hp : IntAt w p) (hq : Big w q z) (hne : q ≠ p) (hk : k ≤ 1000) (hz : (z.natAbs : Int) * 2 ^ k < 4294967296 ^ 8) :
    Calls Tryz.prog 49 #[.pointer (some ⟨p, 0, none⟩), .pointer (some ⟨q, 0, none⟩), .int .u64 (k : Int)] w fun e w' => e = .returned (.pointer (some ⟨p, 0, none⟩)) ∧ Tn p w w' ∧ Big w' p (z * 2 ^ k) := by
  obtain ⟨v, c0, c1, hD, hlt⟩ := hq.cells
  have HP := hide hp
  have HQ := hide hq
  have HD := hide hD
  have hz1 : (z.natAbs : Int) < 4294967296 ^ 8 := by
    have h1 : (1 : Int) ≤ 2 ^ k := Int.pow_pos (by decide)
    have h2 := Int.mul_le_mul_of_nonneg_left h1 (show (0 : Int) ≤ z.natAbs by omega)
    omega
  have HZ := hide hz
  clear hp hq hD hz
  go_enter Tryz.func49, Tryz.ntmps49
  go_wp2_with fail
  refine reg_start (fun W => W.cell? ⟨q, 0, none⟩ = some (.bool (decide (z < 0))) ∧ W.cell? ⟨q, 1, none⟩ = some v) (by kernel_rfl) ?_
  refine reg_seg 0 10 3 (by kernel_rfl) (by decide) (by kernel_rfl) (by kernel_rfl) (fun _ _ _ _ _ h => h) ?_
  simp only [List.take_succ_cons, List.take_zero, List.drop_succ_cons, List.drop_zero]
  repeat (refine wpSteady_step (fun K hK => ?_); go_simp; first | (refine steady_of ?_ (fun W hW => ?_) (hK _ ?_); rotate_left; (obtain ⟨h1, h2⟩ := hW; go_simp; first | done | rfl); clear hK K) | (refine hK _ ?_; clear hK K))
  refine wpSteady_nil ?_
  refine reg_one 10 2 (by kernel_rfl) (by kernel_rfl) ⟨c0, c1⟩ ?_
  simp only [List.take_succ_cons, List.take_zero, List.drop_succ_cons, List.drop_zero]
  go_wp2_with fail
  refine (left_any v z.natAbs k w.drew (unhide HD) hz1 hk).mono ?_
  rintro e w1 ⟨k1, v1, rfl, D1⟩
  have K1 := hide (of_drew k1)
  have HD1 := hide D1
  have c01 := cell_keep (unhide K1) hlt c0
  have c11 := cell_keep (unhide K1) hlt c1
  have hp1 := hide ((unhide HP).step (unhide K1))
  clear k1 D1
  go_wp2_with fail
  first | refine next_nil ?_ | refine next_go ?_
  refine reg_one 11 1 (by kernel_rfl) (by kernel_rfl) ⟨c01, c11⟩ ?_
  simp only [List.take_succ_cons, List.take_zero, List.drop_succ_cons, List.drop_zero]
  go_wp2_with fail
  refine (give_any p (decide (z < 0)) v1 _ w1 (unhide hp1) (unhide HD1) (unhide HZ)).mono ?_
  rintro e w2 ⟨rfl, k2, b2⟩
  rw [sg_mul2] at b2
  have K2 := hide k2
  have B2 := hide b2
  have hlt1 : q < w1.heap.size := Nat.lt_of_lt_of_le hlt (unhide K1).size
  have c02 := (World.cell?_of_block (w := w1) (a := ⟨q, 0, none⟩) ((unhide K2).block q hlt1 hne)).trans c01
  have c12 := (World.cell?_of_block (w := w1) (a := ⟨q, 1, none⟩) ((unhide K2).block q hlt1 hne)).trans c11
  clear k2 b2
  go_wp2_with fail
  first | refine next_nil ?_ | refine next_go ?_
  refine reg_one 12 0 (by kernel_rfl) (by kernel_rfl) ⟨c02, c12⟩ ?_
  simp only [List.take_succ_cons, List.take_zero, List.drop_succ_cons, List.drop_zero]
  go_wp2_with fail
  first | refine next_nil ?_ | refine next_go ?_
  refine reg_end (by kernel_rfl) ⟨c02, c12⟩ ?_
  go_wp2_with fail
  go_ret
  exact ⟨rfl, (Tn.of (unhide K1)).trans (unhide K2), unhide B2⟩
set_option maxHeartbeats 1000000 in
/-- A number that is moved up where it lies. -/
theorem lsh_own (p k : Nat) (z : Int) (w : World) (hq : Big w p z) (h0 : 0 ≤ z) (hk : k ≤ 1000) (hz : z * 2 ^ k < 4294967296 ^ 8) :
    Calls Tryz.prog 49 #[.pointer (some ⟨p, 0, none⟩), .pointer (some ⟨p, 0, none⟩), .int .u64 (k : Int)] w fun e w' => e = .returned (.pointer (some ⟨p, 0, none⟩)) ∧ Tn p w w' ∧ Big w' p (z * 2 ^ k) := by
  obtain ⟨v, c0, c1, hD, hlt⟩ := hq.cells
  have hn : (z.natAbs : Int) = z := by omega
  rw [hn] at hD
  have hb : decide (z < 0) = false := decide_eq_false (by omega)
  rw [hb] at c0
  have HP := hide hq.int
  have HD := hide hD
  have hz1 : z < 4294967296 ^ 8 := by
    have h1 : (1 : Int) ≤ 2 ^ k := Int.pow_pos (by decide)
    have h2 := Int.mul_le_mul_of_nonneg_left h1 h0
    omega
  have HZ := hide hz
  clear hq hD hz hn hb
  go_enter Tryz.func49, Tryz.ntmps49
  go_wp2_with fail
  refine reg_start (fun W => W.cell? ⟨p, 0, none⟩ = some (.bool false)) (by kernel_rfl) ?_
  refine reg_seg 0 8 5 (by kernel_rfl) (by decide) (by kernel_rfl) (by kernel_rfl) (fun _ _ _ _ _ h => h) ?_
  simp only [List.take_succ_cons, List.take_zero, List.drop_succ_cons, List.drop_zero]
  repeat (refine wpSteady_step (fun K hK => ?_); go_simp; first | (refine steady_of ?_ (fun W hW => ?_) (hK _ ?_); rotate_left; (obtain h1 := hW; go_simp; first | done | rfl); clear hK K) | (refine hK _ ?_; clear hK K))
  refine wpSteady_nil ?_
  refine reg_seg 9 1 4 (by kernel_rfl) (by decide) (by kernel_rfl) (by kernel_rfl) (fun _ _ _ _ _ h => h) ?_
  simp only [List.take_succ_cons, List.take_zero, List.drop_succ_cons, List.drop_zero]
  repeat (refine wpSteady_step (fun K hK => ?_); go_simp; first | (refine steady_of ?_ (fun W hW => ?_) (hK _ ?_); rotate_left; (obtain h1 := hW; go_simp; first | done | rfl); clear hK K) | (refine hK _ ?_; clear hK K))
  refine wpSteady_nil ?_
  refine reg_one 8 3 (by kernel_rfl) (by kernel_rfl) c0 ?_
  simp only [List.take_succ_cons, List.take_zero, List.drop_succ_cons, List.drop_zero]
  go_wp2_with fail
  first | refine next_nil ?_ | refine next_go ?_
  refine reg_one 10 2 (by kernel_rfl) (by kernel_rfl) c0 ?_
  simp only [List.take_succ_cons, List.take_zero, List.drop_succ_cons, List.drop_zero]
  go_wp2_with fail
  refine (left_any v z k w.drew (unhide HD) hz1 hk).mono ?_
  rintro e w1 ⟨k1, v1, rfl, D1⟩
  have K1 := hide (of_drew k1)
  have HD1 := hide D1
  have c01 := cell_keep (unhide K1) hlt c0
  have hp1 := hide ((unhide HP).step (unhide K1))
  clear k1 D1
  go_wp2_with fail
  first | refine next_nil ?_ | refine next_go ?_
  refine reg_one 11 1 (by kernel_rfl) (by kernel_rfl) c01 ?_
  simp only [List.take_succ_cons, List.take_zero, List.drop_succ_cons, List.drop_zero]
  go_wp2_with fail
  refine (give_any p false v1 _ w1 (unhide hp1) (unhide HD1) (unhide HZ)).mono ?_
  rintro e w2 ⟨rfl, k2, b2⟩
  have hs : sg false (z * 2 ^ k) = z * 2 ^ k := rfl
  rw [hs] at b2
  have K2 := hide k2
  obtain ⟨v2, c02, _, _, _⟩ := b2.cells
  have hb2 : decide (z * 2 ^ k < 0) = false := decide_eq_false (by have := Int.mul_nonneg h0 (Int.le_of_lt (Int.pow_pos (n := 2) (m := k) (by decide))); omega)
  rw [hb2] at c02
  have B2 := hide b2
  clear k2 b2 hb2 hs
  go_wp2_with fail
  first | refine next_nil ?_ | refine next_go ?_
  refine reg_one 12 0 (by kernel_rfl) (by kernel_rfl) c02 ?_
  simp only [List.take_succ_cons, List.take_zero, List.drop_succ_cons, List.drop_zero]
  go_wp2_with fail
  first | refine next_nil ?_ | refine next_go ?_
  refine reg_end (by kernel_rfl) c02 ?_
  go_wp2_with fail
  go_ret
  exact ⟨rfl, (Tn.of (unhide K1)).trans (unhide K2), unhide B2⟩
end Go.Proofs.YtjddpfojllefgaaGreat

/-
  The document's answer, chapter 1: Width, Two and Fit.
-/
namespace Go.Proofs.YtjddpfojllefgaaGreat
open Go.RowKit
set_option linter.unusedSimpArgs false
set_option linter.unusedVariables false

theorem rwidth_no (n : Int) (w : World) (h : NoW n) :
    Calls Tryz.prog 22 #[.int .i64 n] w fun e w' => e = .returned (.bool false) ∧ Below w.heap.size w w' := by
  obtain ⟨h1, h2, h3, h4⟩ := h
  have KB := hide (below_a w (.cells #[.int .i64 8, .int .i64 16, .int .i64 32, .int .i64 64] 3))
  have BX := hide (Box.new w #[.int .i64 8, .int .i64 16, .int .i64 32, .int .i64 64] 3)
  go_enter Tryz.func22, Tryz.ntmps22
  go_wp2_with fail
  generalize hW : w.alloc (.cells #[.int .i64 8, .int .i64 16, .int .i64 32, .int .i64 64] 3) = W at *
  clear hW
  go_loopg [7] 4 (fun g t wr => ∃ i : Nat, i ≤ 4 ∧ g = 4 - i ∧ t = .int .i64 i ∧ wr = W)
  case atStart => exact ⟨0, by decide, rfl, rfl, rfl⟩
  case round =>
    obtain ⟨i, hi, hg, rfl, rfl⟩ := hrel
    obtain ⟨b1, b2, _⟩ := unhide BX
    have c0 := b2 0 _ rfl
    have c1 := b2 1 _ rfl
    have c2 := b2 2 _ rfl
    have c3 := b2 3 _ rfl
    clear b2
    have hi4 : i = 0 ∨ i = 1 ∨ i = 2 ∨ i = 3 ∨ i = 4 := by omega
    rcases hi4 with rfl | rfl | rfl | rfl | rfl
    · go_wp2_with fail
      go_roundg 3
      case measure => omega
      case rel => exact ⟨1, by omega, rfl, rfl, rfl⟩
    · go_wp2_with fail
      go_roundg 2
      case measure => omega
      case rel => exact ⟨2, by omega, rfl, rfl, rfl⟩
    · go_wp2_with fail
      go_roundg 1
      case measure => omega
      case rel => exact ⟨3, by omega, rfl, rfl, rfl⟩
    · go_wp2_with fail
      go_roundg 0
      case measure => omega
      case rel => exact ⟨4, by omega, rfl, rfl, rfl⟩
    · go_wp2_with fail
      go_ret
      exact ⟨rfl, unhide KB⟩
theorem rwidth_yes (n : Int) (h : IsW n) (w : World) :
    Calls Tryz.prog 22 #[.int .i64 n] w fun e w' => e = .returned (.bool true) ∧ Below w.heap.size w w' := by
  have KB := hide (below_a w (.cells #[.int .i64 8, .int .i64 16, .int .i64 32, .int .i64 64] 3))
  have BX := hide (Box.new w #[.int .i64 8, .int .i64 16, .int .i64 32, .int .i64 64] 3)
  have HN := hide (show ∃ k : Nat, k ≤ 3 ∧ n = [8, 16, 32, 64].getD k 0 by
    rcases h with rfl | rfl | rfl | rfl
    · exact ⟨0, by decide, rfl⟩
    · exact ⟨1, by decide, rfl⟩
    · exact ⟨2, by decide, rfl⟩
    · exact ⟨3, by decide, rfl⟩)
  clear h
  obtain ⟨k, hk, rfl⟩ := unhide HN
  clear HN
  go_enter Tryz.func22, Tryz.ntmps22
  go_wp2_with fail
  generalize hW : w.alloc (.cells #[.int .i64 8, .int .i64 16, .int .i64 32, .int .i64 64] 3) = W at *
  clear hW
  go_loopg [7] 4 (fun g t wr => ∃ i : Nat, i ≤ k ∧ g = 4 - i ∧ t = .int .i64 i ∧ wr = W)
  case atStart => exact ⟨0, Nat.zero_le _, rfl, rfl, rfl⟩
  case round =>
    obtain ⟨i, hi, hg, rfl, rfl⟩ := hrel
    obtain ⟨b1, b2, _⟩ := unhide BX
    have c0 := b2 0 _ rfl
    have c1 := b2 1 _ rfl
    have c2 := b2 2 _ rfl
    have c3 := b2 3 _ rfl
    clear b2
    have hk4 : k = 0 ∨ k = 1 ∨ k = 2 ∨ k = 3 := by omega
    have hi4 : i = 0 ∨ i = 1 ∨ i = 2 ∨ i = 3 := by omega
    rcases hk4 with rfl | rfl | rfl | rfl <;> rcases hi4 with rfl | rfl | rfl | rfl
    all_goals first
      | (exfalso; omega)
      | (go_wp2_with fail; go_ret; exact ⟨rfl, unhide KB⟩)
      | (go_wp2_with fail; go_roundg 3; (case measure => omega); (case rel => exact ⟨1, by omega, rfl, rfl, rfl⟩))
      | (go_wp2_with fail; go_roundg 2; (case measure => omega); (case rel => exact ⟨2, by omega, rfl, rfl, rfl⟩))
      | (go_wp2_with fail; go_roundg 1; (case measure => omega); (case rel => exact ⟨3, by omega, rfl, rfl, rfl⟩))
theorem p64 {k : Nat} (h : k ≤ 64) : (0 : Int) < 2 ^ k ∧ (2 : Int) ^ k ≤ 18446744073709551616 := by
  refine ⟨Int.pow_pos (by decide), ?_⟩
  have e : (2 : Int) ^ 64 = 2 ^ k * 2 ^ (64 - k) := by rw [← Int.pow_add]; congr 1; omega
  have h1 : (0 : Int) < 2 ^ k := Int.pow_pos (by decide)
  have h2 : (1 : Int) ≤ 2 ^ (64 - k) := Int.pow_pos (by decide)
  have h3 := Int.mul_le_mul_of_nonneg_left h2 (Int.le_of_lt h1)
  have h4 : (2 : Int) ^ 64 = 18446744073709551616 := by decide
  omega
theorem big6 : (18446744073709551616 : Int) < 4294967296 ^ 6 ∧ (18446744073709551616 : Int) < 4294967296 ^ 8 := by decide
theorem one_pow {k : Nat} (h : (2 : Int) ^ k ≤ 18446744073709551616) : (((1 : Int).natAbs : Nat) : Int) * 2 ^ k < 4294967296 ^ 8 := by
  have e : (((1 : Int).natAbs : Nat) : Int) * 2 ^ k = 2 ^ k := Int.one_mul _
  rw [e]
  exact Int.lt_of_le_of_lt h big6.2
theorem pow_abs {k : Nat} (h : (2 : Int) ^ k ≤ 18446744073709551616) (h0 : (0 : Int) < 2 ^ k) : ((2 : Int) ^ k).natAbs < 4294967296 ^ 6 ∧ ((((2 : Int) ^ k).natAbs : Nat) : Int) = 2 ^ k := by
  have e : ((((2 : Int) ^ k).natAbs : Nat) : Int) = 2 ^ k := Int.natAbs_of_nonneg (Int.le_of_lt h0)
  refine ⟨?_, e⟩
  omega
theorem two_any (k : Nat) (w : World) (hk : k ≤ 64) :
    Calls Tryz.prog 31 #[.int .i64 (k : Int)] w fun e w' => e = .returned (.pointer (some ⟨w.heap.size, 0, none⟩)) ∧ Below w.heap.size w w' ∧ Big w' w.heap.size (2 ^ k) := by
  have HN := hide (Big.new w)
  have KN := hide (below_a w (.cells #[.bool false, .slice none 0 0] 69))
  obtain ⟨p1, p2⟩ := p64 hk
  have hs : (w.alloc (.cells #[.bool false, .slice none 0 0] 69)).heap.size = w.heap.size + 1 := by simp
  have Z1 := hide (one_pow p2)
  go_enter Tryz.func31, Tryz.ntmps31
  go_wp2_with fail
  generalize w.alloc (.cells #[.bool false, .slice none 0 0] 69) = W at *
  refine (newI_any 1 W ⟨by decide, by decide⟩).mono ?_
  rintro e w1 ⟨rfl, k1, b1⟩
  have K1 := hide k1
  rw [hs] at b1
  have B1 := hide b1
  clear k1 b1
  go_wp2_with fail
  refine (lsh_any w.heap.size (w.heap.size + 1) k 1 w1 ((unhide HN).int.step (unhide K1)) (unhide B1) (by omega) (by omega) (unhide Z1)).mono ?_
  rintro e w2 ⟨rfl, k2, b2⟩
  rw [Int.one_mul] at b2
  have K2 := hide k2
  have B2 := hide b2
  clear k2 b2
  go_wp2_with fail
  go_ret
  exact ⟨rfl, (unhide KN).trans (((unhide K1).mono (by omega)).trans ((unhide K2).below (Nat.le_refl _) (by have := (unhide K1).size; omega))), unhide B2⟩
set_option maxRecDepth 100000 in
theorem fit_any (a : Nat) (x : Int) (k : Nat) (w : World) (ha : Big w a x) (hk : k ≤ 64) (hx : x.natAbs < 4294967296 ^ 6) (hd : DivOk x.natAbs (2 ^ k)) :
    Calls Tryz.prog 30 #[.pointer (some ⟨a, 0, none⟩), .int .i64 (k : Int)] w fun e w' => e = .returned (.int .u64 (x % 2 ^ k)) ∧ Below w.heap.size w w' := by
  have HN := hide (Big.new w)
  have KN := hide (below_a w (.cells #[.bool false, .slice none 0 0] 69))
  obtain ⟨p1, p2⟩ := p64 hk
  have q1 := Int.emod_nonneg x (show (2 : Int) ^ k ≠ 0 by omega)
  have q2 := Int.emod_lt_of_pos x p1
  have HA := hide ha
  obtain ⟨p3, p4⟩ := pow_abs p2 p1
  have HD := hide (show DivOk x.natAbs ((2 : Int) ^ k).natAbs by rw [p4]; exact hd)
  have P3 := hide p3
  clear p3 p4
  have hs : (w.alloc (.cells #[.bool false, .slice none 0 0] 69)).heap.size = w.heap.size + 1 := by simp
  clear ha hd
  go_enter Tryz.func30, Tryz.ntmps30
  go_wp2_with fail
  generalize w.alloc (.cells #[.bool false, .slice none 0 0] 69) = W at *
  refine (two_any k W hk).mono ?_
  rintro e w1 ⟨rfl, k1, b1⟩
  have K1 := hide k1
  rw [hs] at b1
  have B1 := hide b1
  clear k1 b1
  go_wp2_with fail
  refine (mod_any w.heap.size a (w.heap.size + 1) x (2 ^ k) w1 ((unhide HN).int.step (unhide K1)) (((unhide HA).step (unhide KN)).step (unhide K1)) (unhide B1) (unhide HD) hx (unhide P3) p1).mono ?_
  rintro e w2 ⟨rfl, k2, b2⟩
  have K2 := hide k2
  have B2 := hide b2
  clear k2 b2
  generalize hX : x % 2 ^ k = X at *
  have HX := hide hX
  clear hX
  have UA := uint_any w.heap.size X w2 (unhide B2) (by omega)
  rw [show ((X.natAbs : Nat) : Int) = X by omega] at UA
  have HU := hide UA
  clear UA
  go_wp2_with fail
  refine (unhide HU).mono ?_
  rintro e w3 ⟨rfl, rfl⟩
  go_wp2_with fail
  go_ret
  exact ⟨congrArg (fun z => Ending.returned (Value.int .u64 z)) (unhide HX).symm, (unhide KN).trans (((unhide K1).mono (by omega)).trans ((unhide K2).below (Nat.le_refl _) (by have := (unhide K1).size; omega)))⟩
end Go.Proofs.YtjddpfojllefgaaGreat
