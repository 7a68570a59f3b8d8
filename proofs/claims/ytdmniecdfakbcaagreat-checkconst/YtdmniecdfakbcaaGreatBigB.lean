/-
  Lsh and Mul.
-/
import Derived.Test.YtdmniecdfakbcaaGreatBig8z
namespace Go.Proofs.YtdmniecdfakbcaaGreat
open Go.RowKit
set_option linter.unusedSimpArgs false
set_option linter.unusedVariables false

theorem mul_sign {z : Int} (k : Nat) : (z * 2 ^ k).natAbs = z.natAbs * 2 ^ k := by
  rw [Int.natAbs_mul, Int.natAbs_pow]; rfl
theorem sg_mul2 (z : Int) (k : Nat) : sg (decide (z < 0)) ((z.natAbs : Int) * 2 ^ k) = z * 2 ^ k := by
  have h := sg_abs z
  unfold sg at *
  split
  · rename_i hh; rw [if_pos hh] at h; rw [← Int.neg_mul, h]
  · rename_i hh; rw [if_neg hh] at h; rw [h]
theorem sg_mulp (a b : Int) : sg (decide (a < 0) != decide (b < 0)) ((a.natAbs : Int) * b.natAbs) = a * b := by
  have h1 := sg_abs a
  have h2 := sg_abs b
  unfold sg at *
  by_cases ha : a < 0 <;> by_cases hb : b < 0 <;> simp [ha, hb] at h1 h2 ⊢
  · rw [show (a.natAbs : Int) = -a by omega, show (b.natAbs : Int) = -b by omega]; grind
  · rw [show (a.natAbs : Int) = -a by omega, show (b.natAbs : Int) = b by omega]; grind
  · rw [show (a.natAbs : Int) = a by omega, show (b.natAbs : Int) = -b by omega]; grind
  · rw [show (a.natAbs : Int) = a by omega, show (b.natAbs : Int) = b by omega]
set_option maxHeartbeats 1000000 in
theorem lsh_any (p q k : Nat) (z : Int) (w : World) (hp : IntAt w p) (hq : Big w q z) (hne : q ≠ p) (hk : k ≤ 1000) (hz : (z.natAbs : Int) * 2 ^ k < 4294967296 ^ 8) :
    Calls Tryz.prog 59 #[.pointer (some ⟨p, 0, none⟩), .pointer (some ⟨q, 0, none⟩), .int .u64 (k : Int)] w fun e w' => e = .returned (.pointer (some ⟨p, 0, none⟩)) ∧ Tn p w w' ∧ Big w' p (z * 2 ^ k) := by
  obtain ⟨v, c0, c1, hD, hlt⟩ := hq.cells
  have HP := hide hp
  have HQ := hide hq
  have HD := hide hD
  have hz1 : (z.natAbs : Int) < 4294967296 ^ 8 := by
    have h1 : (1 : Int) ≤ 2 ^ k := Int.pow_pos (by decide)
    have h2 := Int.mul_le_mul_of_nonneg_left h1 (show (0 : Int) ≤ z.natAbs by omega)
    omega
  have HZ := hide hz
  clear hp hq hD hz
  go_enter Tryz.func59, Tryz.ntmps59
  go_wp2_with fail
  refine reg_start (fun W => W.cell? ⟨q, 0, none⟩ = some (.bool (decide (z < 0))) ∧ W.cell? ⟨q, 1, none⟩ = some v) (by kernel_rfl) ?_
  refine reg_seg 0 10 3 (by kernel_rfl) (by decide) (by kernel_rfl) (by kernel_rfl) (fun _ _ _ _ _ h => h) ?_
  simp only [List.take_succ_cons, List.take_zero, List.drop_succ_cons, List.drop_zero]
  repeat (refine wpSteady_step (fun K hK => ?_); go_simp; first | (refine steady_of ?_ (fun W hW => ?_) (hK _ ?_); rotate_left; (obtain ⟨h1, h2⟩ := hW; go_simp; first | done | rfl); clear hK K) | (refine hK _ ?_; clear hK K))
  refine wpSteady_nil ?_
  refine reg_one 10 2 (by kernel_rfl) (by kernel_rfl) ⟨c0, c1⟩ ?_
  simp only [List.take_succ_cons, List.take_zero, List.drop_succ_cons, List.drop_zero]
  go_wp2_with fail
  refine (left_any v z.natAbs k w.drew (unhide HD) hz1 hk).mono ?_
  rintro e w1 ⟨k1, v1, rfl, D1⟩
  have K1 := hide (of_drew k1)
  have HD1 := hide D1
  have c01 := cell_keep (unhide K1) hlt c0
  have c11 := cell_keep (unhide K1) hlt c1
  have hp1 := hide ((unhide HP).step (unhide K1))
  clear k1 D1
  go_wp2_with fail
  first | refine next_nil ?_ | refine next_go ?_
  refine reg_one 11 1 (by kernel_rfl) (by kernel_rfl) ⟨c01, c11⟩ ?_
  simp only [List.take_succ_cons, List.take_zero, List.drop_succ_cons, List.drop_zero]
  go_wp2_with fail
  refine (give_any p (decide (z < 0)) v1 _ w1 (unhide hp1) (unhide HD1) (unhide HZ)).mono ?_
  rintro e w2 ⟨rfl, k2, b2⟩
  rw [sg_mul2] at b2
  have K2 := hide k2
  have B2 := hide b2
  have hlt1 : q < w1.heap.size := Nat.lt_of_lt_of_le hlt (unhide K1).size
  have c02 := (World.cell?_of_block (w := w1) (a := ⟨q, 0, none⟩) ((unhide K2).block q hlt1 hne)).trans c01
  have c12 := (World.cell?_of_block (w := w1) (a := ⟨q, 1, none⟩) ((unhide K2).block q hlt1 hne)).trans c11
  clear k2 b2
  go_wp2_with fail
  first | refine next_nil ?_ | refine next_go ?_
  refine reg_one 12 0 (by kernel_rfl) (by kernel_rfl) ⟨c02, c12⟩ ?_
  simp only [List.take_succ_cons, List.take_zero, List.drop_succ_cons, List.drop_zero]
  go_wp2_with fail
  first | refine next_nil ?_ | refine next_go ?_
  refine reg_end (by kernel_rfl) ⟨c02, c12⟩ ?_
  go_wp2_with fail
  go_ret
  exact ⟨rfl, (Tn.of (unhide K1)).trans (unhide K2), unhide B2⟩
set_option maxHeartbeats 1000000 in
/-- A number that is moved up where it lies. -/
theorem lsh_own (p k : Nat) (z : Int) (w : World) (hq : Big w p z) (h0 : 0 ≤ z) (hk : k ≤ 1000) (hz : z * 2 ^ k < 4294967296 ^ 8) :
    Calls Tryz.prog 59 #[.pointer (some ⟨p, 0, none⟩), .pointer (some ⟨p, 0, none⟩), .int .u64 (k : Int)] w fun e w' => e = .returned (.pointer (some ⟨p, 0, none⟩)) ∧ Tn p w w' ∧ Big w' p (z * 2 ^ k) := by
  obtain ⟨v, c0, c1, hD, hlt⟩ := hq.cells
  have hn : (z.natAbs : Int) = z := by omega
  rw [hn] at hD
  have hb : decide (z < 0) = false := decide_eq_false (by omega)
  rw [hb] at c0
  have HP := hide hq.int
  have HD := hide hD
  have hz1 : z < 4294967296 ^ 8 := by
    have h1 : (1 : Int) ≤ 2 ^ k := Int.pow_pos (by decide)
    have h2 := Int.mul_le_mul_of_nonneg_left h1 h0
    omega
  have HZ := hide hz
  clear hq hD hz hn hb
  go_enter Tryz.func59, Tryz.ntmps59
  go_wp2_with fail
  refine reg_start (fun W => W.cell? ⟨p, 0, none⟩ = some (.bool false)) (by kernel_rfl) ?_
  refine reg_seg 0 8 5 (by kernel_rfl) (by decide) (by kernel_rfl) (by kernel_rfl) (fun _ _ _ _ _ h => h) ?_
  simp only [List.take_succ_cons, List.take_zero, List.drop_succ_cons, List.drop_zero]
  repeat (refine wpSteady_step (fun K hK => ?_); go_simp; first | (refine steady_of ?_ (fun W hW => ?_) (hK _ ?_); rotate_left; (obtain h1 := hW; go_simp; first | done | rfl); clear hK K) | (refine hK _ ?_; clear hK K))
  refine wpSteady_nil ?_
  refine reg_seg 9 1 4 (by kernel_rfl) (by decide) (by kernel_rfl) (by kernel_rfl) (fun _ _ _ _ _ h => h) ?_
  simp only [List.take_succ_cons, List.take_zero, List.drop_succ_cons, List.drop_zero]
  repeat (refine wpSteady_step (fun K hK => ?_); go_simp; first | (refine steady_of ?_ (fun W hW => ?_) (hK _ ?_); rotate_left; (obtain h1 := hW; go_simp; first | done | rfl); clear hK K) | (refine hK _ ?_; clear hK K))
  refine wpSteady_nil ?_
  refine reg_one 8 3 (by kernel_rfl) (by kernel_rfl) c0 ?_
  simp only [List.take_succ_cons, List.take_zero, List.drop_succ_cons, List.drop_zero]
  go_wp2_with fail
  first | refine next_nil ?_ | refine next_go ?_
  refine reg_one 10 2 (by kernel_rfl) (by kernel_rfl) c0 ?_
  simp only [List.take_succ_cons, List.take_zero, List.drop_succ_cons, List.drop_zero]
  go_wp2_with fail
  refine (left_any v z k w.drew (unhide HD) hz1 hk).mono ?_
  rintro e w1 ⟨k1, v1, rfl, D1⟩
  have K1 := hide (of_drew k1)
  have HD1 := hide D1
  have c01 := cell_keep (unhide K1) hlt c0
  have hp1 := hide ((unhide HP).step (unhide K1))
  clear k1 D1
  go_wp2_with fail
  first | refine next_nil ?_ | refine next_go ?_
  refine reg_one 11 1 (by kernel_rfl) (by kernel_rfl) c01 ?_
  simp only [List.take_succ_cons, List.take_zero, List.drop_succ_cons, List.drop_zero]
  go_wp2_with fail
  refine (give_any p false v1 _ w1 (unhide hp1) (unhide HD1) (unhide HZ)).mono ?_
  rintro e w2 ⟨rfl, k2, b2⟩
  have hs : sg false (z * 2 ^ k) = z * 2 ^ k := rfl
  rw [hs] at b2
  have K2 := hide k2
  obtain ⟨v2, c02, _, _, _⟩ := b2.cells
  have hb2 : decide (z * 2 ^ k < 0) = false := decide_eq_false (by have := Int.mul_nonneg h0 (Int.le_of_lt (Int.pow_pos (n := 2) (m := k) (by decide))); omega)
  rw [hb2] at c02
  have B2 := hide b2
  clear k2 b2 hb2 hs
  go_wp2_with fail
  first | refine next_nil ?_ | refine next_go ?_
  refine reg_one 12 0 (by kernel_rfl) (by kernel_rfl) c02 ?_
  simp only [List.take_succ_cons, List.take_zero, List.drop_succ_cons, List.drop_zero]
  go_wp2_with fail
  first | refine next_nil ?_ | refine next_go ?_
  refine reg_end (by kernel_rfl) c02 ?_
  go_wp2_with fail
  go_ret
  exact ⟨rfl, (Tn.of (unhide K1)).trans (unhide K2), unhide B2⟩
set_option maxHeartbeats 1000000 in
theorem mul_big (p q r : Nat) (x y : Int) (w : World) (hp : IntAt w p) (hq : Big w q x) (hr : Big w r y) (hne : q ≠ p) (hnr : r ≠ p) (hx : x.natAbs < 4294967296 ^ 4) (hy : y.natAbs < 4294967296 ^ 4) :
    Calls Tryz.prog 62 #[.pointer (some ⟨p, 0, none⟩), .pointer (some ⟨q, 0, none⟩), .pointer (some ⟨r, 0, none⟩)] w fun e w' => e = .returned (.pointer (some ⟨p, 0, none⟩)) ∧ Tn p w w' ∧ Big w' p (x * y) := by
  obtain ⟨v, c0, c1, hD, hlt⟩ := hq.cells
  obtain ⟨u, d0, d1, hE, hlr⟩ := hr.cells
  have HP := hide hp
  have HD := hide hD
  have HE := hide hE
  have HZ := hide (show (x.natAbs : Int) * y.natAbs < 4294967296 ^ 8 by
    have h1 : (x.natAbs : Int) * y.natAbs ≤ x.natAbs * 4294967296 ^ 4 := Int.mul_le_mul_of_nonneg_left (by omega) (by omega)
    have h2 : (x.natAbs : Int) * 4294967296 ^ 4 < 4294967296 ^ 4 * 4294967296 ^ 4 := Int.mul_lt_mul_of_pos_right (by omega) (by decide)
    have h3 : (4294967296 : Int) ^ 4 * 4294967296 ^ 4 = 4294967296 ^ 8 := by decide
    omega)
  have hb : sg (decide (x < 0) != decide (y < 0)) ((x.natAbs : Int) * y.natAbs) = x * y := sg_mulp x y
  have HB := hide hb
  clear hp hq hr hD hE hb
  go_enter Tryz.func62, Tryz.ntmps62
  go_wp2_with fail
  refine reg_start (fun W => W.cell? ⟨q, 0, none⟩ = some (.bool (decide (x < 0))) ∧ W.cell? ⟨q, 1, none⟩ = some v ∧ W.cell? ⟨r, 0, none⟩ = some (.bool (decide (y < 0))) ∧ W.cell? ⟨r, 1, none⟩ = some u) (by kernel_rfl) ?_
  refine reg_seg 0 18 3 (by kernel_rfl) (by decide) (by kernel_rfl) (by kernel_rfl) (fun _ _ _ _ _ h => h) ?_
  simp only [List.take_succ_cons, List.take_zero, List.drop_succ_cons, List.drop_zero]
  repeat (refine wpSteady_step (fun K hK => ?_); go_simp; first | (refine steady_of ?_ (fun W hW => ?_) (hK _ ?_); rotate_left; (obtain ⟨h1, h2, h3, h4⟩ := hW; go_simp; first | done | rfl); clear hK K) | (refine hK _ ?_; clear hK K))
  refine wpSteady_nil ?_
  refine reg_one 18 2 (by kernel_rfl) (by kernel_rfl) ⟨c0, c1, d0, d1⟩ ?_
  simp only [List.take_succ_cons, List.take_zero, List.drop_succ_cons, List.drop_zero]
  go_wp2_with fail
  refine (mul_bany v u x.natAbs y.natAbs w.drew (unhide HD) (unhide HE) (by omega) (by omega)).mono ?_
  rintro e w1 ⟨k1, v1, rfl, D1⟩
  have K1 := hide (of_drew k1)
  have HD1 := hide D1
  have c01 := cell_keep (unhide K1) hlt c0
  have c11 := cell_keep (unhide K1) hlt c1
  have d01 := cell_keep (unhide K1) hlr d0
  have d11 := cell_keep (unhide K1) hlr d1
  have hp1 := hide ((unhide HP).step (unhide K1))
  clear k1 D1
  go_wp2_with fail
  first | refine next_nil ?_ | refine next_go ?_
  refine reg_one 19 1 (by kernel_rfl) (by kernel_rfl) ⟨c01, c11, d01, d11⟩ ?_
  simp only [List.take_succ_cons, List.take_zero, List.drop_succ_cons, List.drop_zero]
  go_wp2_with fail
  refine (give_any p (decide (x < 0) != decide (y < 0)) v1 _ w1 (unhide hp1) (unhide HD1) (unhide HZ)).mono ?_
  rintro e w2 ⟨rfl, k2, b2⟩
  rw [unhide HB] at b2
  have K2 := hide k2
  have B2 := hide b2
  have hlt1 : q < w1.heap.size := Nat.lt_of_lt_of_le hlt (unhide K1).size
  have hlr1 : r < w1.heap.size := Nat.lt_of_lt_of_le hlr (unhide K1).size
  have CC := And.intro ((World.cell?_of_block (w := w1) (a := ⟨q, 0, none⟩) ((unhide K2).block q hlt1 hne)).trans c01) (And.intro ((World.cell?_of_block (w := w1) (a := ⟨q, 1, none⟩) ((unhide K2).block q hlt1 hne)).trans c11) (And.intro ((World.cell?_of_block (w := w1) (a := ⟨r, 0, none⟩) ((unhide K2).block r hlr1 hnr)).trans d01) ((World.cell?_of_block (w := w1) (a := ⟨r, 1, none⟩) ((unhide K2).block r hlr1 hnr)).trans d11)))
  have CC := hide CC
  clear k2 b2
  go_wp2_with fail
  first | refine next_nil ?_ | refine next_go ?_
  refine reg_one 20 0 (by kernel_rfl) (by kernel_rfl) (unhide CC) ?_
  simp only [List.take_succ_cons, List.take_zero, List.drop_succ_cons, List.drop_zero]
  go_wp2_with fail
  first | refine next_nil ?_ | refine next_go ?_
  refine reg_end (by kernel_rfl) (unhide CC) ?_
  go_wp2_with fail
  go_ret
  exact ⟨rfl, (Tn.of (unhide K1)).trans (unhide K2), unhide B2⟩
end Go.Proofs.YtdmniecdfakbcaaGreat
