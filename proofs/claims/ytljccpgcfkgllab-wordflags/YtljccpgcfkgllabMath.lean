/-
  The words of a carry chain are the words of the sum and of the difference, and its flags tell their order: plain numbers alone.
-/
import Derived.Test.YtljccpgcfkgllabRows2
namespace Go.Proofs.Ytljccpgcfkgllab
open Go.RowKit

theorem oi_ne (t : Int) (h : 0 ≤ t ∧ t ≤ 131071) : oi (t != lw t) = t / 65536 := by
  unfold oi lw
  by_cases e : t = t % 65536
  · rw [if_neg (by rw [← e]; simp)]; omega
  · rw [if_pos (by simpa using e)]; omega
theorem oi_ne' (t : Int) (h : -65536 ≤ t ∧ t ≤ 65535) : oi (t != lw t) = - (t / 65536) := by
  unfold oi lw
  by_cases e : t = t % 65536
  · rw [if_neg (by rw [← e]; simp)]; omega
  · rw [if_pos (by simpa using e)]; omega
theorem of_oi (c : Bool) : c = decide (oi c = 1) := by cases c <;> decide
theorem lw_of {x : Int} (h : 0 ≤ x ∧ x ≤ 65535) : lw x = x := by unfold lw; omega
theorem sum_step (xs ys : Nat → Int) (i : Nat) (hx : 0 ≤ xs i ∧ xs i ≤ 65535) (hy : 0 ≤ ys i ∧ ys i ≤ 65535) :
    oi (sumcy xs ys (i + 1)) = (xs i + ys i + oi (sumcy xs ys i)) / 65536 ∧ sumw xs ys i = (xs i + ys i + oi (sumcy xs ys i)) % 65536 := by
  have hc := oi_b (sumcy xs ys i)
  have e : sumt (xs i) (ys i) (sumcy xs ys i) = xs i + ys i + oi (sumcy xs ys i) := by unfold sumt; rw [lw_of hx, lw_of hy]
  refine ⟨?_, ?_⟩
  · show oi (sumt (xs i) (ys i) (sumcy xs ys i) != lw (sumt (xs i) (ys i) (sumcy xs ys i))) = _
    rw [e]; exact oi_ne _ (by omega)
  · unfold sumw; rw [e]; rfl
theorem dif_step (xs ys : Nat → Int) (i : Nat) (hx : 0 ≤ xs i ∧ xs i ≤ 65535) (hy : 0 ≤ ys i ∧ ys i ≤ 65535) :
    oi (difcy xs ys (i + 1)) = - ((xs i - ys i - oi (difcy xs ys i)) / 65536) ∧ difw xs ys i = (xs i - ys i - oi (difcy xs ys i)) % 65536 := by
  have hc := oi_b (difcy xs ys i)
  have e : dift (xs i) (ys i) (difcy xs ys i) = xs i - ys i - oi (difcy xs ys i) := by unfold dift; rw [lw_of hx, lw_of hy]
  refine ⟨?_, ?_⟩
  · show oi (dift (xs i) (ys i) (difcy xs ys i) != lw (dift (xs i) (ys i) (difcy xs ys i))) = _
    rw [e]; exact oi_ne' _ (by omega)
  · unfold difw; rw [e]; rfl
theorem wdf_b (c : Int) (j : Nat) : 0 ≤ wdf c j ∧ wdf c j ≤ 65535 := by unfold wdf; omega
theorem and3 (a b : Bool) (p q : Prop) [Decidable p] [Decidable q] (h1 : a = decide p) (h2 : b = decide q) : (a && b) = decide (p ∧ q) := by subst h1 h2; simp
theorem dig4 (p w0 w1 w2 w3 : Int) (h0 : 0 ≤ w0 ∧ w0 ≤ 65535) (h1 : 0 ≤ w1 ∧ w1 ≤ 65535) (h2 : 0 ≤ w2 ∧ w2 ≤ 65535) (h3 : 0 ≤ w3 ∧ w3 ≤ 65535) (e : p = w0 + 65536 * (w1 + 65536 * (w2 + 65536 * w3))) :
    p % 65536 = w0 ∧ p / 65536 % 65536 = w1 ∧ p / 65536 / 65536 % 65536 = w2 ∧ p / 65536 / 65536 / 65536 % 65536 = w3 := by
  have e1 : p / 65536 = w1 + 65536 * (w2 + 65536 * w3) := by omega
  have e2 : p / 65536 / 65536 = w2 + 65536 * w3 := by rw [e1]; omega
  have e3 : p / 65536 / 65536 / 65536 = w3 := by rw [e2]; omega
  rw [e3, e2, e1]
  refine ⟨by omega, by omega, by omega, by omega⟩
theorem comp4 (X : Int) (h0 : 0 ≤ X) (h1 : X < 18446744073709551616) : X = X % 65536 + 65536 * (X / 65536 % 65536 + 65536 * (X / 65536 / 65536 % 65536 + 65536 * (X / 65536 / 65536 / 65536 % 65536))) := by
  have a1 : X / 65536 < 281474976710656 := by omega
  have a2 : X / 65536 / 65536 < 4294967296 := by omega
  have a3 : X / 65536 / 65536 / 65536 < 65536 := by omega
  have a0 : 0 ≤ X / 65536 / 65536 / 65536 := by omega
  generalize hq3 : X / 65536 / 65536 / 65536 = q3 at *
  have b3 : q3 % 65536 = q3 := by omega
  rw [b3]
  have c2 : X / 65536 / 65536 = X / 65536 / 65536 % 65536 + 65536 * q3 := by omega
  have c1 : X / 65536 = X / 65536 % 65536 + 65536 * (X / 65536 / 65536) := by omega
  have c0 : X = X % 65536 + 65536 * (X / 65536) := by omega
  omega
theorem lin_sum {u v q q' m : Int} (h : q' = (u + v + q) / 65536 ∧ m = (u + v + q) % 65536) : u + v + q = m + 65536 * q' ∧ (0 ≤ m ∧ m ≤ 65535) := by omega
theorem lin_dif {u v q q' m : Int} (h : q' = - ((u - v - q) / 65536) ∧ m = (u - v - q) % 65536) : u - v - q = m - 65536 * q' ∧ (0 ≤ m ∧ m ≤ 65535) := by omega
theorem fin_sum {X Y p u0 u1 u2 u3 v0 v1 v2 v3 q1 q2 q3 q4 m0 m1 m2 m3 : Int} (x0 : 0 ≤ X) (x1 : X < 18446744073709551616) (y0 : 0 ≤ Y) (y1 : Y < 18446744073709551616) (ep : p = (X + Y) % 18446744073709551616) (eX : X = u0 + 65536 * (u1 + 65536 * (u2 + 65536 * u3))) (eY : Y = v0 + 65536 * (v1 + 65536 * (v2 + 65536 * v3)))
    (t0 : u0 + v0 + 0 = m0 + 65536 * q1) (t1 : u1 + v1 + q1 = m1 + 65536 * q2) (t2 : u2 + v2 + q2 = m2 + 65536 * q3) (t3 : u3 + v3 + q3 = m3 + 65536 * q4) (g0 : 0 ≤ m0 ∧ m0 ≤ 65535) (g1 : 0 ≤ m1 ∧ m1 ≤ 65535) (g2 : 0 ≤ m2 ∧ m2 ≤ 65535) (g3 : 0 ≤ m3 ∧ m3 ≤ 65535) (k4 : 0 ≤ q4 ∧ q4 ≤ 1) :
    p = m0 + 65536 * (m1 + 65536 * (m2 + 65536 * m3)) ∧ (q4 = 1 ↔ p < X) := by
  have s : X + Y = (m0 + 65536 * (m1 + 65536 * (m2 + 65536 * m3))) + 18446744073709551616 * q4 := by omega
  have r : 0 ≤ m0 + 65536 * (m1 + 65536 * (m2 + 65536 * m3)) ∧ m0 + 65536 * (m1 + 65536 * (m2 + 65536 * m3)) < 18446744073709551616 := by omega
  clear eX eY t0 t1 t2 t3
  generalize m0 + 65536 * (m1 + 65536 * (m2 + 65536 * m3)) = M at *
  clear g0 g1 g2 g3
  have e : p = M := by omega
  refine ⟨e, ?_⟩
  omega
theorem fin_dif {X Y p u0 u1 u2 u3 v0 v1 v2 v3 q1 q2 q3 q4 m0 m1 m2 m3 : Int} (_x0 : 0 ≤ X) (_x1 : X < 18446744073709551616) (_y0 : 0 ≤ Y) (_y1 : Y < 18446744073709551616) (ep : p = (X - Y) % 18446744073709551616) (eX : X = u0 + 65536 * (u1 + 65536 * (u2 + 65536 * u3))) (eY : Y = v0 + 65536 * (v1 + 65536 * (v2 + 65536 * v3)))
    (t0 : u0 - v0 - 0 = m0 - 65536 * q1) (t1 : u1 - v1 - q1 = m1 - 65536 * q2) (t2 : u2 - v2 - q2 = m2 - 65536 * q3) (t3 : u3 - v3 - q3 = m3 - 65536 * q4) (g0 : 0 ≤ m0 ∧ m0 ≤ 65535) (g1 : 0 ≤ m1 ∧ m1 ≤ 65535) (g2 : 0 ≤ m2 ∧ m2 ≤ 65535) (g3 : 0 ≤ m3 ∧ m3 ≤ 65535) (k4 : 0 ≤ q4 ∧ q4 ≤ 1) :
    p = m0 + 65536 * (m1 + 65536 * (m2 + 65536 * m3)) ∧ (q4 = 1 ↔ X < Y) := by
  have s : X - Y = (m0 + 65536 * (m1 + 65536 * (m2 + 65536 * m3))) - 18446744073709551616 * q4 := by omega
  have r : 0 ≤ m0 + 65536 * (m1 + 65536 * (m2 + 65536 * m3)) ∧ m0 + 65536 * (m1 + 65536 * (m2 + 65536 * m3)) < 18446744073709551616 := by omega
  clear eX eY t0 t1 t2 t3
  generalize m0 + 65536 * (m1 + 65536 * (m2 + 65536 * m3)) = M at *
  clear g0 g1 g2 g3
  have e : p = M := by omega
  refine ⟨e, ?_⟩
  omega
theorem zero4 {p m0 m1 m2 m3 : Int} (g0 : 0 ≤ m0 ∧ m0 ≤ 65535) (g1 : 0 ≤ m1 ∧ m1 ≤ 65535) (g2 : 0 ≤ m2 ∧ m2 ≤ 65535) (_g3 : 0 ≤ m3 ∧ m3 ≤ 65535) (e : p = m0 + 65536 * (m1 + 65536 * (m2 + 65536 * m3))) : (((m0 = 0 ∧ m1 = 0) ∧ m2 = 0) ∧ m3 = 0) ↔ p = 0 := by omega
theorem beq_dec (x : Int) : (x == 0) = decide (x = 0) := by
  by_cases h : x = 0
  · subst h; simp
  · simp [h]

theorem sum_all {n : Int} {L : Nat} (h : Wide n L) (a b : Int) :
    (∀ j, j < L → sumw (wdf (cut n a)) (wdf (cut n b)) j = wdf (cut n (cut n (a + b))) j) ∧ (sumf (wdf (cut n a)) (wdf (cut n b)) L).1 = decide (cut n (a + b) < cut n a) ∧ sumz (wdf (cut n a)) (wdf (cut n b)) L = (cut n (a + b) == 0) := by
  have hw := h.isW
  have x0 := cut_lo hw a; have x1 := cut_lt hw a
  have y0 := cut_lo hw b; have y1 := cut_lt hw b
  have ep : cut n (a + b) = (cut n a + cut n b) % md n := by rw [← cut_add n a b]; rfl
  rw [cut_cut]
  generalize cut n (a + b) = p at *
  generalize cut n a = X at *
  generalize cut n b = Y at *
  have s0 := sum_step (wdf X) (wdf Y) 0 (wdf_b X 0) (wdf_b Y 0)
  simp only [Nat.zero_add] at s0
  have z0 : oi (sumcy (wdf X) (wdf Y) 0) = 0 := rfl
  have c1 := of_oi (sumcy (wdf X) (wdf Y) 1)
  have b0 := beq_dec (sumw (wdf X) (wdf Y) 0)
  rw [z0, wdf_0, wdf_0] at s0
  rcases h with ⟨rfl, rfl⟩ | ⟨rfl, rfl⟩ | ⟨rfl, rfl⟩
  · rw [md_16] at *
    refine ⟨fun j hj => ?_, ?_, ?_⟩
    · obtain rfl : j = 0 := by omega
      rw [wdf_0]; omega
    · show sumcy (wdf X) (wdf Y) 1 = _
      rw [c1, decide_eq_decide]; omega
    · show (true && (sumw (wdf X) (wdf Y) 0 == 0)) = _
      rw [b0, beq_dec, Bool.true_and, decide_eq_decide]; omega
  · rw [md_32] at *
    have s1 := sum_step (wdf X) (wdf Y) 1 (wdf_b X 1) (wdf_b Y 1)
    simp only [Nat.reduceAdd] at s1
    have c2 := of_oi (sumcy (wdf X) (wdf Y) 2)
    have b1 := beq_dec (sumw (wdf X) (wdf Y) 1)
    rw [wdf_1, wdf_1] at s1
    refine ⟨fun j hj => ?_, ?_, ?_⟩
    · have hj' : j = 0 ∨ j = 1 := by omega
      rcases hj' with rfl | rfl
      · rw [wdf_0]; omega
      · rw [wdf_1]; omega
    · show sumcy (wdf X) (wdf Y) 2 = _
      rw [c2, decide_eq_decide]; omega
    · show ((true && (sumw (wdf X) (wdf Y) 0 == 0)) && (sumw (wdf X) (wdf Y) 1 == 0)) = _
      rw [Bool.true_and, and3 _ _ _ _ b0 b1, beq_dec, decide_eq_decide]; omega
  · rw [md_64] at *
    have s1 := sum_step (wdf X) (wdf Y) 1 (wdf_b X 1) (wdf_b Y 1)
    simp only [Nat.reduceAdd] at s1
    have s2 := sum_step (wdf X) (wdf Y) 2 (wdf_b X 2) (wdf_b Y 2)
    simp only [Nat.reduceAdd] at s2
    have s3 := sum_step (wdf X) (wdf Y) 3 (wdf_b X 3) (wdf_b Y 3)
    simp only [Nat.reduceAdd] at s3
    have c4 := of_oi (sumcy (wdf X) (wdf Y) 4)
    have b1 := beq_dec (sumw (wdf X) (wdf Y) 1)
    have b2 := beq_dec (sumw (wdf X) (wdf Y) 2)
    have b3 := beq_dec (sumw (wdf X) (wdf Y) 3)
    rw [wdf_1, wdf_1] at s1
    rw [wdf_2, wdf_2] at s2
    rw [wdf_3, wdf_3] at s3
    have eX := comp4 X x0 x1
    have eY := comp4 Y y0 y1
    have k4 := oi_b (sumcy (wdf X) (wdf Y) 4)
    have t0 := lin_sum s0
    have t1 := lin_sum s1
    have t2 := lin_sum s2
    have t3 := lin_sum s3
    obtain ⟨epp, hcc⟩ := fin_sum x0 x1 y0 y1 ep eX eY t0.1 t1.1 t2.1 t3.1 t0.2 t1.2 t2.2 t3.2 k4
    have hzz := zero4 t0.2 t1.2 t2.2 t3.2 epp
    have d4 := dig4 p _ _ _ _ t0.2 t1.2 t2.2 t3.2 epp
    refine ⟨fun j hj => ?_, ?_, ?_⟩
    · have hj' : j = 0 ∨ j = 1 ∨ j = 2 ∨ j = 3 := by omega
      rcases hj' with rfl | rfl | rfl | rfl
      · rw [wdf_0, d4.1]
      · rw [wdf_1, d4.2.1]
      · rw [wdf_2, d4.2.2.1]
      · rw [wdf_3, d4.2.2.2]
    · show sumcy (wdf X) (wdf Y) 4 = _
      rw [c4, decide_eq_decide]; exact hcc
    · show ((((true && (sumw (wdf X) (wdf Y) 0 == 0)) && (sumw (wdf X) (wdf Y) 1 == 0)) && (sumw (wdf X) (wdf Y) 2 == 0)) && (sumw (wdf X) (wdf Y) 3 == 0)) = _
      rw [Bool.true_and, and3 _ _ _ _ (and3 _ _ _ _ (and3 _ _ _ _ b0 b1) b2) b3, beq_dec, decide_eq_decide]; exact hzz

theorem dif_all {n : Int} {L : Nat} (h : Wide n L) (a b : Int) :
    (∀ j, j < L → difw (wdf (cut n a)) (wdf (cut n b)) j = wdf (cut n (cut n (a - b))) j) ∧ (diff (wdf (cut n a)) (wdf (cut n b)) L).1 = decide (cut n a < cut n b) ∧ difz (wdf (cut n a)) (wdf (cut n b)) L = (cut n (a - b) == 0) := by
  have hw := h.isW
  have x0 := cut_lo hw a; have x1 := cut_lt hw a
  have y0 := cut_lo hw b; have y1 := cut_lt hw b
  have ep : cut n (a - b) = (cut n a - cut n b) % md n := by rw [← cut_sub n a b]; rfl
  rw [cut_cut]
  generalize cut n (a - b) = p at *
  generalize cut n a = X at *
  generalize cut n b = Y at *
  have s0 := dif_step (wdf X) (wdf Y) 0 (wdf_b X 0) (wdf_b Y 0)
  simp only [Nat.zero_add] at s0
  have z0 : oi (difcy (wdf X) (wdf Y) 0) = 0 := rfl
  have c1 := of_oi (difcy (wdf X) (wdf Y) 1)
  have b0 := beq_dec (difw (wdf X) (wdf Y) 0)
  rw [z0, wdf_0, wdf_0] at s0
  rcases h with ⟨rfl, rfl⟩ | ⟨rfl, rfl⟩ | ⟨rfl, rfl⟩
  · rw [md_16] at *
    refine ⟨fun j hj => ?_, ?_, ?_⟩
    · obtain rfl : j = 0 := by omega
      rw [wdf_0]; omega
    · show difcy (wdf X) (wdf Y) 1 = _
      rw [c1, decide_eq_decide]; omega
    · show (true && (difw (wdf X) (wdf Y) 0 == 0)) = _
      rw [b0, beq_dec, Bool.true_and, decide_eq_decide]; omega
  · rw [md_32] at *
    have s1 := dif_step (wdf X) (wdf Y) 1 (wdf_b X 1) (wdf_b Y 1)
    simp only [Nat.reduceAdd] at s1
    have c2 := of_oi (difcy (wdf X) (wdf Y) 2)
    have b1 := beq_dec (difw (wdf X) (wdf Y) 1)
    rw [wdf_1, wdf_1] at s1
    refine ⟨fun j hj => ?_, ?_, ?_⟩
    · have hj' : j = 0 ∨ j = 1 := by omega
      rcases hj' with rfl | rfl
      · rw [wdf_0]; omega
      · rw [wdf_1]; omega
    · show difcy (wdf X) (wdf Y) 2 = _
      rw [c2, decide_eq_decide]; omega
    · show ((true && (difw (wdf X) (wdf Y) 0 == 0)) && (difw (wdf X) (wdf Y) 1 == 0)) = _
      rw [Bool.true_and, and3 _ _ _ _ b0 b1, beq_dec, decide_eq_decide]; omega
  · rw [md_64] at *
    have s1 := dif_step (wdf X) (wdf Y) 1 (wdf_b X 1) (wdf_b Y 1)
    simp only [Nat.reduceAdd] at s1
    have s2 := dif_step (wdf X) (wdf Y) 2 (wdf_b X 2) (wdf_b Y 2)
    simp only [Nat.reduceAdd] at s2
    have s3 := dif_step (wdf X) (wdf Y) 3 (wdf_b X 3) (wdf_b Y 3)
    simp only [Nat.reduceAdd] at s3
    have c4 := of_oi (difcy (wdf X) (wdf Y) 4)
    have b1 := beq_dec (difw (wdf X) (wdf Y) 1)
    have b2 := beq_dec (difw (wdf X) (wdf Y) 2)
    have b3 := beq_dec (difw (wdf X) (wdf Y) 3)
    rw [wdf_1, wdf_1] at s1
    rw [wdf_2, wdf_2] at s2
    rw [wdf_3, wdf_3] at s3
    have eX := comp4 X x0 x1
    have eY := comp4 Y y0 y1
    have k4 := oi_b (difcy (wdf X) (wdf Y) 4)
    have t0 := lin_dif s0
    have t1 := lin_dif s1
    have t2 := lin_dif s2
    have t3 := lin_dif s3
    obtain ⟨epp, hcc⟩ := fin_dif x0 x1 y0 y1 ep eX eY t0.1 t1.1 t2.1 t3.1 t0.2 t1.2 t2.2 t3.2 k4
    have hzz := zero4 t0.2 t1.2 t2.2 t3.2 epp
    have d4 := dig4 p _ _ _ _ t0.2 t1.2 t2.2 t3.2 epp
    refine ⟨fun j hj => ?_, ?_, ?_⟩
    · have hj' : j = 0 ∨ j = 1 ∨ j = 2 ∨ j = 3 := by omega
      rcases hj' with rfl | rfl | rfl | rfl
      · rw [wdf_0, d4.1]
      · rw [wdf_1, d4.2.1]
      · rw [wdf_2, d4.2.2.1]
      · rw [wdf_3, d4.2.2.2]
    · show difcy (wdf X) (wdf Y) 4 = _
      rw [c4, decide_eq_decide]; exact hcc
    · show ((((true && (difw (wdf X) (wdf Y) 0 == 0)) && (difw (wdf X) (wdf Y) 1 == 0)) && (difw (wdf X) (wdf Y) 2 == 0)) && (difw (wdf X) (wdf Y) 3 == 0)) = _
      rw [Bool.true_and, and3 _ _ _ _ (and3 _ _ _ _ (and3 _ _ _ _ b0 b1) b2) b3, beq_dec, decide_eq_decide]; exact hzz
end Go.Proofs.Ytljccpgcfkgllab
