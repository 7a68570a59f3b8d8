/-
  The document's answer on types of numbers: Unary.
-/
import Derived.Test.YtdmniecdfakbcaaGreatTyU
import Derived.Test.YtdmniecdfakbcaaGreatTyMz
import Derived.Test.YtdmniecdfakbcaaGreatBigNz
import Derived.Test.YtdmniecdfakbcaaGreatBigPz
namespace Go.Proofs.YtdmniecdfakbcaaGreat
open Go.RowKit
set_option linter.unusedSimpArgs false
set_option linter.unusedVariables false

theorem cut_neg (n z : Int) : cut n (-cut n z) = cut n (-z) := by
  have h := cut_sub n 0 (cut n z)
  rw [cut_cut, cut_sub] at h
  simpa using h.symm
theorem cut_neg1 (n z : Int) : cut n (-cut n z - 1) = cut n (-z - 1) := by
  have h := cut_sub n (-1) (cut n z)
  rw [cut_cut, cut_sub] at h
  rw [show -cut n z - 1 = -1 - cut n z by omega, show -z - 1 = -1 - z by omega]
  exact h.symm
theorem p_le {x : Int} (h : IsW x) : x ≤ pb x := by unfold pb; split <;> omega
theorem conv_zero {x a : Int} {s : Bool} (h : IsW x) : (conv a x s (pb x) == 0) = decide (mn s x a = 0) := by
  have c0 := cut_lo h a
  have c1 := cut_lt h a
  have d : mn s x a = 0 ↔ cut (pb x) (mn s x a) = 0 := by
    constructor
    · intro e; rw [e]; unfold cut; simp
    · intro e
      have e' : cut x a = 0 := by
        rw [← cut_mn s x a, ← cut_le h (isW_p h) (p_le h), e]
        unfold cut; simp
      unfold mn sgn
      rw [e']
      have := md_pos h
      split
      · rw [if_pos (by omega)]
      · rfl
  unfold conv
  by_cases e : mn s x a = 0
  · rw [decide_eq_true e, beq_iff_eq]; exact d.1 e
  · rw [decide_eq_false e, beq_eq_false_iff_ne]; exact fun h => e (d.2 h)

theorem runary_no (k a x : Int) (s : Bool) (w : World) (h : NoW x) : Calls Tryz.prog 15 #[.int .i64 k, .int .u64 a, .agg #[.int .i64 x, .bool s]] w fun e w' => e = .returned (.tuple #[.int .u64 0, .agg #[.int .i64 0, .bool false], .int .i64 1]) ∧ Below w.heap.size w w' := by
  go_enter Tryz.func15, Tryz.ntmps15
  go_wp2_with fail
  have R0 := hide (Duo.new (w := w) (T := 24) (a0 := .int .i64 x) (a1 := .bool s) (b0 := .int .i64 0) (b1 := .bool false) (Below.refl _ _))
  generalize (w.alloc (.cells #[.int .i64 x, .bool s] 24)).alloc (.cells #[.int .i64 0, .bool false] 24) = w0 at *
  refine (rvalid7_no x s w0 h).mono ?_
  rintro e w1 ⟨rfl, k1⟩
  have R := hide ((unhide R0).step k1)
  clear k1 R0
  obtain ⟨r0, r1⟩ := (unhide R).B.at2
  have rf := (unhide R).B.2.2
  have p0 := (unhide R).B.put0
  have p1 := (unhide R).B.put1
  go_wp2_with fail
  exact bodyPost_ret (v := .tuple #[.int .u64 0, .agg #[.int .i64 0, .bool false], .int .i64 1]) (by simp [results, Tryz.results15, go_sem, p0, p1]) rfl ⟨rfl, below_2 (unhide R).bel (by omega) _ _⟩
set_option maxHeartbeats 1000000 in
theorem runary_kind (k a x : Int) (s : Bool) (w : World) (h : IsW x) (hk : k ≠ 6 ∧ k ≠ 7 ∧ k ≠ 8) : Calls Tryz.prog 15 #[.int .i64 k, .int .u64 a, .agg #[.int .i64 x, .bool s]] w fun e w' => e = .returned (.tuple #[.int .u64 0, .agg #[.int .i64 0, .bool false], .int .i64 1]) ∧ Below w.heap.size w w' := by
  by_cases h6 : k < 6
  · have d1 : decide (k < 6) = true := by simpa using h6
    go_enter Tryz.func15, Tryz.ntmps15
    go_wp2_with fail
    have R0 := hide (Duo.new (w := w) (T := 24) (a0 := .int .i64 x) (a1 := .bool s) (b0 := .int .i64 0) (b1 := .bool false) (Below.refl _ _))
    generalize (w.alloc (.cells #[.int .i64 x, .bool s] 24)).alloc (.cells #[.int .i64 0, .bool false] 24) = w0 at *
    refine (rvalid7_yes x s w0 h).mono ?_
    rintro e w1 ⟨rfl, k1⟩
    have R := hide ((unhide R0).step k1)
    clear k1 R0
    obtain ⟨r0, r1⟩ := (unhide R).B.at2
    have rf := (unhide R).B.2.2
    have p0 := (unhide R).B.put0
    have p1 := (unhide R).B.put1
    go_wp2_with fail
    exact bodyPost_ret (v := .tuple #[.int .u64 0, .agg #[.int .i64 0, .bool false], .int .i64 1]) (by simp [results, Tryz.results15, go_sem, p0, p1]) rfl ⟨rfl, below_2 (unhide R).bel (by omega) _ _⟩
  · have d1 : decide (k < 6) = false := by simpa using h6
    have d2 : decide (8 < k) = true := by simp; omega
    go_enter Tryz.func15, Tryz.ntmps15
    go_wp2_with fail
    have R0 := hide (Duo.new (w := w) (T := 24) (a0 := .int .i64 x) (a1 := .bool s) (b0 := .int .i64 0) (b1 := .bool false) (Below.refl _ _))
    generalize (w.alloc (.cells #[.int .i64 x, .bool s] 24)).alloc (.cells #[.int .i64 0, .bool false] 24) = w0 at *
    refine (rvalid7_yes x s w0 h).mono ?_
    rintro e w1 ⟨rfl, k1⟩
    have R := hide ((unhide R0).step k1)
    clear k1 R0
    obtain ⟨r0, r1⟩ := (unhide R).B.at2
    have rf := (unhide R).B.2.2
    have p0 := (unhide R).B.put0
    have p1 := (unhide R).B.put1
    go_wp2_with fail
    exact bodyPost_ret (v := .tuple #[.int .u64 0, .agg #[.int .i64 0, .bool false], .int .i64 1]) (by simp [results, Tryz.results15, go_sem, p0, p1]) rfl ⟨rfl, below_2 (unhide R).bel (by omega) _ _⟩
set_option maxHeartbeats 1000000 in
theorem runary_log (a x : Int) (s : Bool) (w : World) (h : IsW x) (ha : U a) : Calls Tryz.prog 15 #[.int .i64 8, .int .u64 a, .agg #[.int .i64 x, .bool s]] w fun e w' => e = .returned (.tuple #[.int .u64 (b1 (conv a x s (pb x) == 0)), .agg #[.int .i64 16, .bool true], .int .i64 0]) ∧ Below w.heap.size w w' := by
  have hX := isW_p h
  have MA := hide (fun (w : World) => rmeant_any a x s w h ha)
  have ma := mn_abs h s a
  have b8 : (18446744073709551616 : Nat) < 4294967296 ^ 8 := by decide
  rw [conv_zero h]
  generalize mn s x a = M at *
  by_cases hz : M = 0
  · have e1 : b1 (decide (M = 0)) = 1 := by simp [b1, hz]
    rw [e1]
    have sz : M.sign = 0 := by rw [hz]; rfl
    clear e1 hz
    go_enter Tryz.func15, Tryz.ntmps15
    go_wp2_with fail
    have R0 := hide (Duo.new (w := w) (T := 24) (a0 := .int .i64 x) (a1 := .bool s) (b0 := .int .i64 0) (b1 := .bool false) (Below.refl _ _))
    generalize (w.alloc (.cells #[.int .i64 x, .bool s] 24)).alloc (.cells #[.int .i64 0, .bool false] 24) = w0 at *
    refine (rvalid7_yes x s w0 h).mono ?_
    rintro e w1 ⟨rfl, k1⟩
    have R1 := hide ((unhide R0).step k1)
    clear k1 R0
    obtain ⟨x0, x1⟩ := (unhide R1).A.at2
    go_wp2_with fail
    refine (rwide_any x s w1).mono ?_
    rintro e w2 ⟨rfl, k2⟩
    have R2 := hide ((unhide R1).step k2)
    clear k2 R1 x0 x1
    have R3 := hide ((unhide R2).more (T := 24) (u := .int .i64 (pb x)) (v := .bool (ps x s)))
    obtain ⟨x0, x1⟩ := (unhide R2).A.at2
    have lx := (unhide R2).A.1
    have lB := (unhide R2).B.1
    go_wp2_with fail
    clear x0 x1 lx R2
    have hpt : w2.heap.size ≠ w.heap.size + 1 := by have := lB; omega
    generalize w2.alloc (.cells #[.int .i64 (pb x), .bool (ps x s)] 24) = w3 at *
    generalize w2.heap.size = pt at *
    refine (unhide MA w3).mono ?_
    rintro e w4 ⟨pm, rfl, hpm, k4, BM⟩
    have R := hide ((unhide R3).1.step k4)
    have T := hide ((unhide R3).2.step k4)
    have HM := hide BM
    clear k4 R3 hpm BM
    obtain ⟨t0, t1⟩ := (unhide T).at2
    go_wp2_with fail
    refine (sign_any pm M w4 (unhide HM) (by omega)).mono ?_
    rintro e w' ⟨hw, rfl⟩
    subst w'
    rw [sz]
    obtain ⟨r0, r1⟩ := (unhide R).B.at2
    have rf := (unhide R).B.2.2
    have p0 := (unhide R).B.put0
    have p1 := (unhide R).B.put1
    go_wp2_with fail
    exact bodyPost_ret (v := .tuple #[.int .u64 1, .agg #[.int .i64 16, .bool true], .int .i64 0]) (by simp [results, Tryz.results15, go_sem, p0, p1]) rfl ⟨rfl, below_2 (unhide R).bel (by omega) _ _⟩
  · have e1 : b1 (decide (M = 0)) = 0 := by simp [b1, hz]
    rw [e1]
    have sz : (M.sign == 0) = false := by rw [beq_eq_false_iff_ne]; simpa using hz
    clear e1 hz
    go_enter Tryz.func15, Tryz.ntmps15
    go_wp2_with fail
    have R0 := hide (Duo.new (w := w) (T := 24) (a0 := .int .i64 x) (a1 := .bool s) (b0 := .int .i64 0) (b1 := .bool false) (Below.refl _ _))
    generalize (w.alloc (.cells #[.int .i64 x, .bool s] 24)).alloc (.cells #[.int .i64 0, .bool false] 24) = w0 at *
    refine (rvalid7_yes x s w0 h).mono ?_
    rintro e w1 ⟨rfl, k1⟩
    have R1 := hide ((unhide R0).step k1)
    clear k1 R0
    obtain ⟨x0, x1⟩ := (unhide R1).A.at2
    go_wp2_with fail
    refine (rwide_any x s w1).mono ?_
    rintro e w2 ⟨rfl, k2⟩
    have R2 := hide ((unhide R1).step k2)
    clear k2 R1 x0 x1
    have R3 := hide ((unhide R2).more (T := 24) (u := .int .i64 (pb x)) (v := .bool (ps x s)))
    obtain ⟨x0, x1⟩ := (unhide R2).A.at2
    have lx := (unhide R2).A.1
    have lB := (unhide R2).B.1
    go_wp2_with fail
    clear x0 x1 lx R2
    have hpt : w2.heap.size ≠ w.heap.size + 1 := by have := lB; omega
    generalize w2.alloc (.cells #[.int .i64 (pb x), .bool (ps x s)] 24) = w3 at *
    generalize w2.heap.size = pt at *
    refine (unhide MA w3).mono ?_
    rintro e w4 ⟨pm, rfl, hpm, k4, BM⟩
    have R := hide ((unhide R3).1.step k4)
    have T := hide ((unhide R3).2.step k4)
    have HM := hide BM
    clear k4 R3 hpm BM
    obtain ⟨t0, t1⟩ := (unhide T).at2
    go_wp2_with fail
    refine (sign_any pm M w4 (unhide HM) (by omega)).mono ?_
    rintro e w' ⟨hw, rfl⟩
    subst w'
    obtain ⟨r0, r1⟩ := (unhide R).B.at2
    have rf := (unhide R).B.2.2
    have p0 := (unhide R).B.put0
    have p1 := (unhide R).B.put1
    go_wp2_with fail
    exact bodyPost_ret (v := .tuple #[.int .u64 0, .agg #[.int .i64 16, .bool true], .int .i64 0]) (by simp [results, Tryz.results15, go_sem, p0, p1]) rfl ⟨rfl, below_2 (unhide R).bel (by omega) _ _⟩
set_option maxHeartbeats 1000000 in
theorem runary_neg (a x : Int) (s : Bool) (w : World) (h : IsW x) (ha : U a) : Calls Tryz.prog 15 #[.int .i64 6, .int .u64 a, .agg #[.int .i64 x, .bool s]] w fun e w' => e = .returned (.tuple #[.int .u64 (cut (pb x) (-conv a x s (pb x))), .agg #[.int .i64 (pb x), .bool (ps x s)], .int .i64 0]) ∧ Below w.heap.size w w' := by
  have hX := isW_p h
  have MA := hide (fun (w : World) => rmeant_any a x s w h ha)
  have ma := mn_abs h s a
  have b6 : (18446744073709551616 : Nat) < 4294967296 ^ 6 := by decide
  have b7 : (18446744073709551616 : Nat) < 4294967296 ^ 7 := by decide
  unfold conv
  rw [cut_neg]
  generalize mn s x a = M at *
  go_enter Tryz.func15, Tryz.ntmps15
  go_wp2_with fail
  have R0 := hide (Duo.new (w := w) (T := 24) (a0 := .int .i64 x) (a1 := .bool s) (b0 := .int .i64 0) (b1 := .bool false) (Below.refl _ _))
  generalize (w.alloc (.cells #[.int .i64 x, .bool s] 24)).alloc (.cells #[.int .i64 0, .bool false] 24) = w0 at *
  refine (rvalid7_yes x s w0 h).mono ?_
  rintro e w1 ⟨rfl, k1⟩
  have R1 := hide ((unhide R0).step k1)
  clear k1 R0
  obtain ⟨x0, x1⟩ := (unhide R1).A.at2
  go_wp2_with fail
  refine (rwide_any x s w1).mono ?_
  rintro e w2 ⟨rfl, k2⟩
  have R2 := hide ((unhide R1).step k2)
  clear k2 R1 x0 x1
  have R3 := hide ((unhide R2).more (T := 24) (u := .int .i64 (pb x)) (v := .bool (ps x s)))
  obtain ⟨x0, x1⟩ := (unhide R2).A.at2
  have lx := (unhide R2).A.1
  have lB := (unhide R2).B.1
  go_wp2_with fail
  clear x0 x1 lx R2
  have hpt : w2.heap.size ≠ w.heap.size + 1 := by have := lB; omega
  generalize w2.alloc (.cells #[.int .i64 (pb x), .bool (ps x s)] 24) = w3 at *
  generalize w2.heap.size = pt at *
  refine (unhide MA w3).mono ?_
  rintro e w4 ⟨pm, rfl, hpm, k4, BM⟩
  have R := hide ((unhide R3).1.step k4)
  have T := hide ((unhide R3).2.step k4)
  have HM := hide BM
  clear k4 R3 hpm BM
  obtain ⟨t0, t1⟩ := (unhide T).at2
  go_wp2_with fail
  refine reg_start (fun W => W.cell? ⟨pt, 0, none⟩ = some (.int .i64 (pb x)) ∧ W.cell? ⟨pt, 1, none⟩ = some (.bool (ps x s))) (by kernel_rfl) ?_
  refine reg_seg 1 1 9 (by kernel_rfl) (by decide) (by kernel_rfl) (by kernel_rfl) (fun _ _ _ _ _ h => h) ?_
  simp only [List.take_succ_cons, List.take_zero, List.drop_succ_cons, List.drop_zero]
  repeat (refine wpSteady_step (fun K hK => ?_); go_simp; first | (refine steady_of ?_ (fun W hW => ?_) (hK _ ?_); rotate_left; (obtain ⟨c1, c2⟩ := hW; go_simp; first | done | rfl); clear hK K) | (refine hK _ ?_; clear hK K))
  refine wpSteady_nil ?_
  refine reg_seg 3 2 7 (by kernel_rfl) (by decide) (by kernel_rfl) (by kernel_rfl) (fun _ _ _ _ _ h => h) ?_
  simp only [List.take_succ_cons, List.take_zero, List.drop_succ_cons, List.drop_zero]
  repeat (refine wpSteady_step (fun K hK => ?_); go_simp; first | (refine steady_of ?_ (fun W hW => ?_) (hK _ ?_); rotate_left; (obtain ⟨c1, c2⟩ := hW; go_simp; first | done | rfl); clear hK K) | (refine hK _ ?_; clear hK K))
  refine wpSteady_nil ?_
  refine reg_seg 6 1 6 (by kernel_rfl) (by decide) (by kernel_rfl) (by kernel_rfl) (fun _ _ _ _ _ h => h) ?_
  simp only [List.take_succ_cons, List.take_zero, List.drop_succ_cons, List.drop_zero]
  repeat (refine wpSteady_step (fun K hK => ?_); go_simp; first | (refine steady_of ?_ (fun W hW => ?_) (hK _ ?_); rotate_left; (obtain ⟨c1, c2⟩ := hW; go_simp; first | done | rfl); clear hK K) | (refine hK _ ?_; clear hK K))
  refine wpSteady_nil ?_
  refine reg_one 0 5 (by kernel_rfl) (by kernel_rfl) ⟨t0, t1⟩ ?_
  simp only [List.take_succ_cons, List.take_zero, List.drop_succ_cons, List.drop_zero]
  have NB : Hid (IntAt (w4.alloc (.cells #[.bool false, .slice none 0 0] 69)).drew w4.heap.size) := (Big.new w4).int
  have ka : Hid (Below w4.heap.size w4 (w4.alloc (.cells #[.bool false, .slice none 0 0] 69)).drew) := (below_a w4 _).drew
  have M' := hide ((unhide HM).step (unhide ka))
  have lm := (unhide HM).lt
  go_wp2_with fail
  first | refine next_nil ?_ | refine next_go ?_
  clear HM t0 t1
  obtain ⟨t0, t1⟩ := ((unhide T).step (unhide ka)).at2
  generalize (w4.alloc (.cells #[.bool false, .slice none 0 0] 69)).drew = w5 at *
  refine reg_one 2 4 (by kernel_rfl) (by kernel_rfl) ⟨t0, t1⟩ ?_
  simp only [List.take_succ_cons, List.take_zero, List.drop_succ_cons, List.drop_zero]
  go_wp2_with fail
  refine (neg_any w4.heap.size pm M w5 (unhide NB) (unhide M') (by omega) (by omega)).mono ?_
  rintro e w6 ⟨rfl, k6, B6⟩
  have K6 := hide ((unhide ka).trans (k6.below (Nat.le_refl _) (unhide ka).size))
  have HB6 := hide B6
  clear k6 B6 t0 t1 M' NB ka lm
  obtain ⟨t0, t1⟩ := ((unhide T).step (unhide K6)).at2
  go_wp2_with fail
  first | refine next_nil ?_ | refine next_go ?_
  refine reg_one 5 3 (by kernel_rfl) (by kernel_rfl) ⟨t0, t1⟩ ?_
  simp only [List.take_succ_cons, List.take_zero, List.drop_succ_cons, List.drop_zero]
  go_wp2_with fail
  refine (fitW w4.heap.size (-M) (pb x) w6 (unhide HB6) hX (by omega)).mono ?_
  rintro e w7 ⟨rfl, k7⟩
  have R' := hide ((unhide R).step (bT (unhide K6) k7))
  have T' := hide ((unhide T).step (bT (unhide K6) k7))
  clear R T k7 K6 HB6 t0 t1
  have R := R'
  have T := T'
  clear R' T'
  obtain ⟨t0, t1⟩ := (unhide T).at2
  obtain ⟨r0, r1⟩ := (unhide R).B.at2
  have rf := (unhide R).B.2.2
  have p0 := (unhide R).B.put0
  have p1 := (unhide R).B.put1
  go_wp2_with fail
  first | refine next_nil ?_ | refine next_go ?_
  refine reg_one 7 2 (by kernel_rfl) (by kernel_rfl) ⟨t0, t1⟩ ?_
  simp only [List.take_succ_cons, List.take_zero, List.drop_succ_cons, List.drop_zero]
  go_wp2_with fail
  first | refine next_nil ?_ | refine next_go ?_
  refine reg_one 8 1 (by kernel_rfl) (by kernel_rfl) ⟨t0, t1⟩ ?_
  simp only [List.take_succ_cons, List.take_zero, List.drop_succ_cons, List.drop_zero]
  go_wp2_with fail
  first | refine next_nil ?_ | refine next_go ?_
  obtain ⟨y0, y1⟩ := (((unhide T).other (b' := w.heap.size + 1) (j := 0) (u := .int .i64 (pb x)) hpt).other (b' := w.heap.size + 1) (j := 1) (u := .bool (ps x s)) hpt).at2
  refine reg_one 9 0 (by kernel_rfl) (by kernel_rfl) ⟨y0, y1⟩ ?_
  simp only [List.take_succ_cons, List.take_zero, List.drop_succ_cons, List.drop_zero]
  go_wp2_with fail
  first | refine next_nil ?_ | refine next_go ?_
  refine reg_end (by kernel_rfl) ⟨y0, y1⟩ ?_
  go_wp2_with fail
  exact bodyPost_ret (v := .tuple #[.int .u64 (cut (pb x) (-M)), .agg #[.int .i64 (pb x), .bool (ps x s)], .int .i64 0]) (by simp [results, Tryz.results15, go_sem, p0, p1]) rfl ⟨rfl, below_2 (unhide R).bel (by omega) _ _⟩
set_option maxHeartbeats 1000000 in
theorem runary_not (a x : Int) (s : Bool) (w : World) (h : IsW x) (ha : U a) : Calls Tryz.prog 15 #[.int .i64 7, .int .u64 a, .agg #[.int .i64 x, .bool s]] w fun e w' => e = .returned (.tuple #[.int .u64 (cut (pb x) (-conv a x s (pb x) - 1)), .agg #[.int .i64 (pb x), .bool (ps x s)], .int .i64 0]) ∧ Below w.heap.size w w' := by
  have hX := isW_p h
  have MA := hide (fun (w : World) => rmeant_any a x s w h ha)
  have ma := mn_abs h s a
  have b6 : (18446744073709551616 : Nat) < 4294967296 ^ 6 := by decide
  unfold conv
  rw [cut_neg1]
  generalize mn s x a = M at *
  go_enter Tryz.func15, Tryz.ntmps15
  go_wp2_with fail
  have R0 := hide (Duo.new (w := w) (T := 24) (a0 := .int .i64 x) (a1 := .bool s) (b0 := .int .i64 0) (b1 := .bool false) (Below.refl _ _))
  generalize (w.alloc (.cells #[.int .i64 x, .bool s] 24)).alloc (.cells #[.int .i64 0, .bool false] 24) = w0 at *
  refine (rvalid7_yes x s w0 h).mono ?_
  rintro e w1 ⟨rfl, k1⟩
  have R1 := hide ((unhide R0).step k1)
  clear k1 R0
  obtain ⟨x0, x1⟩ := (unhide R1).A.at2
  go_wp2_with fail
  refine (rwide_any x s w1).mono ?_
  rintro e w2 ⟨rfl, k2⟩
  have R2 := hide ((unhide R1).step k2)
  clear k2 R1 x0 x1
  have R3 := hide ((unhide R2).more (T := 24) (u := .int .i64 (pb x)) (v := .bool (ps x s)))
  obtain ⟨x0, x1⟩ := (unhide R2).A.at2
  have lx := (unhide R2).A.1
  have lB := (unhide R2).B.1
  go_wp2_with fail
  clear x0 x1 lx R2
  have hpt : w2.heap.size ≠ w.heap.size + 1 := by have := lB; omega
  generalize w2.alloc (.cells #[.int .i64 (pb x), .bool (ps x s)] 24) = w3 at *
  generalize w2.heap.size = pt at *
  refine (unhide MA w3).mono ?_
  rintro e w4 ⟨pm, rfl, hpm, k4, BM⟩
  have R := hide ((unhide R3).1.step k4)
  have T := hide ((unhide R3).2.step k4)
  have HM := hide BM
  clear k4 R3 hpm BM
  obtain ⟨t0, t1⟩ := (unhide T).at2
  go_wp2_with fail
  refine reg_start (fun W => W.cell? ⟨pt, 0, none⟩ = some (.int .i64 (pb x)) ∧ W.cell? ⟨pt, 1, none⟩ = some (.bool (ps x s))) (by kernel_rfl) ?_
  refine reg_seg 1 1 9 (by kernel_rfl) (by decide) (by kernel_rfl) (by kernel_rfl) (fun _ _ _ _ _ h => h) ?_
  simp only [List.take_succ_cons, List.take_zero, List.drop_succ_cons, List.drop_zero]
  repeat (refine wpSteady_step (fun K hK => ?_); go_simp; first | (refine steady_of ?_ (fun W hW => ?_) (hK _ ?_); rotate_left; (obtain ⟨c1, c2⟩ := hW; go_simp; first | done | rfl); clear hK K) | (refine hK _ ?_; clear hK K))
  refine wpSteady_nil ?_
  refine reg_seg 3 2 7 (by kernel_rfl) (by decide) (by kernel_rfl) (by kernel_rfl) (fun _ _ _ _ _ h => h) ?_
  simp only [List.take_succ_cons, List.take_zero, List.drop_succ_cons, List.drop_zero]
  repeat (refine wpSteady_step (fun K hK => ?_); go_simp; first | (refine steady_of ?_ (fun W hW => ?_) (hK _ ?_); rotate_left; (obtain ⟨c1, c2⟩ := hW; go_simp; first | done | rfl); clear hK K) | (refine hK _ ?_; clear hK K))
  refine wpSteady_nil ?_
  refine reg_seg 6 1 6 (by kernel_rfl) (by decide) (by kernel_rfl) (by kernel_rfl) (fun _ _ _ _ _ h => h) ?_
  simp only [List.take_succ_cons, List.take_zero, List.drop_succ_cons, List.drop_zero]
  repeat (refine wpSteady_step (fun K hK => ?_); go_simp; first | (refine steady_of ?_ (fun W hW => ?_) (hK _ ?_); rotate_left; (obtain ⟨c1, c2⟩ := hW; go_simp; first | done | rfl); clear hK K) | (refine hK _ ?_; clear hK K))
  refine wpSteady_nil ?_
  refine reg_one 0 5 (by kernel_rfl) (by kernel_rfl) ⟨t0, t1⟩ ?_
  simp only [List.take_succ_cons, List.take_zero, List.drop_succ_cons, List.drop_zero]
  have NB : Hid (IntAt (w4.alloc (.cells #[.bool false, .slice none 0 0] 69)).drew w4.heap.size) := (Big.new w4).int
  have ka : Hid (Below w4.heap.size w4 (w4.alloc (.cells #[.bool false, .slice none 0 0] 69)).drew) := (below_a w4 _).drew
  have M' := hide ((unhide HM).step (unhide ka))
  have lm := (unhide HM).lt
  go_wp2_with fail
  first | refine next_nil ?_ | refine next_go ?_
  clear HM t0 t1
  obtain ⟨t0, t1⟩ := ((unhide T).step (unhide ka)).at2
  generalize (w4.alloc (.cells #[.bool false, .slice none 0 0] 69)).drew = w5 at *
  refine reg_one 2 4 (by kernel_rfl) (by kernel_rfl) ⟨t0, t1⟩ ?_
  simp only [List.take_succ_cons, List.take_zero, List.drop_succ_cons, List.drop_zero]
  go_wp2_with fail
  refine (not_any w4.heap.size pm M w5 (unhide NB) (unhide M') (by omega) (by omega)).mono ?_
  rintro e w6 ⟨rfl, k6, B6⟩
  have K6 := hide ((unhide ka).trans (k6.below (Nat.le_refl _) (unhide ka).size))
  have HB6 := hide B6
  clear k6 B6 t0 t1 M' NB ka lm
  obtain ⟨t0, t1⟩ := ((unhide T).step (unhide K6)).at2
  go_wp2_with fail
  first | refine next_nil ?_ | refine next_go ?_
  refine reg_one 5 3 (by kernel_rfl) (by kernel_rfl) ⟨t0, t1⟩ ?_
  simp only [List.take_succ_cons, List.take_zero, List.drop_succ_cons, List.drop_zero]
  go_wp2_with fail
  refine (fitW w4.heap.size (-M - 1) (pb x) w6 (unhide HB6) hX (by omega)).mono ?_
  rintro e w7 ⟨rfl, k7⟩
  have R' := hide ((unhide R).step (bT (unhide K6) k7))
  have T' := hide ((unhide T).step (bT (unhide K6) k7))
  clear R T k7 K6 HB6 t0 t1
  have R := R'
  have T := T'
  clear R' T'
  obtain ⟨t0, t1⟩ := (unhide T).at2
  obtain ⟨r0, r1⟩ := (unhide R).B.at2
  have rf := (unhide R).B.2.2
  have p0 := (unhide R).B.put0
  have p1 := (unhide R).B.put1
  go_wp2_with fail
  first | refine next_nil ?_ | refine next_go ?_
  refine reg_one 7 2 (by kernel_rfl) (by kernel_rfl) ⟨t0, t1⟩ ?_
  simp only [List.take_succ_cons, List.take_zero, List.drop_succ_cons, List.drop_zero]
  go_wp2_with fail
  first | refine next_nil ?_ | refine next_go ?_
  refine reg_one 8 1 (by kernel_rfl) (by kernel_rfl) ⟨t0, t1⟩ ?_
  simp only [List.take_succ_cons, List.take_zero, List.drop_succ_cons, List.drop_zero]
  go_wp2_with fail
  first | refine next_nil ?_ | refine next_go ?_
  obtain ⟨y0, y1⟩ := (((unhide T).other (b' := w.heap.size + 1) (j := 0) (u := .int .i64 (pb x)) hpt).other (b' := w.heap.size + 1) (j := 1) (u := .bool (ps x s)) hpt).at2
  refine reg_one 9 0 (by kernel_rfl) (by kernel_rfl) ⟨y0, y1⟩ ?_
  simp only [List.take_succ_cons, List.take_zero, List.drop_succ_cons, List.drop_zero]
  go_wp2_with fail
  first | refine next_nil ?_ | refine next_go ?_
  refine reg_end (by kernel_rfl) ⟨y0, y1⟩ ?_
  go_wp2_with fail
  exact bodyPost_ret (v := .tuple #[.int .u64 (cut (pb x) (-M - 1)), .agg #[.int .i64 (pb x), .bool (ps x s)], .int .i64 0]) (by simp [results, Tryz.results15, go_sem, p0, p1]) rfl ⟨rfl, below_2 (unhide R).bel (by omega) _ _⟩
end Go.Proofs.YtdmniecdfakbcaaGreat
