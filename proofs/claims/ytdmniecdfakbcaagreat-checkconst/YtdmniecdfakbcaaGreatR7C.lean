/-
  The document's answer on types of numbers: Binary. (Written by mkR7C.py.)
-/
import Derived.Test.YtdmniecdfakbcaaGreatTyEz
import Derived.Test.YtdmniecdfakbcaaGreatTyMz
import Derived.Test.YtdmniecdfakbcaaGreatR7B
import Derived.Test.YtdmniecdfakbcaaGreatBigO
import Derived.Test.YtdmniecdfakbcaaGreatBigPz
import Derived.Test.YtdmniecdfakbcaaGreatBigS
namespace Go.Proofs.YtdmniecdfakbcaaGreat
open Go.RowKit
set_option linter.unusedSimpArgs false
set_option linter.unusedVariables false

set_option maxRecDepth 100000 in
set_option maxHeartbeats 1000000 in
theorem rbinary_no (k a b x y : Int) (s t : Bool) (w : World) (h : NoW x ∨ (IsW x ∧ NoW y) ∨ (IsW x ∧ IsW y ∧ (k < 9 ∨ 24 < k))) : Calls Tryz.prog 17 #[.int .i64 k, .int .u64 a, .int .u64 b, .agg #[.int .i64 x, .bool s], .agg #[.int .i64 y, .bool t]] w fun e w' => e = .returned (.tuple #[.int .u64 0, .int .i64 1]) ∧ Below w.heap.size w w' := by
  rcases h with h | ⟨h1, h2⟩ | ⟨h1, h2, h3⟩
  · go_enter Tryz.func17, Tryz.ntmps17
    go_wp2_with (go_at_call 11; refine (rvalid7_no _ _ _ h).mono ?_; rintro e w1 ⟨rfl, k1⟩)
    go_ret2
    exact ⟨rfl, bT (below_a _ _) (bT (below_a _ _) k1)⟩
  · have B1 := hide (fun (w : World) => rvalid7_yes x s w h1)
    have B2 := hide (fun (w : World) => rvalid7_no y t w h2)
    go_enter Tryz.func17, Tryz.ntmps17
    go_wp2_with (first | (go_at_call 11; have K := k1; refine (unhide B2 _).mono ?_; rintro e w2 ⟨rfl, k2⟩; clear K) | (go_at_call 11; refine (unhide B1 _).mono ?_; rintro e w1 ⟨rfl, k1⟩; have R := hide (Duo.new k1); obtain ⟨c0, c1⟩ := (unhide R).B.at2))
    go_ret2
    exact ⟨rfl, bT (below_a _ _) (bT (below_a _ _) (bT k1 k2))⟩
  · have B1 := hide (fun (w : World) => rvalid7_yes x s w h1)
    have B2 := hide (fun (w : World) => rvalid7_yes y t w h2)
    by_cases h4 : k < 9
    · have d1 : decide (k < 9) = true := by simpa using h4
      go_enter Tryz.func17, Tryz.ntmps17
      go_wp2_with (first | (go_at_call 11; have K := k1; refine (unhide B2 _).mono ?_; rintro e w2 ⟨rfl, k2⟩; clear K) | (go_at_call 11; refine (unhide B1 _).mono ?_; rintro e w1 ⟨rfl, k1⟩; have R := hide (Duo.new k1); obtain ⟨c0, c1⟩ := (unhide R).B.at2))
      go_ret2
      exact ⟨rfl, bT (below_a _ _) (bT (below_a _ _) (bT k1 k2))⟩
    · have d1 : decide (k < 9) = false := by simpa using h4
      have d2 : decide (24 < k) = true := by simp; omega
      go_enter Tryz.func17, Tryz.ntmps17
      go_wp2_with (first | (go_at_call 11; have K := k1; refine (unhide B2 _).mono ?_; rintro e w2 ⟨rfl, k2⟩; clear K) | (go_at_call 11; refine (unhide B1 _).mono ?_; rintro e w1 ⟨rfl, k1⟩; have R := hide (Duo.new k1); obtain ⟨c0, c1⟩ := (unhide R).B.at2))
      go_ret2
      exact ⟨rfl, bT (below_a _ _) (bT (below_a _ _) (bT k1 k2))⟩
theorem zero_mn {n z : Int} (s : Bool) (h : IsW n) : mn s n z = 0 ↔ cut n z = 0 := by
  have c0 := cut_lo h z
  have c1 := cut_lt h z
  have p := md_pos h
  constructor
  · intro e
    rw [← cut_mn s n z, e]
    unfold cut; simp
  · intro e
    unfold mn sgn
    rw [e]
    split
    · rw [if_pos (by omega)]
    · rfl
set_option maxRecDepth 100000 in
set_option maxHeartbeats 2000000 in
theorem rbinary_mul (a b x y : Int) (s t : Bool) (w : World) (hx : IsW x) (hy : IsW y) (ha : U a) (hb : U b) : Calls Tryz.prog 17 #[.int .i64 9, .int .u64 a, .int .u64 b, .agg #[.int .i64 x, .bool s], .agg #[.int .i64 y, .bool t]] w fun e w' => e = .returned (.tuple #[.int .u64 (wrk 9 (cs x s y t) (cb x y) (conv a x s (cb x y)) (conv b y t (cb x y))).1, .int .i64 (wrk 9 (cs x s y t) (cb x y) (conv a x s (cb x y)) (conv b y t (cb x y))).2]) ∧ Below w.heap.size w w' := by
  have hX := isW_c hx hy
  have uP : U (conv a x s (cb x y)) := u_conv hX
  have uQ : U (conv b y t (cb x y)) := u_conv hX
  have MP := hide (fun (w : World) => rmeant_any (conv a x s (cb x y)) (cb x y) (cs x s y t) w hX uP)
  have MQ := hide (fun (w : World) => rmeant_any (conv b y t (cb x y)) (cb x y) (cs x s y t) w hX uQ)
  have m1 := mn_abs hX (cs x s y t) (conv a x s (cb x y))
  have m2 := mn_abs hX (cs x s y t) (conv b y t (cb x y))
  have b8 : (18446744073709551616 : Nat) < 4294967296 ^ 8 := by decide
  have DO := hide (fun (w : World) => do_mul (conv a x s (cb x y)) (conv b y t (cb x y)) (cb x y) (cs x s y t) w hX uP uQ)
  rw [← cut_mul, cut_mn, cut_mn, cut_mul] at DO
  show Calls _ _ _ _ fun e w' => e = .returned (.tuple #[.int .u64 (cut (cb x y) ((conv a x s (cb x y)) * (conv b y t (cb x y)))), .int .i64 0]) ∧ _
  generalize mn (cs x s y t) (cb x y) (conv a x s (cb x y)) = M1 at *
  generalize mn (cs x s y t) (cb x y) (conv b y t (cb x y)) = M2 at *
  go_enter Tryz.func17, Tryz.ntmps17
  go_wp2_with fail
  refine (rvalid7_yes x s _ hx).mono ?_
  rintro e w1 ⟨rfl, k1⟩
  have R1 := hide (Duo.new k1)
  clear k1
  obtain ⟨x2, x3⟩ := (unhide R1).B.at2
  go_wp2_with fail
  refine (rvalid7_yes y t _ hy).mono ?_
  rintro e w2 ⟨rfl, k2⟩
  have R2 := hide ((unhide R1).step k2)
  clear k2 R1 x2 x3
  obtain ⟨x0, x1⟩ := (unhide R2).A.at2
  obtain ⟨x2, x3⟩ := (unhide R2).B.at2
  go_wp2_with fail
  refine (rcommon_any x s y t w2).mono ?_
  rintro e w3 ⟨rfl, k3⟩
  clear x0 x1 x2 x3
  have R3 := hide ((unhide R2).step k3)
  clear R2 k3
  go_wp2_with fail
  have R4 := hide ((unhide R3).more (T := 24) (u := .int .i64 (cb x y)) (v := .bool (cs x s y t)))
  generalize w3.alloc (.cells #[.int .i64 (cb x y), .bool (cs x s y t)] 24) = w4 at *
  generalize w3.heap.size = pt at *
  clear R3
  obtain ⟨x0, x1⟩ := (unhide R4).1.A.at2
  obtain ⟨x2, x3⟩ := (unhide R4).1.B.at2
  obtain ⟨x4, x5⟩ := (unhide R4).2.at2
  have l0 := (unhide R4).1.A.1
  have l1 := (unhide R4).1.B.1
  have l2 := (unhide R4).2.1
  refine wp_region_later (by kernel_rfl) (by kernel_rfl) ?_
  intro L hne lt hlc hlf hlm
  repeat (go_big_quiet_step ((go_at_call 14; exact later_call hlm (rconvert_any _ _ _ _ _ _ (by assumption) (by assumption) (by assumption)))))
  refine wpQuiet_nil ?_
  intro wq kq
  clear hlm hlf hlc lt hne L
  obtain ⟨hqc, hqf⟩ := below_cells kq
  clear x0 x1 x2 x3 x4 x5 l0 l1 l2 hqc hqf
  have R := hide ((unhide R4).1.step kq)
  have T := hide ((unhide R4).2.step kq)
  clear R4 kq
  obtain ⟨t0, t1⟩ := (unhide T).at2
  go_wp2_with fail
  refine reg_start (fun W => W.cell? ⟨pt, 0, none⟩ = some (.int .i64 (cb x y)) ∧ W.cell? ⟨pt, 1, none⟩ = some (.bool (cs x s y t))) (by kernel_rfl) ?_
  refine reg_seg 0 2 6 (by kernel_rfl) (by decide) (by kernel_rfl) (by kernel_rfl) (fun _ _ _ _ _ h => h) ?_
  simp only [List.take_succ_cons, List.take_zero, List.drop_succ_cons, List.drop_zero]
  repeat (refine wpSteady_step (fun K hK => ?_); go_simp; first | (refine steady_of ?_ (fun W hW => ?_) (hK _ ?_); rotate_left; (obtain ⟨c1, c2⟩ := hW; go_simp; first | done | rfl); clear hK K) | (refine hK _ ?_; clear hK K))
  refine wpSteady_nil ?_
  refine reg_seg 3 2 4 (by kernel_rfl) (by decide) (by kernel_rfl) (by kernel_rfl) (fun _ _ _ _ _ h => h) ?_
  simp only [List.take_succ_cons, List.take_zero, List.drop_succ_cons, List.drop_zero]
  repeat (refine wpSteady_step (fun K hK => ?_); go_simp; first | (refine steady_of ?_ (fun W hW => ?_) (hK _ ?_); rotate_left; (obtain ⟨c1, c2⟩ := hW; go_simp; first | done | rfl); clear hK K) | (refine hK _ ?_; clear hK K))
  refine wpSteady_nil ?_
  refine reg_one 2 3 (by kernel_rfl) (by kernel_rfl) ⟨t0, t1⟩ ?_
  simp only [List.take_succ_cons, List.take_zero, List.drop_succ_cons, List.drop_zero]
  go_wp2_with fail
  refine (unhide MP _).mono ?_
  rintro e w5 ⟨pp, rfl, hpp, k5, G5⟩
  have k5' : Below wq.heap.size wq w5 := bT (Below.refl _ _).drew k5
  have R' := hide ((unhide R).step k5')
  have T' := hide ((unhide T).step k5')
  have H5 := hide G5
  clear R T k5 k5' G5 t0 t1 hpp
  have R := R'
  have T := T'
  clear R' T'
  obtain ⟨t0, t1⟩ := (unhide T).at2
  go_wp2_with fail
  first | refine next_nil ?_ | refine next_go ?_
  refine reg_one 5 2 (by kernel_rfl) (by kernel_rfl) ⟨t0, t1⟩ ?_
  simp only [List.take_succ_cons, List.take_zero, List.drop_succ_cons, List.drop_zero]
  go_wp2_with fail
  refine (unhide MQ _).mono ?_
  rintro e w6 ⟨pq, rfl, hpq, k6, G6⟩
  have R' := hide ((unhide R).step k6)
  have T' := hide ((unhide T).step k6)
  have H5' := hide ((unhide H5).step k6)
  have H6 := hide G6
  clear R T k6 G6 t0 t1 H5 hpq
  have R := R'
  have T := T'
  clear R' T'
  obtain ⟨t0, t1⟩ := (unhide T).at2
  go_wp2_with fail
  first | refine next_nil ?_ | refine next_go ?_
  refine reg_one 6 1 (by kernel_rfl) (by kernel_rfl) ⟨t0, t1⟩ ?_
  simp only [List.take_succ_cons, List.take_zero, List.drop_succ_cons, List.drop_zero]
  go_wp2_with fail
  refine (cmp_big pp pq M1 M2 w6 (unhide H5') (unhide H6) (by omega) (by omega)).mono ?_
  rintro e w7 ⟨⟨jj, rfl⟩, rfl⟩
  have kd : Below w6.heap.size w6 (w6.drewN jj) := below_drewN (Below.refl _ _) jj
  have R' := hide ((unhide R).step kd)
  have T' := hide ((unhide T).step kd)
  clear R T kd t0 t1 H5' H6
  have R := R'
  have T := T'
  clear R' T'
  generalize w6.drewN jj = w7 at *
  obtain ⟨t0, t1⟩ := (unhide T).at2
  go_wp2_with fail
  first | refine next_nil ?_ | refine next_go ?_
  refine reg_one 7 0 (by kernel_rfl) (by kernel_rfl) ⟨t0, t1⟩ ?_
  simp only [List.take_succ_cons, List.take_zero, List.drop_succ_cons, List.drop_zero]
  go_wp2_with fail
  first | refine next_nil ?_ | refine next_go ?_
  refine reg_end (by kernel_rfl) ⟨t0, t1⟩ ?_
  go_wp2_with fail
  refine (unhide DO _).mono ?_
  rintro e w8 ⟨rfl, k8⟩
  go_wp2_with fail
  go_ret2
  exact ⟨rfl, bT (unhide R).bel k8⟩
set_option maxRecDepth 100000 in
set_option maxHeartbeats 2000000 in
theorem rbinary_add (a b x y : Int) (s t : Bool) (w : World) (hx : IsW x) (hy : IsW y) (ha : U a) (hb : U b) : Calls Tryz.prog 17 #[.int .i64 12, .int .u64 a, .int .u64 b, .agg #[.int .i64 x, .bool s], .agg #[.int .i64 y, .bool t]] w fun e w' => e = .returned (.tuple #[.int .u64 (wrk 12 (cs x s y t) (cb x y) (conv a x s (cb x y)) (conv b y t (cb x y))).1, .int .i64 (wrk 12 (cs x s y t) (cb x y) (conv a x s (cb x y)) (conv b y t (cb x y))).2]) ∧ Below w.heap.size w w' := by
  have hX := isW_c hx hy
  have uP : U (conv a x s (cb x y)) := u_conv hX
  have uQ : U (conv b y t (cb x y)) := u_conv hX
  have MP := hide (fun (w : World) => rmeant_any (conv a x s (cb x y)) (cb x y) (cs x s y t) w hX uP)
  have MQ := hide (fun (w : World) => rmeant_any (conv b y t (cb x y)) (cb x y) (cs x s y t) w hX uQ)
  have m1 := mn_abs hX (cs x s y t) (conv a x s (cb x y))
  have m2 := mn_abs hX (cs x s y t) (conv b y t (cb x y))
  have b8 : (18446744073709551616 : Nat) < 4294967296 ^ 8 := by decide
  have DO := hide (fun (w : World) => do_add (conv a x s (cb x y)) (conv b y t (cb x y)) (cb x y) (cs x s y t) w hX uP uQ)
  rw [← cut_add, cut_mn, cut_mn, cut_add] at DO
  show Calls _ _ _ _ fun e w' => e = .returned (.tuple #[.int .u64 (cut (cb x y) ((conv a x s (cb x y)) + (conv b y t (cb x y)))), .int .i64 0]) ∧ _
  generalize mn (cs x s y t) (cb x y) (conv a x s (cb x y)) = M1 at *
  generalize mn (cs x s y t) (cb x y) (conv b y t (cb x y)) = M2 at *
  go_enter Tryz.func17, Tryz.ntmps17
  go_wp2_with fail
  refine (rvalid7_yes x s _ hx).mono ?_
  rintro e w1 ⟨rfl, k1⟩
  have R1 := hide (Duo.new k1)
  clear k1
  obtain ⟨x2, x3⟩ := (unhide R1).B.at2
  go_wp2_with fail
  refine (rvalid7_yes y t _ hy).mono ?_
  rintro e w2 ⟨rfl, k2⟩
  have R2 := hide ((unhide R1).step k2)
  clear k2 R1 x2 x3
  obtain ⟨x0, x1⟩ := (unhide R2).A.at2
  obtain ⟨x2, x3⟩ := (unhide R2).B.at2
  go_wp2_with fail
  refine (rcommon_any x s y t w2).mono ?_
  rintro e w3 ⟨rfl, k3⟩
  clear x0 x1 x2 x3
  have R3 := hide ((unhide R2).step k3)
  clear R2 k3
  go_wp2_with fail
  have R4 := hide ((unhide R3).more (T := 24) (u := .int .i64 (cb x y)) (v := .bool (cs x s y t)))
  generalize w3.alloc (.cells #[.int .i64 (cb x y), .bool (cs x s y t)] 24) = w4 at *
  generalize w3.heap.size = pt at *
  clear R3
  obtain ⟨x0, x1⟩ := (unhide R4).1.A.at2
  obtain ⟨x2, x3⟩ := (unhide R4).1.B.at2
  obtain ⟨x4, x5⟩ := (unhide R4).2.at2
  have l0 := (unhide R4).1.A.1
  have l1 := (unhide R4).1.B.1
  have l2 := (unhide R4).2.1
  refine wp_region_later (by kernel_rfl) (by kernel_rfl) ?_
  intro L hne lt hlc hlf hlm
  repeat (go_big_quiet_step ((go_at_call 14; exact later_call hlm (rconvert_any _ _ _ _ _ _ (by assumption) (by assumption) (by assumption)))))
  refine wpQuiet_nil ?_
  intro wq kq
  clear hlm hlf hlc lt hne L
  obtain ⟨hqc, hqf⟩ := below_cells kq
  clear x0 x1 x2 x3 x4 x5 l0 l1 l2 hqc hqf
  have R := hide ((unhide R4).1.step kq)
  have T := hide ((unhide R4).2.step kq)
  clear R4 kq
  obtain ⟨t0, t1⟩ := (unhide T).at2
  go_wp2_with fail
  refine reg_start (fun W => W.cell? ⟨pt, 0, none⟩ = some (.int .i64 (cb x y)) ∧ W.cell? ⟨pt, 1, none⟩ = some (.bool (cs x s y t))) (by kernel_rfl) ?_
  refine reg_seg 0 2 6 (by kernel_rfl) (by decide) (by kernel_rfl) (by kernel_rfl) (fun _ _ _ _ _ h => h) ?_
  simp only [List.take_succ_cons, List.take_zero, List.drop_succ_cons, List.drop_zero]
  repeat (refine wpSteady_step (fun K hK => ?_); go_simp; first | (refine steady_of ?_ (fun W hW => ?_) (hK _ ?_); rotate_left; (obtain ⟨c1, c2⟩ := hW; go_simp; first | done | rfl); clear hK K) | (refine hK _ ?_; clear hK K))
  refine wpSteady_nil ?_
  refine reg_seg 3 2 4 (by kernel_rfl) (by decide) (by kernel_rfl) (by kernel_rfl) (fun _ _ _ _ _ h => h) ?_
  simp only [List.take_succ_cons, List.take_zero, List.drop_succ_cons, List.drop_zero]
  repeat (refine wpSteady_step (fun K hK => ?_); go_simp; first | (refine steady_of ?_ (fun W hW => ?_) (hK _ ?_); rotate_left; (obtain ⟨c1, c2⟩ := hW; go_simp; first | done | rfl); clear hK K) | (refine hK _ ?_; clear hK K))
  refine wpSteady_nil ?_
  refine reg_one 2 3 (by kernel_rfl) (by kernel_rfl) ⟨t0, t1⟩ ?_
  simp only [List.take_succ_cons, List.take_zero, List.drop_succ_cons, List.drop_zero]
  go_wp2_with fail
  refine (unhide MP _).mono ?_
  rintro e w5 ⟨pp, rfl, hpp, k5, G5⟩
  have k5' : Below wq.heap.size wq w5 := bT (Below.refl _ _).drew k5
  have R' := hide ((unhide R).step k5')
  have T' := hide ((unhide T).step k5')
  have H5 := hide G5
  clear R T k5 k5' G5 t0 t1 hpp
  have R := R'
  have T := T'
  clear R' T'
  obtain ⟨t0, t1⟩ := (unhide T).at2
  go_wp2_with fail
  first | refine next_nil ?_ | refine next_go ?_
  refine reg_one 5 2 (by kernel_rfl) (by kernel_rfl) ⟨t0, t1⟩ ?_
  simp only [List.take_succ_cons, List.take_zero, List.drop_succ_cons, List.drop_zero]
  go_wp2_with fail
  refine (unhide MQ _).mono ?_
  rintro e w6 ⟨pq, rfl, hpq, k6, G6⟩
  have R' := hide ((unhide R).step k6)
  have T' := hide ((unhide T).step k6)
  have H5' := hide ((unhide H5).step k6)
  have H6 := hide G6
  clear R T k6 G6 t0 t1 H5 hpq
  have R := R'
  have T := T'
  clear R' T'
  obtain ⟨t0, t1⟩ := (unhide T).at2
  go_wp2_with fail
  first | refine next_nil ?_ | refine next_go ?_
  refine reg_one 6 1 (by kernel_rfl) (by kernel_rfl) ⟨t0, t1⟩ ?_
  simp only [List.take_succ_cons, List.take_zero, List.drop_succ_cons, List.drop_zero]
  go_wp2_with fail
  refine (cmp_big pp pq M1 M2 w6 (unhide H5') (unhide H6) (by omega) (by omega)).mono ?_
  rintro e w7 ⟨⟨jj, rfl⟩, rfl⟩
  have kd : Below w6.heap.size w6 (w6.drewN jj) := below_drewN (Below.refl _ _) jj
  have R' := hide ((unhide R).step kd)
  have T' := hide ((unhide T).step kd)
  clear R T kd t0 t1 H5' H6
  have R := R'
  have T := T'
  clear R' T'
  generalize w6.drewN jj = w7 at *
  obtain ⟨t0, t1⟩ := (unhide T).at2
  go_wp2_with fail
  first | refine next_nil ?_ | refine next_go ?_
  refine reg_one 7 0 (by kernel_rfl) (by kernel_rfl) ⟨t0, t1⟩ ?_
  simp only [List.take_succ_cons, List.take_zero, List.drop_succ_cons, List.drop_zero]
  go_wp2_with fail
  first | refine next_nil ?_ | refine next_go ?_
  refine reg_end (by kernel_rfl) ⟨t0, t1⟩ ?_
  go_wp2_with fail
  refine (unhide DO _).mono ?_
  rintro e w8 ⟨rfl, k8⟩
  go_wp2_with fail
  go_ret2
  exact ⟨rfl, bT (unhide R).bel k8⟩
set_option maxRecDepth 100000 in
set_option maxHeartbeats 2000000 in
theorem rbinary_sub (a b x y : Int) (s t : Bool) (w : World) (hx : IsW x) (hy : IsW y) (ha : U a) (hb : U b) : Calls Tryz.prog 17 #[.int .i64 13, .int .u64 a, .int .u64 b, .agg #[.int .i64 x, .bool s], .agg #[.int .i64 y, .bool t]] w fun e w' => e = .returned (.tuple #[.int .u64 (wrk 13 (cs x s y t) (cb x y) (conv a x s (cb x y)) (conv b y t (cb x y))).1, .int .i64 (wrk 13 (cs x s y t) (cb x y) (conv a x s (cb x y)) (conv b y t (cb x y))).2]) ∧ Below w.heap.size w w' := by
  have hX := isW_c hx hy
  have uP : U (conv a x s (cb x y)) := u_conv hX
  have uQ : U (conv b y t (cb x y)) := u_conv hX
  have MP := hide (fun (w : World) => rmeant_any (conv a x s (cb x y)) (cb x y) (cs x s y t) w hX uP)
  have MQ := hide (fun (w : World) => rmeant_any (conv b y t (cb x y)) (cb x y) (cs x s y t) w hX uQ)
  have m1 := mn_abs hX (cs x s y t) (conv a x s (cb x y))
  have m2 := mn_abs hX (cs x s y t) (conv b y t (cb x y))
  have b8 : (18446744073709551616 : Nat) < 4294967296 ^ 8 := by decide
  have DO := hide (fun (w : World) => do_sub (conv a x s (cb x y)) (conv b y t (cb x y)) (cb x y) (cs x s y t) w hX uP uQ)
  rw [← cut_sub, cut_mn, cut_mn, cut_sub] at DO
  show Calls _ _ _ _ fun e w' => e = .returned (.tuple #[.int .u64 (cut (cb x y) ((conv a x s (cb x y)) - (conv b y t (cb x y)))), .int .i64 0]) ∧ _
  generalize mn (cs x s y t) (cb x y) (conv a x s (cb x y)) = M1 at *
  generalize mn (cs x s y t) (cb x y) (conv b y t (cb x y)) = M2 at *
  go_enter Tryz.func17, Tryz.ntmps17
  go_wp2_with fail
  refine (rvalid7_yes x s _ hx).mono ?_
  rintro e w1 ⟨rfl, k1⟩
  have R1 := hide (Duo.new k1)
  clear k1
  obtain ⟨x2, x3⟩ := (unhide R1).B.at2
  go_wp2_with fail
  refine (rvalid7_yes y t _ hy).mono ?_
  rintro e w2 ⟨rfl, k2⟩
  have R2 := hide ((unhide R1).step k2)
  clear k2 R1 x2 x3
  obtain ⟨x0, x1⟩ := (unhide R2).A.at2
  obtain ⟨x2, x3⟩ := (unhide R2).B.at2
  go_wp2_with fail
  refine (rcommon_any x s y t w2).mono ?_
  rintro e w3 ⟨rfl, k3⟩
  clear x0 x1 x2 x3
  have R3 := hide ((unhide R2).step k3)
  clear R2 k3
  go_wp2_with fail
  have R4 := hide ((unhide R3).more (T := 24) (u := .int .i64 (cb x y)) (v := .bool (cs x s y t)))
  generalize w3.alloc (.cells #[.int .i64 (cb x y), .bool (cs x s y t)] 24) = w4 at *
  generalize w3.heap.size = pt at *
  clear R3
  obtain ⟨x0, x1⟩ := (unhide R4).1.A.at2
  obtain ⟨x2, x3⟩ := (unhide R4).1.B.at2
  obtain ⟨x4, x5⟩ := (unhide R4).2.at2
  have l0 := (unhide R4).1.A.1
  have l1 := (unhide R4).1.B.1
  have l2 := (unhide R4).2.1
  refine wp_region_later (by kernel_rfl) (by kernel_rfl) ?_
  intro L hne lt hlc hlf hlm
  repeat (go_big_quiet_step ((go_at_call 14; exact later_call hlm (rconvert_any _ _ _ _ _ _ (by assumption) (by assumption) (by assumption)))))
  refine wpQuiet_nil ?_
  intro wq kq
  clear hlm hlf hlc lt hne L
  obtain ⟨hqc, hqf⟩ := below_cells kq
  clear x0 x1 x2 x3 x4 x5 l0 l1 l2 hqc hqf
  have R := hide ((unhide R4).1.step kq)
  have T := hide ((unhide R4).2.step kq)
  clear R4 kq
  obtain ⟨t0, t1⟩ := (unhide T).at2
  go_wp2_with fail
  refine reg_start (fun W => W.cell? ⟨pt, 0, none⟩ = some (.int .i64 (cb x y)) ∧ W.cell? ⟨pt, 1, none⟩ = some (.bool (cs x s y t))) (by kernel_rfl) ?_
  refine reg_seg 0 2 6 (by kernel_rfl) (by decide) (by kernel_rfl) (by kernel_rfl) (fun _ _ _ _ _ h => h) ?_
  simp only [List.take_succ_cons, List.take_zero, List.drop_succ_cons, List.drop_zero]
  repeat (refine wpSteady_step (fun K hK => ?_); go_simp; first | (refine steady_of ?_ (fun W hW => ?_) (hK _ ?_); rotate_left; (obtain ⟨c1, c2⟩ := hW; go_simp; first | done | rfl); clear hK K) | (refine hK _ ?_; clear hK K))
  refine wpSteady_nil ?_
  refine reg_seg 3 2 4 (by kernel_rfl) (by decide) (by kernel_rfl) (by kernel_rfl) (fun _ _ _ _ _ h => h) ?_
  simp only [List.take_succ_cons, List.take_zero, List.drop_succ_cons, List.drop_zero]
  repeat (refine wpSteady_step (fun K hK => ?_); go_simp; first | (refine steady_of ?_ (fun W hW => ?_) (hK _ ?_); rotate_left; (obtain ⟨c1, c2⟩ := hW; go_simp; first | done | rfl); clear hK K) | (refine hK _ ?_; clear hK K))
  refine wpSteady_nil ?_
  refine reg_one 2 3 (by kernel_rfl) (by kernel_rfl) ⟨t0, t1⟩ ?_
  simp only [List.take_succ_cons, List.take_zero, List.drop_succ_cons, List.drop_zero]
  go_wp2_with fail
  refine (unhide MP _).mono ?_
  rintro e w5 ⟨pp, rfl, hpp, k5, G5⟩
  have k5' : Below wq.heap.size wq w5 := bT (Below.refl _ _).drew k5
  have R' := hide ((unhide R).step k5')
  have T' := hide ((unhide T).step k5')
  have H5 := hide G5
  clear R T k5 k5' G5 t0 t1 hpp
  have R := R'
  have T := T'
  clear R' T'
  obtain ⟨t0, t1⟩ := (unhide T).at2
  go_wp2_with fail
  first | refine next_nil ?_ | refine next_go ?_
  refine reg_one 5 2 (by kernel_rfl) (by kernel_rfl) ⟨t0, t1⟩ ?_
  simp only [List.take_succ_cons, List.take_zero, List.drop_succ_cons, List.drop_zero]
  go_wp2_with fail
  refine (unhide MQ _).mono ?_
  rintro e w6 ⟨pq, rfl, hpq, k6, G6⟩
  have R' := hide ((unhide R).step k6)
  have T' := hide ((unhide T).step k6)
  have H5' := hide ((unhide H5).step k6)
  have H6 := hide G6
  clear R T k6 G6 t0 t1 H5 hpq
  have R := R'
  have T := T'
  clear R' T'
  obtain ⟨t0, t1⟩ := (unhide T).at2
  go_wp2_with fail
  first | refine next_nil ?_ | refine next_go ?_
  refine reg_one 6 1 (by kernel_rfl) (by kernel_rfl) ⟨t0, t1⟩ ?_
  simp only [List.take_succ_cons, List.take_zero, List.drop_succ_cons, List.drop_zero]
  go_wp2_with fail
  refine (cmp_big pp pq M1 M2 w6 (unhide H5') (unhide H6) (by omega) (by omega)).mono ?_
  rintro e w7 ⟨⟨jj, rfl⟩, rfl⟩
  have kd : Below w6.heap.size w6 (w6.drewN jj) := below_drewN (Below.refl _ _) jj
  have R' := hide ((unhide R).step kd)
  have T' := hide ((unhide T).step kd)
  clear R T kd t0 t1 H5' H6
  have R := R'
  have T := T'
  clear R' T'
  generalize w6.drewN jj = w7 at *
  obtain ⟨t0, t1⟩ := (unhide T).at2
  go_wp2_with fail
  first | refine next_nil ?_ | refine next_go ?_
  refine reg_one 7 0 (by kernel_rfl) (by kernel_rfl) ⟨t0, t1⟩ ?_
  simp only [List.take_succ_cons, List.take_zero, List.drop_succ_cons, List.drop_zero]
  go_wp2_with fail
  first | refine next_nil ?_ | refine next_go ?_
  refine reg_end (by kernel_rfl) ⟨t0, t1⟩ ?_
  go_wp2_with fail
  refine (unhide DO _).mono ?_
  rintro e w8 ⟨rfl, k8⟩
  go_wp2_with fail
  go_ret2
  exact ⟨rfl, bT (unhide R).bel k8⟩
set_option maxRecDepth 100000 in
set_option maxHeartbeats 2000000 in
theorem rbinary_div (a b x y : Int) (s t : Bool) (w : World) (hx : IsW x) (hy : IsW y) (ha : U a) (hb : U b) : Calls Tryz.prog 17 #[.int .i64 10, .int .u64 a, .int .u64 b, .agg #[.int .i64 x, .bool s], .agg #[.int .i64 y, .bool t]] w fun e w' => e = .returned (.tuple #[.int .u64 (wrk 10 (cs x s y t) (cb x y) (conv a x s (cb x y)) (conv b y t (cb x y))).1, .int .i64 (wrk 10 (cs x s y t) (cb x y) (conv a x s (cb x y)) (conv b y t (cb x y))).2]) ∧ Below w.heap.size w w' := by
  have hX := isW_c hx hy
  have uP : U (conv a x s (cb x y)) := u_conv hX
  have uQ : U (conv b y t (cb x y)) := u_conv hX
  have MP := hide (fun (w : World) => rmeant_any (conv a x s (cb x y)) (cb x y) (cs x s y t) w hX uP)
  have MQ := hide (fun (w : World) => rmeant_any (conv b y t (cb x y)) (cb x y) (cs x s y t) w hX uQ)
  have m1 := mn_abs hX (cs x s y t) (conv a x s (cb x y))
  have m2 := mn_abs hX (cs x s y t) (conv b y t (cb x y))
  have b8 : (18446744073709551616 : Nat) < 4294967296 ^ 8 := by decide
  have DO : Hid (∀ w : World, Calls Tryz.prog 36 #[.int .u8 47, .int .u64 (conv a x s (cb x y)), .int .u64 (conv b y t (cb x y)), .int .i64 (cb x y), .bool (cs x s y t)] w fun e w' => e = .returned (.tuple #[.int .u64 (wrk 10 (cs x s y t) (cb x y) (conv a x s (cb x y)) (conv b y t (cb x y))).1, .int .i64 (wrk 10 (cs x s y t) (cb x y) (conv a x s (cb x y)) (conv b y t (cb x y))).2]) ∧ Below w.heap.size w w') := by
    intro w
    by_cases hz : cut (cb x y) (conv b y t (cb x y)) = 0
    · have e1 : wrk 10 (cs x s y t) (cb x y) (conv a x s (cb x y)) (conv b y t (cb x y)) = (0, 10) := by simp [wrk, hz]
      rw [e1]
      exact do_div0 _ _ _ _ w hX uP uQ ((zero_mn _ hX).2 hz)
    · have e1 : wrk 10 (cs x s y t) (cb x y) (conv a x s (cb x y)) (conv b y t (cb x y)) = (cut (cb x y) ((mn (cs x s y t) (cb x y) (conv a x s (cb x y))).tdiv (mn (cs x s y t) (cb x y) (conv b y t (cb x y)))), 0) := by simp [wrk, hz]
      rw [e1]
      exact do_div _ _ _ _ w hX uP uQ (fun h => hz ((zero_mn _ hX).1 h))
  generalize (wrk 10 (cs x s y t) (cb x y) (conv a x s (cb x y)) (conv b y t (cb x y))).1 = V1 at *
  generalize (wrk 10 (cs x s y t) (cb x y) (conv a x s (cb x y)) (conv b y t (cb x y))).2 = V2 at *
  generalize mn (cs x s y t) (cb x y) (conv a x s (cb x y)) = M1 at *
  generalize mn (cs x s y t) (cb x y) (conv b y t (cb x y)) = M2 at *
  go_enter Tryz.func17, Tryz.ntmps17
  go_wp2_with fail
  refine (rvalid7_yes x s _ hx).mono ?_
  rintro e w1 ⟨rfl, k1⟩
  have R1 := hide (Duo.new k1)
  clear k1
  obtain ⟨x2, x3⟩ := (unhide R1).B.at2
  go_wp2_with fail
  refine (rvalid7_yes y t _ hy).mono ?_
  rintro e w2 ⟨rfl, k2⟩
  have R2 := hide ((unhide R1).step k2)
  clear k2 R1 x2 x3
  obtain ⟨x0, x1⟩ := (unhide R2).A.at2
  obtain ⟨x2, x3⟩ := (unhide R2).B.at2
  go_wp2_with fail
  refine (rcommon_any x s y t w2).mono ?_
  rintro e w3 ⟨rfl, k3⟩
  clear x0 x1 x2 x3
  have R3 := hide ((unhide R2).step k3)
  clear R2 k3
  go_wp2_with fail
  have R4 := hide ((unhide R3).more (T := 24) (u := .int .i64 (cb x y)) (v := .bool (cs x s y t)))
  generalize w3.alloc (.cells #[.int .i64 (cb x y), .bool (cs x s y t)] 24) = w4 at *
  generalize w3.heap.size = pt at *
  clear R3
  obtain ⟨x0, x1⟩ := (unhide R4).1.A.at2
  obtain ⟨x2, x3⟩ := (unhide R4).1.B.at2
  obtain ⟨x4, x5⟩ := (unhide R4).2.at2
  have l0 := (unhide R4).1.A.1
  have l1 := (unhide R4).1.B.1
  have l2 := (unhide R4).2.1
  refine wp_region_later (by kernel_rfl) (by kernel_rfl) ?_
  intro L hne lt hlc hlf hlm
  repeat (go_big_quiet_step ((go_at_call 14; exact later_call hlm (rconvert_any _ _ _ _ _ _ (by assumption) (by assumption) (by assumption)))))
  refine wpQuiet_nil ?_
  intro wq kq
  clear hlm hlf hlc lt hne L
  obtain ⟨hqc, hqf⟩ := below_cells kq
  clear x0 x1 x2 x3 x4 x5 l0 l1 l2 hqc hqf
  have R := hide ((unhide R4).1.step kq)
  have T := hide ((unhide R4).2.step kq)
  clear R4 kq
  obtain ⟨t0, t1⟩ := (unhide T).at2
  go_wp2_with fail
  refine reg_start (fun W => W.cell? ⟨pt, 0, none⟩ = some (.int .i64 (cb x y)) ∧ W.cell? ⟨pt, 1, none⟩ = some (.bool (cs x s y t))) (by kernel_rfl) ?_
  refine reg_seg 0 2 6 (by kernel_rfl) (by decide) (by kernel_rfl) (by kernel_rfl) (fun _ _ _ _ _ h => h) ?_
  simp only [List.take_succ_cons, List.take_zero, List.drop_succ_cons, List.drop_zero]
  repeat (refine wpSteady_step (fun K hK => ?_); go_simp; first | (refine steady_of ?_ (fun W hW => ?_) (hK _ ?_); rotate_left; (obtain ⟨c1, c2⟩ := hW; go_simp; first | done | rfl); clear hK K) | (refine hK _ ?_; clear hK K))
  refine wpSteady_nil ?_
  refine reg_seg 3 2 4 (by kernel_rfl) (by decide) (by kernel_rfl) (by kernel_rfl) (fun _ _ _ _ _ h => h) ?_
  simp only [List.take_succ_cons, List.take_zero, List.drop_succ_cons, List.drop_zero]
  repeat (refine wpSteady_step (fun K hK => ?_); go_simp; first | (refine steady_of ?_ (fun W hW => ?_) (hK _ ?_); rotate_left; (obtain ⟨c1, c2⟩ := hW; go_simp; first | done | rfl); clear hK K) | (refine hK _ ?_; clear hK K))
  refine wpSteady_nil ?_
  refine reg_one 2 3 (by kernel_rfl) (by kernel_rfl) ⟨t0, t1⟩ ?_
  simp only [List.take_succ_cons, List.take_zero, List.drop_succ_cons, List.drop_zero]
  go_wp2_with fail
  refine (unhide MP _).mono ?_
  rintro e w5 ⟨pp, rfl, hpp, k5, G5⟩
  have k5' : Below wq.heap.size wq w5 := bT (Below.refl _ _).drew k5
  have R' := hide ((unhide R).step k5')
  have T' := hide ((unhide T).step k5')
  have H5 := hide G5
  clear R T k5 k5' G5 t0 t1 hpp
  have R := R'
  have T := T'
  clear R' T'
  obtain ⟨t0, t1⟩ := (unhide T).at2
  go_wp2_with fail
  first | refine next_nil ?_ | refine next_go ?_
  refine reg_one 5 2 (by kernel_rfl) (by kernel_rfl) ⟨t0, t1⟩ ?_
  simp only [List.take_succ_cons, List.take_zero, List.drop_succ_cons, List.drop_zero]
  go_wp2_with fail
  refine (unhide MQ _).mono ?_
  rintro e w6 ⟨pq, rfl, hpq, k6, G6⟩
  have R' := hide ((unhide R).step k6)
  have T' := hide ((unhide T).step k6)
  have H5' := hide ((unhide H5).step k6)
  have H6 := hide G6
  clear R T k6 G6 t0 t1 H5 hpq
  have R := R'
  have T := T'
  clear R' T'
  obtain ⟨t0, t1⟩ := (unhide T).at2
  go_wp2_with fail
  first | refine next_nil ?_ | refine next_go ?_
  refine reg_one 6 1 (by kernel_rfl) (by kernel_rfl) ⟨t0, t1⟩ ?_
  simp only [List.take_succ_cons, List.take_zero, List.drop_succ_cons, List.drop_zero]
  go_wp2_with fail
  refine (cmp_big pp pq M1 M2 w6 (unhide H5') (unhide H6) (by omega) (by omega)).mono ?_
  rintro e w7 ⟨⟨jj, rfl⟩, rfl⟩
  have kd : Below w6.heap.size w6 (w6.drewN jj) := below_drewN (Below.refl _ _) jj
  have R' := hide ((unhide R).step kd)
  have T' := hide ((unhide T).step kd)
  clear R T kd t0 t1 H5' H6
  have R := R'
  have T := T'
  clear R' T'
  generalize w6.drewN jj = w7 at *
  obtain ⟨t0, t1⟩ := (unhide T).at2
  go_wp2_with fail
  first | refine next_nil ?_ | refine next_go ?_
  refine reg_one 7 0 (by kernel_rfl) (by kernel_rfl) ⟨t0, t1⟩ ?_
  simp only [List.take_succ_cons, List.take_zero, List.drop_succ_cons, List.drop_zero]
  go_wp2_with fail
  first | refine next_nil ?_ | refine next_go ?_
  refine reg_end (by kernel_rfl) ⟨t0, t1⟩ ?_
  go_wp2_with fail
  refine (unhide DO _).mono ?_
  rintro e w8 ⟨rfl, k8⟩
  go_wp2_with fail
  go_ret2
  exact ⟨rfl, bT (unhide R).bel k8⟩
set_option maxRecDepth 100000 in
set_option maxHeartbeats 2000000 in
theorem rbinary_rem (a b x y : Int) (s t : Bool) (w : World) (hx : IsW x) (hy : IsW y) (ha : U a) (hb : U b) : Calls Tryz.prog 17 #[.int .i64 11, .int .u64 a, .int .u64 b, .agg #[.int .i64 x, .bool s], .agg #[.int .i64 y, .bool t]] w fun e w' => e = .returned (.tuple #[.int .u64 (wrk 11 (cs x s y t) (cb x y) (conv a x s (cb x y)) (conv b y t (cb x y))).1, .int .i64 (wrk 11 (cs x s y t) (cb x y) (conv a x s (cb x y)) (conv b y t (cb x y))).2]) ∧ Below w.heap.size w w' := by
  have hX := isW_c hx hy
  have uP : U (conv a x s (cb x y)) := u_conv hX
  have uQ : U (conv b y t (cb x y)) := u_conv hX
  have MP := hide (fun (w : World) => rmeant_any (conv a x s (cb x y)) (cb x y) (cs x s y t) w hX uP)
  have MQ := hide (fun (w : World) => rmeant_any (conv b y t (cb x y)) (cb x y) (cs x s y t) w hX uQ)
  have m1 := mn_abs hX (cs x s y t) (conv a x s (cb x y))
  have m2 := mn_abs hX (cs x s y t) (conv b y t (cb x y))
  have b8 : (18446744073709551616 : Nat) < 4294967296 ^ 8 := by decide
  have DO : Hid (∀ w : World, Calls Tryz.prog 36 #[.int .u8 37, .int .u64 (conv a x s (cb x y)), .int .u64 (conv b y t (cb x y)), .int .i64 (cb x y), .bool (cs x s y t)] w fun e w' => e = .returned (.tuple #[.int .u64 (wrk 11 (cs x s y t) (cb x y) (conv a x s (cb x y)) (conv b y t (cb x y))).1, .int .i64 (wrk 11 (cs x s y t) (cb x y) (conv a x s (cb x y)) (conv b y t (cb x y))).2]) ∧ Below w.heap.size w w') := by
    intro w
    by_cases hz : cut (cb x y) (conv b y t (cb x y)) = 0
    · have e1 : wrk 11 (cs x s y t) (cb x y) (conv a x s (cb x y)) (conv b y t (cb x y)) = (0, 10) := by simp [wrk, hz]
      rw [e1]
      exact do_rem0 _ _ _ _ w hX uP uQ ((zero_mn _ hX).2 hz)
    · have e1 : wrk 11 (cs x s y t) (cb x y) (conv a x s (cb x y)) (conv b y t (cb x y)) = (cut (cb x y) ((mn (cs x s y t) (cb x y) (conv a x s (cb x y))).tmod (mn (cs x s y t) (cb x y) (conv b y t (cb x y)))), 0) := by simp [wrk, hz]
      rw [e1]
      exact do_rem _ _ _ _ w hX uP uQ (fun h => hz ((zero_mn _ hX).1 h))
  generalize (wrk 11 (cs x s y t) (cb x y) (conv a x s (cb x y)) (conv b y t (cb x y))).1 = V1 at *
  generalize (wrk 11 (cs x s y t) (cb x y) (conv a x s (cb x y)) (conv b y t (cb x y))).2 = V2 at *
  generalize mn (cs x s y t) (cb x y) (conv a x s (cb x y)) = M1 at *
  generalize mn (cs x s y t) (cb x y) (conv b y t (cb x y)) = M2 at *
  go_enter Tryz.func17, Tryz.ntmps17
  go_wp2_with fail
  refine (rvalid7_yes x s _ hx).mono ?_
  rintro e w1 ⟨rfl, k1⟩
  have R1 := hide (Duo.new k1)
  clear k1
  obtain ⟨x2, x3⟩ := (unhide R1).B.at2
  go_wp2_with fail
  refine (rvalid7_yes y t _ hy).mono ?_
  rintro e w2 ⟨rfl, k2⟩
  have R2 := hide ((unhide R1).step k2)
  clear k2 R1 x2 x3
  obtain ⟨x0, x1⟩ := (unhide R2).A.at2
  obtain ⟨x2, x3⟩ := (unhide R2).B.at2
  go_wp2_with fail
  refine (rcommon_any x s y t w2).mono ?_
  rintro e w3 ⟨rfl, k3⟩
  clear x0 x1 x2 x3
  have R3 := hide ((unhide R2).step k3)
  clear R2 k3
  go_wp2_with fail
  have R4 := hide ((unhide R3).more (T := 24) (u := .int .i64 (cb x y)) (v := .bool (cs x s y t)))
  generalize w3.alloc (.cells #[.int .i64 (cb x y), .bool (cs x s y t)] 24) = w4 at *
  generalize w3.heap.size = pt at *
  clear R3
  obtain ⟨x0, x1⟩ := (unhide R4).1.A.at2
  obtain ⟨x2, x3⟩ := (unhide R4).1.B.at2
  obtain ⟨x4, x5⟩ := (unhide R4).2.at2
  have l0 := (unhide R4).1.A.1
  have l1 := (unhide R4).1.B.1
  have l2 := (unhide R4).2.1
  refine wp_region_later (by kernel_rfl) (by kernel_rfl) ?_
  intro L hne lt hlc hlf hlm
  repeat (go_big_quiet_step ((go_at_call 14; exact later_call hlm (rconvert_any _ _ _ _ _ _ (by assumption) (by assumption) (by assumption)))))
  refine wpQuiet_nil ?_
  intro wq kq
  clear hlm hlf hlc lt hne L
  obtain ⟨hqc, hqf⟩ := below_cells kq
  clear x0 x1 x2 x3 x4 x5 l0 l1 l2 hqc hqf
  have R := hide ((unhide R4).1.step kq)
  have T := hide ((unhide R4).2.step kq)
  clear R4 kq
  obtain ⟨t0, t1⟩ := (unhide T).at2
  go_wp2_with fail
  refine reg_start (fun W => W.cell? ⟨pt, 0, none⟩ = some (.int .i64 (cb x y)) ∧ W.cell? ⟨pt, 1, none⟩ = some (.bool (cs x s y t))) (by kernel_rfl) ?_
  refine reg_seg 0 2 6 (by kernel_rfl) (by decide) (by kernel_rfl) (by kernel_rfl) (fun _ _ _ _ _ h => h) ?_
  simp only [List.take_succ_cons, List.take_zero, List.drop_succ_cons, List.drop_zero]
  repeat (refine wpSteady_step (fun K hK => ?_); go_simp; first | (refine steady_of ?_ (fun W hW => ?_) (hK _ ?_); rotate_left; (obtain ⟨c1, c2⟩ := hW; go_simp; first | done | rfl); clear hK K) | (refine hK _ ?_; clear hK K))
  refine wpSteady_nil ?_
  refine reg_seg 3 2 4 (by kernel_rfl) (by decide) (by kernel_rfl) (by kernel_rfl) (fun _ _ _ _ _ h => h) ?_
  simp only [List.take_succ_cons, List.take_zero, List.drop_succ_cons, List.drop_zero]
  repeat (refine wpSteady_step (fun K hK => ?_); go_simp; first | (refine steady_of ?_ (fun W hW => ?_) (hK _ ?_); rotate_left; (obtain ⟨c1, c2⟩ := hW; go_simp; first | done | rfl); clear hK K) | (refine hK _ ?_; clear hK K))
  refine wpSteady_nil ?_
  refine reg_one 2 3 (by kernel_rfl) (by kernel_rfl) ⟨t0, t1⟩ ?_
  simp only [List.take_succ_cons, List.take_zero, List.drop_succ_cons, List.drop_zero]
  go_wp2_with fail
  refine (unhide MP _).mono ?_
  rintro e w5 ⟨pp, rfl, hpp, k5, G5⟩
  have k5' : Below wq.heap.size wq w5 := bT (Below.refl _ _).drew k5
  have R' := hide ((unhide R).step k5')
  have T' := hide ((unhide T).step k5')
  have H5 := hide G5
  clear R T k5 k5' G5 t0 t1 hpp
  have R := R'
  have T := T'
  clear R' T'
  obtain ⟨t0, t1⟩ := (unhide T).at2
  go_wp2_with fail
  first | refine next_nil ?_ | refine next_go ?_
  refine reg_one 5 2 (by kernel_rfl) (by kernel_rfl) ⟨t0, t1⟩ ?_
  simp only [List.take_succ_cons, List.take_zero, List.drop_succ_cons, List.drop_zero]
  go_wp2_with fail
  refine (unhide MQ _).mono ?_
  rintro e w6 ⟨pq, rfl, hpq, k6, G6⟩
  have R' := hide ((unhide R).step k6)
  have T' := hide ((unhide T).step k6)
  have H5' := hide ((unhide H5).step k6)
  have H6 := hide G6
  clear R T k6 G6 t0 t1 H5 hpq
  have R := R'
  have T := T'
  clear R' T'
  obtain ⟨t0, t1⟩ := (unhide T).at2
  go_wp2_with fail
  first | refine next_nil ?_ | refine next_go ?_
  refine reg_one 6 1 (by kernel_rfl) (by kernel_rfl) ⟨t0, t1⟩ ?_
  simp only [List.take_succ_cons, List.take_zero, List.drop_succ_cons, List.drop_zero]
  go_wp2_with fail
  refine (cmp_big pp pq M1 M2 w6 (unhide H5') (unhide H6) (by omega) (by omega)).mono ?_
  rintro e w7 ⟨⟨jj, rfl⟩, rfl⟩
  have kd : Below w6.heap.size w6 (w6.drewN jj) := below_drewN (Below.refl _ _) jj
  have R' := hide ((unhide R).step kd)
  have T' := hide ((unhide T).step kd)
  clear R T kd t0 t1 H5' H6
  have R := R'
  have T := T'
  clear R' T'
  generalize w6.drewN jj = w7 at *
  obtain ⟨t0, t1⟩ := (unhide T).at2
  go_wp2_with fail
  first | refine next_nil ?_ | refine next_go ?_
  refine reg_one 7 0 (by kernel_rfl) (by kernel_rfl) ⟨t0, t1⟩ ?_
  simp only [List.take_succ_cons, List.take_zero, List.drop_succ_cons, List.drop_zero]
  go_wp2_with fail
  first | refine next_nil ?_ | refine next_go ?_
  refine reg_end (by kernel_rfl) ⟨t0, t1⟩ ?_
  go_wp2_with fail
  refine (unhide DO _).mono ?_
  rintro e w8 ⟨rfl, k8⟩
  go_wp2_with fail
  go_ret2
  exact ⟨rfl, bT (unhide R).bel k8⟩
end Go.Proofs.YtdmniecdfakbcaaGreat
