/-
  The document's answer on types of numbers: Binary, bits. (Written by mkR7C.py.)
-/
import Derived.Test.YtdmniecdfakbcaaGreatR7C
namespace Go.Proofs.YtdmniecdfakbcaaGreat
open Go.RowKit
set_option linter.unusedSimpArgs false
set_option linter.unusedVariables false

set_option maxRecDepth 100000 in
set_option maxHeartbeats 2000000 in
theorem rbinary_and (a b x y : Int) (s t : Bool) (w : World) (hx : IsW x) (hy : IsW y) (ha : U a) (hb : U b) : Calls Tryz.prog 17 #[.int .i64 22, .int .u64 a, .int .u64 b, .agg #[.int .i64 x, .bool s], .agg #[.int .i64 y, .bool t]] w fun e w' => e = .returned (.tuple #[.int .u64 (wrk 22 (cs x s y t) (cb x y) (conv a x s (cb x y)) (conv b y t (cb x y))).1, .int .i64 (wrk 22 (cs x s y t) (cb x y) (conv a x s (cb x y)) (conv b y t (cb x y))).2]) ∧ Below w.heap.size w w' := by
  have hX := isW_c hx hy
  have uP : U (conv a x s (cb x y)) := u_conv hX
  have uQ : U (conv b y t (cb x y)) := u_conv hX
  have MP := hide (fun (w : World) => rmeant_any (conv a x s (cb x y)) (cb x y) (cs x s y t) w hX uP)
  have MQ := hide (fun (w : World) => rmeant_any (conv b y t (cb x y)) (cb x y) (cs x s y t) w hX uQ)
  have m1 := mn_abs hX (cs x s y t) (conv a x s (cb x y))
  have m2 := mn_abs hX (cs x s y t) (conv b y t (cb x y))
  have b8 : (18446744073709551616 : Nat) < 4294967296 ^ 8 := by decide
  show Calls _ _ _ _ fun e w' => e = .returned (.tuple #[.int .u64 (bits .and .u64 (conv a x s (cb x y)) (conv b y t (cb x y))), .int .i64 0]) ∧ _
  have ub : (bits .and .u64 (conv a x s (cb x y)) (conv b y t (cb x y))).natAbs < 18446744073709551616 ∧ 0 ≤ bits .and .u64 (conv a x s (cb x y)) (conv b y t (cb x y)) := by
    have := bits_within .and .u64 (conv a x s (cb x y)) (conv b y t (cb x y))
    have h1 : IntKind.u64.min = 0 := rfl
    have h2 : IntKind.u64.max = 18446744073709551615 := rfl
    omega
  have WP := hide (fun (w : World) => whole_any (conv a x s (cb x y)) w uP)
  have WQ := hide (fun (w : World) => whole_any (conv b y t (cb x y)) w uQ)
  have BT := hide (fun p q r w hp hq hr => bit_and p q r (conv a x s (cb x y)) (conv b y t (cb x y)) w hp hq hr uP uQ)
  have ub2 := ub.2
  have ub1 := ub.1
  clear ub
  generalize bits .and .u64 (conv a x s (cb x y)) (conv b y t (cb x y)) = V at *
  generalize mn (cs x s y t) (cb x y) (conv a x s (cb x y)) = M1 at *
  generalize mn (cs x s y t) (cb x y) (conv b y t (cb x y)) = M2 at *
  go_enter Tryz.func17, Tryz.ntmps17
  go_wp2_with fail
  refine (rvalid7_yes x s _ hx).mono ?_
  rintro e w1 ⟨rfl, k1⟩
  have R1 := hide (Duo.new k1)
  clear k1
  obtain ⟨x2, x3⟩ := (unhide R1).B.at2
  go_wp2_with fail
  refine (rvalid7_yes y t _ hy).mono ?_
  rintro e w2 ⟨rfl, k2⟩
  have R2 := hide ((unhide R1).step k2)
  clear k2 R1 x2 x3
  obtain ⟨x0, x1⟩ := (unhide R2).A.at2
  obtain ⟨x2, x3⟩ := (unhide R2).B.at2
  go_wp2_with fail
  refine (rcommon_any x s y t w2).mono ?_
  rintro e w3 ⟨rfl, k3⟩
  clear x0 x1 x2 x3
  have R3 := hide ((unhide R2).step k3)
  clear R2 k3
  go_wp2_with fail
  have R4 := hide ((unhide R3).more (T := 24) (u := .int .i64 (cb x y)) (v := .bool (cs x s y t)))
  generalize w3.alloc (.cells #[.int .i64 (cb x y), .bool (cs x s y t)] 24) = w4 at *
  generalize w3.heap.size = pt at *
  clear R3
  obtain ⟨x0, x1⟩ := (unhide R4).1.A.at2
  obtain ⟨x2, x3⟩ := (unhide R4).1.B.at2
  obtain ⟨x4, x5⟩ := (unhide R4).2.at2
  have l0 := (unhide R4).1.A.1
  have l1 := (unhide R4).1.B.1
  have l2 := (unhide R4).2.1
  refine wp_region_later (by kernel_rfl) (by kernel_rfl) ?_
  intro L hne lt hlc hlf hlm
  repeat (go_big_quiet_step ((go_at_call 14; exact later_call hlm (rconvert_any _ _ _ _ _ _ (by assumption) (by assumption) (by assumption)))))
  refine wpQuiet_nil ?_
  intro wq kq
  clear hlm hlf hlc lt hne L
  obtain ⟨hqc, hqf⟩ := below_cells kq
  clear x0 x1 x2 x3 x4 x5 l0 l1 l2 hqc hqf
  have R := hide ((unhide R4).1.step kq)
  have T := hide ((unhide R4).2.step kq)
  clear R4 kq
  obtain ⟨t0, t1⟩ := (unhide T).at2
  go_wp2_with fail
  refine reg_start (fun W => W.cell? ⟨pt, 0, none⟩ = some (.int .i64 (cb x y)) ∧ W.cell? ⟨pt, 1, none⟩ = some (.bool (cs x s y t))) (by kernel_rfl) ?_
  refine reg_seg 0 2 6 (by kernel_rfl) (by decide) (by kernel_rfl) (by kernel_rfl) (fun _ _ _ _ _ h => h) ?_
  simp only [List.take_succ_cons, List.take_zero, List.drop_succ_cons, List.drop_zero]
  repeat (refine wpSteady_step (fun K hK => ?_); go_simp; first | (refine steady_of ?_ (fun W hW => ?_) (hK _ ?_); rotate_left; (obtain ⟨c1, c2⟩ := hW; go_simp; first | done | rfl); clear hK K) | (refine hK _ ?_; clear hK K))
  refine wpSteady_nil ?_
  refine reg_seg 3 2 4 (by kernel_rfl) (by decide) (by kernel_rfl) (by kernel_rfl) (fun _ _ _ _ _ h => h) ?_
  simp only [List.take_succ_cons, List.take_zero, List.drop_succ_cons, List.drop_zero]
  repeat (refine wpSteady_step (fun K hK => ?_); go_simp; first | (refine steady_of ?_ (fun W hW => ?_) (hK _ ?_); rotate_left; (obtain ⟨c1, c2⟩ := hW; go_simp; first | done | rfl); clear hK K) | (refine hK _ ?_; clear hK K))
  refine wpSteady_nil ?_
  refine reg_one 2 3 (by kernel_rfl) (by kernel_rfl) ⟨t0, t1⟩ ?_
  simp only [List.take_succ_cons, List.take_zero, List.drop_succ_cons, List.drop_zero]
  go_wp2_with fail
  refine (unhide MP _).mono ?_
  rintro e w5 ⟨pp, rfl, hpp, k5, G5⟩
  have k5' : Below wq.heap.size wq w5 := bT (Below.refl _ _).drew k5
  have R' := hide ((unhide R).step k5')
  have T' := hide ((unhide T).step k5')
  have H5 := hide G5
  clear R T k5 k5' G5 t0 t1 hpp
  have R := R'
  have T := T'
  clear R' T'
  obtain ⟨t0, t1⟩ := (unhide T).at2
  go_wp2_with fail
  first | refine next_nil ?_ | refine next_go ?_
  refine reg_one 5 2 (by kernel_rfl) (by kernel_rfl) ⟨t0, t1⟩ ?_
  simp only [List.take_succ_cons, List.take_zero, List.drop_succ_cons, List.drop_zero]
  go_wp2_with fail
  refine (unhide MQ _).mono ?_
  rintro e w6 ⟨pq, rfl, hpq, k6, G6⟩
  have R' := hide ((unhide R).step k6)
  have T' := hide ((unhide T).step k6)
  have H5' := hide ((unhide H5).step k6)
  have H6 := hide G6
  clear R T k6 G6 t0 t1 H5 hpq
  have R := R'
  have T := T'
  clear R' T'
  obtain ⟨t0, t1⟩ := (unhide T).at2
  go_wp2_with fail
  first | refine next_nil ?_ | refine next_go ?_
  refine reg_one 6 1 (by kernel_rfl) (by kernel_rfl) ⟨t0, t1⟩ ?_
  simp only [List.take_succ_cons, List.take_zero, List.drop_succ_cons, List.drop_zero]
  go_wp2_with fail
  refine (cmp_big pp pq M1 M2 w6 (unhide H5') (unhide H6) (by omega) (by omega)).mono ?_
  rintro e w7 ⟨⟨jj, rfl⟩, rfl⟩
  have kd : Below w6.heap.size w6 (w6.drewN jj) := below_drewN (Below.refl _ _) jj
  have R' := hide ((unhide R).step kd)
  have T' := hide ((unhide T).step kd)
  clear R T kd t0 t1 H5' H6
  have R := R'
  have T := T'
  clear R' T'
  generalize w6.drewN jj = w7 at *
  obtain ⟨t0, t1⟩ := (unhide T).at2
  go_wp2_with fail
  first | refine next_nil ?_ | refine next_go ?_
  refine reg_one 7 0 (by kernel_rfl) (by kernel_rfl) ⟨t0, t1⟩ ?_
  simp only [List.take_succ_cons, List.take_zero, List.drop_succ_cons, List.drop_zero]
  go_wp2_with fail
  first | refine next_nil ?_ | refine next_go ?_
  refine reg_end (by kernel_rfl) ⟨t0, t1⟩ ?_
  have NB := hide (Big.new w7).int
  have kz := hide (below_a w7 (.cells #[.bool false, .slice none 0 0] 69))
  clear T t0 t1
  go_wp2_with fail
  generalize w7.alloc (.cells #[.bool false, .slice none 0 0] 69) = w8 at *
  refine (unhide WP w8).mono ?_
  rintro e w9 ⟨rfl, k9, B9⟩
  have K9 := hide k9
  have H9 := hide B9
  clear k9 B9
  go_wp2_with fail
  refine (unhide WQ w9).mono ?_
  rintro e wa ⟨rfl, ka, Ba⟩
  have Ka := hide ka
  have Ha := hide Ba
  have H9a := hide ((unhide H9).step ka)
  have NBa := hide (((unhide NB).step (unhide K9)).step ka)
  have l9 := (unhide H9).lt
  clear ka Ba H9 NB
  go_wp2_with fail
  refine (unhide BT w7.heap.size w8.heap.size w9.heap.size wa (unhide NBa) (unhide H9a) (unhide Ha)).mono ?_
  rintro e wb ⟨rfl, kb, Bb⟩
  have s7 := (unhide kz).size
  have K7 : Hid (Below w7.heap.size w7 wb) := by
    have q1 := bT (unhide kz) (bT (unhide K9) (unhide Ka))
    exact q1.trans (kb.below (Nat.le_refl _) q1.size)
  have Hb := hide Bb
  clear kb Bb NBa H9a Ha
  go_wp2_with fail
  have UI := uint_any w7.heap.size V wb (unhide Hb) ub1
  rw [show ((V.natAbs : Nat) : Int) = V by omega] at UI
  refine UI.mono ?_
  rintro e wc ⟨hwc, rfl⟩
  subst wc
  go_wp2_with fail
  go_ret2
  exact ⟨rfl, bT (unhide R).bel (unhide K7)⟩
set_option maxRecDepth 100000 in
set_option maxHeartbeats 2000000 in
theorem rbinary_xor (a b x y : Int) (s t : Bool) (w : World) (hx : IsW x) (hy : IsW y) (ha : U a) (hb : U b) : Calls Tryz.prog 17 #[.int .i64 23, .int .u64 a, .int .u64 b, .agg #[.int .i64 x, .bool s], .agg #[.int .i64 y, .bool t]] w fun e w' => e = .returned (.tuple #[.int .u64 (wrk 23 (cs x s y t) (cb x y) (conv a x s (cb x y)) (conv b y t (cb x y))).1, .int .i64 (wrk 23 (cs x s y t) (cb x y) (conv a x s (cb x y)) (conv b y t (cb x y))).2]) ∧ Below w.heap.size w w' := by
  have hX := isW_c hx hy
  have uP : U (conv a x s (cb x y)) := u_conv hX
  have uQ : U (conv b y t (cb x y)) := u_conv hX
  have MP := hide (fun (w : World) => rmeant_any (conv a x s (cb x y)) (cb x y) (cs x s y t) w hX uP)
  have MQ := hide (fun (w : World) => rmeant_any (conv b y t (cb x y)) (cb x y) (cs x s y t) w hX uQ)
  have m1 := mn_abs hX (cs x s y t) (conv a x s (cb x y))
  have m2 := mn_abs hX (cs x s y t) (conv b y t (cb x y))
  have b8 : (18446744073709551616 : Nat) < 4294967296 ^ 8 := by decide
  show Calls _ _ _ _ fun e w' => e = .returned (.tuple #[.int .u64 (bits .xor .u64 (conv a x s (cb x y)) (conv b y t (cb x y))), .int .i64 0]) ∧ _
  have ub : (bits .xor .u64 (conv a x s (cb x y)) (conv b y t (cb x y))).natAbs < 18446744073709551616 ∧ 0 ≤ bits .xor .u64 (conv a x s (cb x y)) (conv b y t (cb x y)) := by
    have := bits_within .xor .u64 (conv a x s (cb x y)) (conv b y t (cb x y))
    have h1 : IntKind.u64.min = 0 := rfl
    have h2 : IntKind.u64.max = 18446744073709551615 := rfl
    omega
  have WP := hide (fun (w : World) => whole_any (conv a x s (cb x y)) w uP)
  have WQ := hide (fun (w : World) => whole_any (conv b y t (cb x y)) w uQ)
  have BT := hide (fun p q r w hp hq hr => bit_xor p q r (conv a x s (cb x y)) (conv b y t (cb x y)) w hp hq hr uP uQ)
  have ub2 := ub.2
  have ub1 := ub.1
  clear ub
  generalize bits .xor .u64 (conv a x s (cb x y)) (conv b y t (cb x y)) = V at *
  generalize mn (cs x s y t) (cb x y) (conv a x s (cb x y)) = M1 at *
  generalize mn (cs x s y t) (cb x y) (conv b y t (cb x y)) = M2 at *
  go_enter Tryz.func17, Tryz.ntmps17
  go_wp2_with fail
  refine (rvalid7_yes x s _ hx).mono ?_
  rintro e w1 ⟨rfl, k1⟩
  have R1 := hide (Duo.new k1)
  clear k1
  obtain ⟨x2, x3⟩ := (unhide R1).B.at2
  go_wp2_with fail
  refine (rvalid7_yes y t _ hy).mono ?_
  rintro e w2 ⟨rfl, k2⟩
  have R2 := hide ((unhide R1).step k2)
  clear k2 R1 x2 x3
  obtain ⟨x0, x1⟩ := (unhide R2).A.at2
  obtain ⟨x2, x3⟩ := (unhide R2).B.at2
  go_wp2_with fail
  refine (rcommon_any x s y t w2).mono ?_
  rintro e w3 ⟨rfl, k3⟩
  clear x0 x1 x2 x3
  have R3 := hide ((unhide R2).step k3)
  clear R2 k3
  go_wp2_with fail
  have R4 := hide ((unhide R3).more (T := 24) (u := .int .i64 (cb x y)) (v := .bool (cs x s y t)))
  generalize w3.alloc (.cells #[.int .i64 (cb x y), .bool (cs x s y t)] 24) = w4 at *
  generalize w3.heap.size = pt at *
  clear R3
  obtain ⟨x0, x1⟩ := (unhide R4).1.A.at2
  obtain ⟨x2, x3⟩ := (unhide R4).1.B.at2
  obtain ⟨x4, x5⟩ := (unhide R4).2.at2
  have l0 := (unhide R4).1.A.1
  have l1 := (unhide R4).1.B.1
  have l2 := (unhide R4).2.1
  refine wp_region_later (by kernel_rfl) (by kernel_rfl) ?_
  intro L hne lt hlc hlf hlm
  repeat (go_big_quiet_step ((go_at_call 14; exact later_call hlm (rconvert_any _ _ _ _ _ _ (by assumption) (by assumption) (by assumption)))))
  refine wpQuiet_nil ?_
  intro wq kq
  clear hlm hlf hlc lt hne L
  obtain ⟨hqc, hqf⟩ := below_cells kq
  clear x0 x1 x2 x3 x4 x5 l0 l1 l2 hqc hqf
  have R := hide ((unhide R4).1.step kq)
  have T := hide ((unhide R4).2.step kq)
  clear R4 kq
  obtain ⟨t0, t1⟩ := (unhide T).at2
  go_wp2_with fail
  refine reg_start (fun W => W.cell? ⟨pt, 0, none⟩ = some (.int .i64 (cb x y)) ∧ W.cell? ⟨pt, 1, none⟩ = some (.bool (cs x s y t))) (by kernel_rfl) ?_
  refine reg_seg 0 2 6 (by kernel_rfl) (by decide) (by kernel_rfl) (by kernel_rfl) (fun _ _ _ _ _ h => h) ?_
  simp only [List.take_succ_cons, List.take_zero, List.drop_succ_cons, List.drop_zero]
  repeat (refine wpSteady_step (fun K hK => ?_); go_simp; first | (refine steady_of ?_ (fun W hW => ?_) (hK _ ?_); rotate_left; (obtain ⟨c1, c2⟩ := hW; go_simp; first | done | rfl); clear hK K) | (refine hK _ ?_; clear hK K))
  refine wpSteady_nil ?_
  refine reg_seg 3 2 4 (by kernel_rfl) (by decide) (by kernel_rfl) (by kernel_rfl) (fun _ _ _ _ _ h => h) ?_
  simp only [List.take_succ_cons, List.take_zero, List.drop_succ_cons, List.drop_zero]
  repeat (refine wpSteady_step (fun K hK => ?_); go_simp; first | (refine steady_of ?_ (fun W hW => ?_) (hK _ ?_); rotate_left; (obtain ⟨c1, c2⟩ := hW; go_simp; first | done | rfl); clear hK K) | (refine hK _ ?_; clear hK K))
  refine wpSteady_nil ?_
  refine reg_one 2 3 (by kernel_rfl) (by kernel_rfl) ⟨t0, t1⟩ ?_
  simp only [List.take_succ_cons, List.take_zero, List.drop_succ_cons, List.drop_zero]
  go_wp2_with fail
  refine (unhide MP _).mono ?_
  rintro e w5 ⟨pp, rfl, hpp, k5, G5⟩
  have k5' : Below wq.heap.size wq w5 := bT (Below.refl _ _).drew k5
  have R' := hide ((unhide R).step k5')
  have T' := hide ((unhide T).step k5')
  have H5 := hide G5
  clear R T k5 k5' G5 t0 t1 hpp
  have R := R'
  have T := T'
  clear R' T'
  obtain ⟨t0, t1⟩ := (unhide T).at2
  go_wp2_with fail
  first | refine next_nil ?_ | refine next_go ?_
  refine reg_one 5 2 (by kernel_rfl) (by kernel_rfl) ⟨t0, t1⟩ ?_
  simp only [List.take_succ_cons, List.take_zero, List.drop_succ_cons, List.drop_zero]
  go_wp2_with fail
  refine (unhide MQ _).mono ?_
  rintro e w6 ⟨pq, rfl, hpq, k6, G6⟩
  have R' := hide ((unhide R).step k6)
  have T' := hide ((unhide T).step k6)
  have H5' := hide ((unhide H5).step k6)
  have H6 := hide G6
  clear R T k6 G6 t0 t1 H5 hpq
  have R := R'
  have T := T'
  clear R' T'
  obtain ⟨t0, t1⟩ := (unhide T).at2
  go_wp2_with fail
  first | refine next_nil ?_ | refine next_go ?_
  refine reg_one 6 1 (by kernel_rfl) (by kernel_rfl) ⟨t0, t1⟩ ?_
  simp only [List.take_succ_cons, List.take_zero, List.drop_succ_cons, List.drop_zero]
  go_wp2_with fail
  refine (cmp_big pp pq M1 M2 w6 (unhide H5') (unhide H6) (by omega) (by omega)).mono ?_
  rintro e w7 ⟨⟨jj, rfl⟩, rfl⟩
  have kd : Below w6.heap.size w6 (w6.drewN jj) := below_drewN (Below.refl _ _) jj
  have R' := hide ((unhide R).step kd)
  have T' := hide ((unhide T).step kd)
  clear R T kd t0 t1 H5' H6
  have R := R'
  have T := T'
  clear R' T'
  generalize w6.drewN jj = w7 at *
  obtain ⟨t0, t1⟩ := (unhide T).at2
  go_wp2_with fail
  first | refine next_nil ?_ | refine next_go ?_
  refine reg_one 7 0 (by kernel_rfl) (by kernel_rfl) ⟨t0, t1⟩ ?_
  simp only [List.take_succ_cons, List.take_zero, List.drop_succ_cons, List.drop_zero]
  go_wp2_with fail
  first | refine next_nil ?_ | refine next_go ?_
  refine reg_end (by kernel_rfl) ⟨t0, t1⟩ ?_
  have NB := hide (Big.new w7).int
  have kz := hide (below_a w7 (.cells #[.bool false, .slice none 0 0] 69))
  clear T t0 t1
  go_wp2_with fail
  generalize w7.alloc (.cells #[.bool false, .slice none 0 0] 69) = w8 at *
  refine (unhide WP w8).mono ?_
  rintro e w9 ⟨rfl, k9, B9⟩
  have K9 := hide k9
  have H9 := hide B9
  clear k9 B9
  go_wp2_with fail
  refine (unhide WQ w9).mono ?_
  rintro e wa ⟨rfl, ka, Ba⟩
  have Ka := hide ka
  have Ha := hide Ba
  have H9a := hide ((unhide H9).step ka)
  have NBa := hide (((unhide NB).step (unhide K9)).step ka)
  have l9 := (unhide H9).lt
  clear ka Ba H9 NB
  go_wp2_with fail
  refine (unhide BT w7.heap.size w8.heap.size w9.heap.size wa (unhide NBa) (unhide H9a) (unhide Ha)).mono ?_
  rintro e wb ⟨rfl, kb, Bb⟩
  have s7 := (unhide kz).size
  have K7 : Hid (Below w7.heap.size w7 wb) := by
    have q1 := bT (unhide kz) (bT (unhide K9) (unhide Ka))
    exact q1.trans (kb.below (Nat.le_refl _) q1.size)
  have Hb := hide Bb
  clear kb Bb NBa H9a Ha
  go_wp2_with fail
  have UI := uint_any w7.heap.size V wb (unhide Hb) ub1
  rw [show ((V.natAbs : Nat) : Int) = V by omega] at UI
  refine UI.mono ?_
  rintro e wc ⟨hwc, rfl⟩
  subst wc
  go_wp2_with fail
  go_ret2
  exact ⟨rfl, bT (unhide R).bel (unhide K7)⟩
set_option maxRecDepth 100000 in
set_option maxHeartbeats 2000000 in
theorem rbinary_or (a b x y : Int) (s t : Bool) (w : World) (hx : IsW x) (hy : IsW y) (ha : U a) (hb : U b) : Calls Tryz.prog 17 #[.int .i64 24, .int .u64 a, .int .u64 b, .agg #[.int .i64 x, .bool s], .agg #[.int .i64 y, .bool t]] w fun e w' => e = .returned (.tuple #[.int .u64 (wrk 24 (cs x s y t) (cb x y) (conv a x s (cb x y)) (conv b y t (cb x y))).1, .int .i64 (wrk 24 (cs x s y t) (cb x y) (conv a x s (cb x y)) (conv b y t (cb x y))).2]) ∧ Below w.heap.size w w' := by
  have hX := isW_c hx hy
  have uP : U (conv a x s (cb x y)) := u_conv hX
  have uQ : U (conv b y t (cb x y)) := u_conv hX
  have MP := hide (fun (w : World) => rmeant_any (conv a x s (cb x y)) (cb x y) (cs x s y t) w hX uP)
  have MQ := hide (fun (w : World) => rmeant_any (conv b y t (cb x y)) (cb x y) (cs x s y t) w hX uQ)
  have m1 := mn_abs hX (cs x s y t) (conv a x s (cb x y))
  have m2 := mn_abs hX (cs x s y t) (conv b y t (cb x y))
  have b8 : (18446744073709551616 : Nat) < 4294967296 ^ 8 := by decide
  show Calls _ _ _ _ fun e w' => e = .returned (.tuple #[.int .u64 (bits .or .u64 (conv a x s (cb x y)) (conv b y t (cb x y))), .int .i64 0]) ∧ _
  have ub : (bits .or .u64 (conv a x s (cb x y)) (conv b y t (cb x y))).natAbs < 18446744073709551616 ∧ 0 ≤ bits .or .u64 (conv a x s (cb x y)) (conv b y t (cb x y)) := by
    have := bits_within .or .u64 (conv a x s (cb x y)) (conv b y t (cb x y))
    have h1 : IntKind.u64.min = 0 := rfl
    have h2 : IntKind.u64.max = 18446744073709551615 := rfl
    omega
  have WP := hide (fun (w : World) => whole_any (conv a x s (cb x y)) w uP)
  have WQ := hide (fun (w : World) => whole_any (conv b y t (cb x y)) w uQ)
  have BT := hide (fun p q r w hp hq hr => bit_or p q r (conv a x s (cb x y)) (conv b y t (cb x y)) w hp hq hr uP uQ)
  have ub2 := ub.2
  have ub1 := ub.1
  clear ub
  generalize bits .or .u64 (conv a x s (cb x y)) (conv b y t (cb x y)) = V at *
  generalize mn (cs x s y t) (cb x y) (conv a x s (cb x y)) = M1 at *
  generalize mn (cs x s y t) (cb x y) (conv b y t (cb x y)) = M2 at *
  go_enter Tryz.func17, Tryz.ntmps17
  go_wp2_with fail
  refine (rvalid7_yes x s _ hx).mono ?_
  rintro e w1 ⟨rfl, k1⟩
  have R1 := hide (Duo.new k1)
  clear k1
  obtain ⟨x2, x3⟩ := (unhide R1).B.at2
  go_wp2_with fail
  refine (rvalid7_yes y t _ hy).mono ?_
  rintro e w2 ⟨rfl, k2⟩
  have R2 := hide ((unhide R1).step k2)
  clear k2 R1 x2 x3
  obtain ⟨x0, x1⟩ := (unhide R2).A.at2
  obtain ⟨x2, x3⟩ := (unhide R2).B.at2
  go_wp2_with fail
  refine (rcommon_any x s y t w2).mono ?_
  rintro e w3 ⟨rfl, k3⟩
  clear x0 x1 x2 x3
  have R3 := hide ((unhide R2).step k3)
  clear R2 k3
  go_wp2_with fail
  have R4 := hide ((unhide R3).more (T := 24) (u := .int .i64 (cb x y)) (v := .bool (cs x s y t)))
  generalize w3.alloc (.cells #[.int .i64 (cb x y), .bool (cs x s y t)] 24) = w4 at *
  generalize w3.heap.size = pt at *
  clear R3
  obtain ⟨x0, x1⟩ := (unhide R4).1.A.at2
  obtain ⟨x2, x3⟩ := (unhide R4).1.B.at2
  obtain ⟨x4, x5⟩ := (unhide R4).2.at2
  have l0 := (unhide R4).1.A.1
  have l1 := (unhide R4).1.B.1
  have l2 := (unhide R4).2.1
  refine wp_region_later (by kernel_rfl) (by kernel_rfl) ?_
  intro L hne lt hlc hlf hlm
  repeat (go_big_quiet_step ((go_at_call 14; exact later_call hlm (rconvert_any _ _ _ _ _ _ (by assumption) (by assumption) (by assumption)))))
  refine wpQuiet_nil ?_
  intro wq kq
  clear hlm hlf hlc lt hne L
  obtain ⟨hqc, hqf⟩ := below_cells kq
  clear x0 x1 x2 x3 x4 x5 l0 l1 l2 hqc hqf
  have R := hide ((unhide R4).1.step kq)
  have T := hide ((unhide R4).2.step kq)
  clear R4 kq
  obtain ⟨t0, t1⟩ := (unhide T).at2
  go_wp2_with fail
  refine reg_start (fun W => W.cell? ⟨pt, 0, none⟩ = some (.int .i64 (cb x y)) ∧ W.cell? ⟨pt, 1, none⟩ = some (.bool (cs x s y t))) (by kernel_rfl) ?_
  refine reg_seg 0 2 6 (by kernel_rfl) (by decide) (by kernel_rfl) (by kernel_rfl) (fun _ _ _ _ _ h => h) ?_
  simp only [List.take_succ_cons, List.take_zero, List.drop_succ_cons, List.drop_zero]
  repeat (refine wpSteady_step (fun K hK => ?_); go_simp; first | (refine steady_of ?_ (fun W hW => ?_) (hK _ ?_); rotate_left; (obtain ⟨c1, c2⟩ := hW; go_simp; first | done | rfl); clear hK K) | (refine hK _ ?_; clear hK K))
  refine wpSteady_nil ?_
  refine reg_seg 3 2 4 (by kernel_rfl) (by decide) (by kernel_rfl) (by kernel_rfl) (fun _ _ _ _ _ h => h) ?_
  simp only [List.take_succ_cons, List.take_zero, List.drop_succ_cons, List.drop_zero]
  repeat (refine wpSteady_step (fun K hK => ?_); go_simp; first | (refine steady_of ?_ (fun W hW => ?_) (hK _ ?_); rotate_left; (obtain ⟨c1, c2⟩ := hW; go_simp; first | done | rfl); clear hK K) | (refine hK _ ?_; clear hK K))
  refine wpSteady_nil ?_
  refine reg_one 2 3 (by kernel_rfl) (by kernel_rfl) ⟨t0, t1⟩ ?_
  simp only [List.take_succ_cons, List.take_zero, List.drop_succ_cons, List.drop_zero]
  go_wp2_with fail
  refine (unhide MP _).mono ?_
  rintro e w5 ⟨pp, rfl, hpp, k5, G5⟩
  have k5' : Below wq.heap.size wq w5 := bT (Below.refl _ _).drew k5
  have R' := hide ((unhide R).step k5')
  have T' := hide ((unhide T).step k5')
  have H5 := hide G5
  clear R T k5 k5' G5 t0 t1 hpp
  have R := R'
  have T := T'
  clear R' T'
  obtain ⟨t0, t1⟩ := (unhide T).at2
  go_wp2_with fail
  first | refine next_nil ?_ | refine next_go ?_
  refine reg_one 5 2 (by kernel_rfl) (by kernel_rfl) ⟨t0, t1⟩ ?_
  simp only [List.take_succ_cons, List.take_zero, List.drop_succ_cons, List.drop_zero]
  go_wp2_with fail
  refine (unhide MQ _).mono ?_
  rintro e w6 ⟨pq, rfl, hpq, k6, G6⟩
  have R' := hide ((unhide R).step k6)
  have T' := hide ((unhide T).step k6)
  have H5' := hide ((unhide H5).step k6)
  have H6 := hide G6
  clear R T k6 G6 t0 t1 H5 hpq
  have R := R'
  have T := T'
  clear R' T'
  obtain ⟨t0, t1⟩ := (unhide T).at2
  go_wp2_with fail
  first | refine next_nil ?_ | refine next_go ?_
  refine reg_one 6 1 (by kernel_rfl) (by kernel_rfl) ⟨t0, t1⟩ ?_
  simp only [List.take_succ_cons, List.take_zero, List.drop_succ_cons, List.drop_zero]
  go_wp2_with fail
  refine (cmp_big pp pq M1 M2 w6 (unhide H5') (unhide H6) (by omega) (by omega)).mono ?_
  rintro e w7 ⟨⟨jj, rfl⟩, rfl⟩
  have kd : Below w6.heap.size w6 (w6.drewN jj) := below_drewN (Below.refl _ _) jj
  have R' := hide ((unhide R).step kd)
  have T' := hide ((unhide T).step kd)
  clear R T kd t0 t1 H5' H6
  have R := R'
  have T := T'
  clear R' T'
  generalize w6.drewN jj = w7 at *
  obtain ⟨t0, t1⟩ := (unhide T).at2
  go_wp2_with fail
  first | refine next_nil ?_ | refine next_go ?_
  refine reg_one 7 0 (by kernel_rfl) (by kernel_rfl) ⟨t0, t1⟩ ?_
  simp only [List.take_succ_cons, List.take_zero, List.drop_succ_cons, List.drop_zero]
  go_wp2_with fail
  first | refine next_nil ?_ | refine next_go ?_
  refine reg_end (by kernel_rfl) ⟨t0, t1⟩ ?_
  have NB := hide (Big.new w7).int
  have kz := hide (below_a w7 (.cells #[.bool false, .slice none 0 0] 69))
  clear T t0 t1
  go_wp2_with fail
  generalize w7.alloc (.cells #[.bool false, .slice none 0 0] 69) = w8 at *
  refine (unhide WP w8).mono ?_
  rintro e w9 ⟨rfl, k9, B9⟩
  have K9 := hide k9
  have H9 := hide B9
  clear k9 B9
  go_wp2_with fail
  refine (unhide WQ w9).mono ?_
  rintro e wa ⟨rfl, ka, Ba⟩
  have Ka := hide ka
  have Ha := hide Ba
  have H9a := hide ((unhide H9).step ka)
  have NBa := hide (((unhide NB).step (unhide K9)).step ka)
  have l9 := (unhide H9).lt
  clear ka Ba H9 NB
  go_wp2_with fail
  refine (unhide BT w7.heap.size w8.heap.size w9.heap.size wa (unhide NBa) (unhide H9a) (unhide Ha)).mono ?_
  rintro e wb ⟨rfl, kb, Bb⟩
  have s7 := (unhide kz).size
  have K7 : Hid (Below w7.heap.size w7 wb) := by
    have q1 := bT (unhide kz) (bT (unhide K9) (unhide Ka))
    exact q1.trans (kb.below (Nat.le_refl _) q1.size)
  have Hb := hide Bb
  clear kb Bb NBa H9a Ha
  go_wp2_with fail
  have UI := uint_any w7.heap.size V wb (unhide Hb) ub1
  rw [show ((V.natAbs : Nat) : Int) = V by omega] at UI
  refine UI.mono ?_
  rintro e wc ⟨hwc, rfl⟩
  subst wc
  go_wp2_with fail
  go_ret2
  exact ⟨rfl, bT (unhide R).bel (unhide K7)⟩
end Go.Proofs.YtdmniecdfakbcaaGreat
