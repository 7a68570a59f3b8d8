/-
  Types of numbers: what Unary answers.
-/
import Derived.Test.YtaidefdbjcgcbaaGreatTyGz
namespace Go.Proofs.YtaidefdbjcgcbaaGreat
open Go.RowKit
set_option linter.unusedSimpArgs false
set_option linter.unusedVariables false

theorem unary_no (k a x : Int) (s : Bool) (w : World) (h : NoW x) : Calls Tryz.prog 86 #[.int .i64 k, .int .u64 a, .agg #[.int .i64 x, .bool s]] w fun e w' => e = .returned (.tuple #[.int .u64 0, .agg #[.int .i64 0, .bool false], .int .i64 1]) ∧ Below w.heap.size w w' := by
  go_enter Tryz.func86, Tryz.ntmps86
  go_wp2_with fail
  have R0 := hide (Duo.new (w := w) (T := 34) (a0 := .int .i64 x) (a1 := .bool s) (b0 := .int .i64 0) (b1 := .bool false) (Below.refl _ _))
  generalize (w.alloc (.cells #[.int .i64 x, .bool s] 34)).alloc (.cells #[.int .i64 0, .bool false] 34) = w0 at *
  refine (tvalid_no x s w0 h).mono ?_
  rintro e w1 ⟨rfl, k1⟩
  have R := hide ((unhide R0).step k1)
  clear k1 R0
  obtain ⟨r0, r1⟩ := (unhide R).B.at2
  have rf := (unhide R).B.2.2
  have p0 := (unhide R).B.put0
  have p1 := (unhide R).B.put1
  go_wp2_with fail
  exact bodyPost_ret (v := .tuple #[.int .u64 0, .agg #[.int .i64 0, .bool false], .int .i64 1]) (by simp [results, Tryz.results86, go_sem, p0, p1]) rfl ⟨rfl, below_2 (unhide R).bel (by omega) _ _⟩
set_option maxHeartbeats 1000000 in
theorem unary_kind (k a x : Int) (s : Bool) (w : World) (h : IsW x) (ha : U a) (hk : k ≠ 6 ∧ k ≠ 7 ∧ k ≠ 8) : Calls Tryz.prog 86 #[.int .i64 k, .int .u64 a, .agg #[.int .i64 x, .bool s]] w fun e w' => e = .returned (.tuple #[.int .u64 0, .agg #[.int .i64 0, .bool false], .int .i64 1]) ∧ Below w.heap.size w w' := by
  have hX := isW_p h
  have n1 : (k == 6) = false := beq_eq_false_iff_ne.2 hk.1
  have n2 : (k == 7) = false := beq_eq_false_iff_ne.2 hk.2.1
  have n3 : (k == 8) = false := beq_eq_false_iff_ne.2 hk.2.2
  go_enter Tryz.func86, Tryz.ntmps86
  go_wp2_with fail
  have R0 := hide (Duo.new (w := w) (T := 34) (a0 := .int .i64 x) (a1 := .bool s) (b0 := .int .i64 0) (b1 := .bool false) (Below.refl _ _))
  generalize (w.alloc (.cells #[.int .i64 x, .bool s] 34)).alloc (.cells #[.int .i64 0, .bool false] 34) = w0 at *
  refine (tvalid_yes x s w0 h).mono ?_
  rintro e w1 ⟨rfl, k1⟩
  have R1 := hide ((unhide R0).step k1)
  clear k1 R0
  obtain ⟨x0, x1⟩ := (unhide R1).A.at2
  go_wp2_with fail
  refine (promote_any x s w1).mono ?_
  rintro e w2 ⟨rfl, k2⟩
  have R2 := hide ((unhide R1).step k2)
  clear k2 R1 x0 x1
  have R3 := hide ((unhide R2).more (T := 34) (u := .int .i64 (pb x)) (v := .bool (ps x s)))
  obtain ⟨x0, x1⟩ := (unhide R2).A.at2
  have lx := (unhide R2).A.1
  have lB := (unhide R2).B.1
  go_wp2_with fail
  clear x0 x1 lx R2
  have hpt : w2.heap.size ≠ w.heap.size + 1 := by have := lB; omega
  generalize w2.alloc (.cells #[.int .i64 (pb x), .bool (ps x s)] 34) = w3 at *
  generalize w2.heap.size = pt at *
  refine (convert_any a x s (pb x) (ps x s) w3 h hX ha).mono ?_
  rintro e w4 ⟨rfl, k4⟩
  have R := hide ((unhide R3).1.step k4)
  have T := hide ((unhide R3).2.step k4)
  clear k4 R3
  obtain ⟨t0, t1⟩ := (unhide T).at2
  obtain ⟨r0, r1⟩ := (unhide R).B.at2
  have rf := (unhide R).B.2.2
  have p0 := (unhide R).B.put0
  have p1 := (unhide R).B.put1
  go_wp2_with fail
  exact bodyPost_ret (v := .tuple #[.int .u64 0, .agg #[.int .i64 0, .bool false], .int .i64 1]) (by simp [results, Tryz.results86, go_sem, p0, p1]) rfl ⟨rfl, below_2 (unhide R).bel (by omega) _ _⟩
set_option maxHeartbeats 1000000 in
theorem unary_log (a x : Int) (s : Bool) (w : World) (h : IsW x) (ha : U a) : Calls Tryz.prog 86 #[.int .i64 8, .int .u64 a, .agg #[.int .i64 x, .bool s]] w fun e w' => e = .returned (.tuple #[.int .u64 (b1 (conv a x s (pb x) == 0)), .agg #[.int .i64 16, .bool true], .int .i64 0]) ∧ Below w.heap.size w w' := by
  have hX := isW_p h
  go_enter Tryz.func86, Tryz.ntmps86
  go_wp2_with fail
  have R0 := hide (Duo.new (w := w) (T := 34) (a0 := .int .i64 x) (a1 := .bool s) (b0 := .int .i64 0) (b1 := .bool false) (Below.refl _ _))
  generalize (w.alloc (.cells #[.int .i64 x, .bool s] 34)).alloc (.cells #[.int .i64 0, .bool false] 34) = w0 at *
  refine (tvalid_yes x s w0 h).mono ?_
  rintro e w1 ⟨rfl, k1⟩
  have R1 := hide ((unhide R0).step k1)
  clear k1 R0
  obtain ⟨x0, x1⟩ := (unhide R1).A.at2
  go_wp2_with fail
  refine (promote_any x s w1).mono ?_
  rintro e w2 ⟨rfl, k2⟩
  have R2 := hide ((unhide R1).step k2)
  clear k2 R1 x0 x1
  have R3 := hide ((unhide R2).more (T := 34) (u := .int .i64 (pb x)) (v := .bool (ps x s)))
  obtain ⟨x0, x1⟩ := (unhide R2).A.at2
  have lx := (unhide R2).A.1
  have lB := (unhide R2).B.1
  go_wp2_with fail
  clear x0 x1 lx R2
  have hpt : w2.heap.size ≠ w.heap.size + 1 := by have := lB; omega
  generalize w2.alloc (.cells #[.int .i64 (pb x), .bool (ps x s)] 34) = w3 at *
  generalize w2.heap.size = pt at *
  refine (convert_any a x s (pb x) (ps x s) w3 h hX ha).mono ?_
  rintro e w4 ⟨rfl, k4⟩
  have R := hide ((unhide R3).1.step k4)
  have T := hide ((unhide R3).2.step k4)
  clear k4 R3
  obtain ⟨t0, t1⟩ := (unhide T).at2
  go_wp2_with fail
  refine (oneIf_any _ _).mono ?_
  rintro e w' ⟨rfl, hw⟩
  subst w'
  go_wp2_with fail
  refine (i16_any w4).mono ?_
  rintro e w5 ⟨rfl, k5⟩
  have R' := hide ((unhide R).step k5)
  clear R k5 T t0 t1
  have R := R'
  clear R'
  obtain ⟨r0, r1⟩ := (unhide R).B.at2
  have rf := (unhide R).B.2.2
  have p0 := (unhide R).B.put0
  have p1 := (unhide R).B.put1
  go_wp2_with fail
  exact bodyPost_ret (v := .tuple #[.int .u64 (b1 (conv a x s (pb x) == 0)), .agg #[.int .i64 16, .bool true], .int .i64 0]) (by simp [results, Tryz.results86, go_sem, p0, p1]) rfl ⟨rfl, below_2 (unhide R).bel (by omega) _ _⟩
theorem xor_max {C : Int} (h : U C) : bits .xor .u64 IntKind.u64.max C = 18446744073709551615 - C := by
  obtain ⟨h0, h1⟩ := h
  obtain ⟨m, rfl⟩ : ∃ m : Nat, C = m := ⟨C.toNat, by omega⟩
  have e1 : BitVec.ofInt 64 IntKind.u64.max = BitVec.allOnes 64 := by decide
  have e2 : (BitVec.ofInt 64 (m : Int)).toNat = m := by
    rw [BitVec.ofInt_natCast, BitVec.toNat_ofNat]; exact Nat.mod_eq_of_lt (by omega)
  show IntKind.u64.wrap ((BitVec.ofInt 64 IntKind.u64.max ^^^ BitVec.ofInt 64 (m : Int)).toNat : Int) = _
  rw [e1, BitVec.allOnes_xor, BitVec.toNat_not, e2, u64_wrap]
  omega
theorem cut_not {n C : Int} (hn : IsW n) (h : U C) : cut n (bits .xor .u64 IntKind.u64.max C) = cut n (-C - 1) := by
  rw [xor_max h, ← cut_wrap hn (-C - 1), u64_wrap]
  obtain ⟨h0, h1⟩ := h
  congr 1
  omega
theorem u_not {C : Int} (h : U C) : U (bits .xor .u64 IntKind.u64.max C) := by
  rw [xor_max h]
  obtain ⟨h0, h1⟩ := h
  exact ⟨by omega, by omega⟩
set_option maxHeartbeats 1000000 in
theorem unary_neg (a x : Int) (s : Bool) (w : World) (h : IsW x) (ha : U a) : Calls Tryz.prog 86 #[.int .i64 6, .int .u64 a, .agg #[.int .i64 x, .bool s]] w fun e w' => e = .returned (.tuple #[.int .u64 (cut (pb x) (-conv a x s (pb x))), .agg #[.int .i64 (pb x), .bool (ps x s)], .int .i64 0]) ∧ Below w.heap.size w w' := by
  have hX := isW_p h
  have CU := hide (fun (w : World) => tcut_any (IntKind.u64.wrap (-conv a x s (pb x))) (pb x) (ps x s) w hX (u_wrap _))
  rw [cut_wrap hX] at CU
  go_enter Tryz.func86, Tryz.ntmps86
  go_wp2_with fail
  have R0 := hide (Duo.new (w := w) (T := 34) (a0 := .int .i64 x) (a1 := .bool s) (b0 := .int .i64 0) (b1 := .bool false) (Below.refl _ _))
  generalize (w.alloc (.cells #[.int .i64 x, .bool s] 34)).alloc (.cells #[.int .i64 0, .bool false] 34) = w0 at *
  refine (tvalid_yes x s w0 h).mono ?_
  rintro e w1 ⟨rfl, k1⟩
  have R1 := hide ((unhide R0).step k1)
  clear k1 R0
  obtain ⟨x0, x1⟩ := (unhide R1).A.at2
  go_wp2_with fail
  refine (promote_any x s w1).mono ?_
  rintro e w2 ⟨rfl, k2⟩
  have R2 := hide ((unhide R1).step k2)
  clear k2 R1 x0 x1
  have R3 := hide ((unhide R2).more (T := 34) (u := .int .i64 (pb x)) (v := .bool (ps x s)))
  obtain ⟨x0, x1⟩ := (unhide R2).A.at2
  have lx := (unhide R2).A.1
  have lB := (unhide R2).B.1
  go_wp2_with fail
  clear x0 x1 lx R2
  have hpt : w2.heap.size ≠ w.heap.size + 1 := by have := lB; omega
  generalize w2.alloc (.cells #[.int .i64 (pb x), .bool (ps x s)] 34) = w3 at *
  generalize w2.heap.size = pt at *
  refine (convert_any a x s (pb x) (ps x s) w3 h hX ha).mono ?_
  rintro e w4 ⟨rfl, k4⟩
  have R := hide ((unhide R3).1.step k4)
  have T := hide ((unhide R3).2.step k4)
  clear k4 R3
  obtain ⟨t0, t1⟩ := (unhide T).at2
  go_wp2_with fail
  refine reg_start (fun W => W.cell? ⟨pt, 0, none⟩ = some (.int .i64 (pb x)) ∧ W.cell? ⟨pt, 1, none⟩ = some (.bool (ps x s))) (by kernel_rfl) ?_
  refine reg_seg 0 3 5 (by kernel_rfl) (by decide) (by kernel_rfl) (by kernel_rfl) (fun _ _ _ _ _ h => h) ?_
  simp only [List.take_succ_cons, List.take_zero, List.drop_succ_cons, List.drop_zero]
  repeat (refine wpSteady_step (fun K hK => ?_); go_simp; first | (refine steady_of ?_ (fun W hW => ?_) (hK _ ?_); rotate_left; (obtain ⟨c1, c2⟩ := hW; go_simp; first | done | rfl); clear hK K) | (refine hK _ ?_; clear hK K))
  refine wpSteady_nil ?_
  refine reg_seg 4 1 4 (by kernel_rfl) (by decide) (by kernel_rfl) (by kernel_rfl) (fun _ _ _ _ _ h => h) ?_
  simp only [List.take_succ_cons, List.take_zero, List.drop_succ_cons, List.drop_zero]
  repeat (refine wpSteady_step (fun K hK => ?_); go_simp; first | (refine steady_of ?_ (fun W hW => ?_) (hK _ ?_); rotate_left; (obtain ⟨c1, c2⟩ := hW; go_simp; first | done | rfl); clear hK K) | (refine hK _ ?_; clear hK K))
  refine wpSteady_nil ?_
  refine reg_one 3 3 (by kernel_rfl) (by kernel_rfl) ⟨t0, t1⟩ ?_
  simp only [List.take_succ_cons, List.take_zero, List.drop_succ_cons, List.drop_zero]
  go_wp2_with fail
  refine (unhide CU _).mono ?_
  rintro e w5 ⟨rfl, k5⟩
  have k5' : Below w4.heap.size w4 w5 := bT (Below.refl _ _).drew k5
  have R' := hide ((unhide R).step k5')
  have T' := hide ((unhide T).step k5')
  clear R T k5 k5' t0 t1
  have R := R'
  have T := T'
  clear R' T'
  obtain ⟨t0, t1⟩ := (unhide T).at2
  obtain ⟨r0, r1⟩ := (unhide R).B.at2
  have rf := (unhide R).B.2.2
  have p0 := (unhide R).B.put0
  have p1 := (unhide R).B.put1
  go_wp2_with fail
  first | refine next_nil ?_ | refine next_go ?_
  refine reg_one 5 2 (by kernel_rfl) (by kernel_rfl) ⟨t0, t1⟩ ?_
  simp only [List.take_succ_cons, List.take_zero, List.drop_succ_cons, List.drop_zero]
  go_wp2_with fail
  first | refine next_nil ?_ | refine next_go ?_
  refine reg_one 6 1 (by kernel_rfl) (by kernel_rfl) ⟨t0, t1⟩ ?_
  simp only [List.take_succ_cons, List.take_zero, List.drop_succ_cons, List.drop_zero]
  go_wp2_with fail
  first | refine next_nil ?_ | refine next_go ?_
  obtain ⟨y0, y1⟩ := (((unhide T).other (b' := w.heap.size + 1) (j := 0) (u := .int .i64 (pb x)) hpt).other (b' := w.heap.size + 1) (j := 1) (u := .bool (ps x s)) hpt).at2
  refine reg_one 7 0 (by kernel_rfl) (by kernel_rfl) ⟨y0, y1⟩ ?_
  simp only [List.take_succ_cons, List.take_zero, List.drop_succ_cons, List.drop_zero]
  go_wp2_with fail
  first | refine next_nil ?_ | refine next_go ?_
  refine reg_end (by kernel_rfl) ⟨y0, y1⟩ ?_
  go_wp2_with fail
  exact bodyPost_ret (v := .tuple #[.int .u64 (cut (pb x) (-conv a x s (pb x))), .agg #[.int .i64 (pb x), .bool (ps x s)], .int .i64 0]) (by simp [results, Tryz.results86, go_sem, p0, p1]) rfl ⟨rfl, below_2 (unhide R).bel (by omega) _ _⟩
set_option maxHeartbeats 1000000 in
theorem unary_not (a x : Int) (s : Bool) (w : World) (h : IsW x) (ha : U a) : Calls Tryz.prog 86 #[.int .i64 7, .int .u64 a, .agg #[.int .i64 x, .bool s]] w fun e w' => e = .returned (.tuple #[.int .u64 (cut (pb x) (-conv a x s (pb x) - 1)), .agg #[.int .i64 (pb x), .bool (ps x s)], .int .i64 0]) ∧ Below w.heap.size w w' := by
  have hX := isW_p h
  have CU := hide (fun (w : World) => tcut_any (bits .xor .u64 IntKind.u64.max (conv a x s (pb x))) (pb x) (ps x s) w hX (u_not (u_conv hX)))
  rw [cut_not hX (u_conv hX)] at CU
  go_enter Tryz.func86, Tryz.ntmps86
  go_wp2_with fail
  have R0 := hide (Duo.new (w := w) (T := 34) (a0 := .int .i64 x) (a1 := .bool s) (b0 := .int .i64 0) (b1 := .bool false) (Below.refl _ _))
  generalize (w.alloc (.cells #[.int .i64 x, .bool s] 34)).alloc (.cells #[.int .i64 0, .bool false] 34) = w0 at *
  refine (tvalid_yes x s w0 h).mono ?_
  rintro e w1 ⟨rfl, k1⟩
  have R1 := hide ((unhide R0).step k1)
  clear k1 R0
  obtain ⟨x0, x1⟩ := (unhide R1).A.at2
  go_wp2_with fail
  refine (promote_any x s w1).mono ?_
  rintro e w2 ⟨rfl, k2⟩
  have R2 := hide ((unhide R1).step k2)
  clear k2 R1 x0 x1
  have R3 := hide ((unhide R2).more (T := 34) (u := .int .i64 (pb x)) (v := .bool (ps x s)))
  obtain ⟨x0, x1⟩ := (unhide R2).A.at2
  have lx := (unhide R2).A.1
  have lB := (unhide R2).B.1
  go_wp2_with fail
  clear x0 x1 lx R2
  have hpt : w2.heap.size ≠ w.heap.size + 1 := by have := lB; omega
  generalize w2.alloc (.cells #[.int .i64 (pb x), .bool (ps x s)] 34) = w3 at *
  generalize w2.heap.size = pt at *
  refine (convert_any a x s (pb x) (ps x s) w3 h hX ha).mono ?_
  rintro e w4 ⟨rfl, k4⟩
  have R := hide ((unhide R3).1.step k4)
  have T := hide ((unhide R3).2.step k4)
  clear k4 R3
  obtain ⟨t0, t1⟩ := (unhide T).at2
  go_wp2_with fail
  refine reg_start (fun W => W.cell? ⟨pt, 0, none⟩ = some (.int .i64 (pb x)) ∧ W.cell? ⟨pt, 1, none⟩ = some (.bool (ps x s))) (by kernel_rfl) ?_
  refine reg_seg 0 3 5 (by kernel_rfl) (by decide) (by kernel_rfl) (by kernel_rfl) (fun _ _ _ _ _ h => h) ?_
  simp only [List.take_succ_cons, List.take_zero, List.drop_succ_cons, List.drop_zero]
  repeat (refine wpSteady_step (fun K hK => ?_); go_simp; first | (refine steady_of ?_ (fun W hW => ?_) (hK _ ?_); rotate_left; (obtain ⟨c1, c2⟩ := hW; go_simp; first | done | rfl); clear hK K) | (refine hK _ ?_; clear hK K))
  refine wpSteady_nil ?_
  refine reg_seg 4 1 4 (by kernel_rfl) (by decide) (by kernel_rfl) (by kernel_rfl) (fun _ _ _ _ _ h => h) ?_
  simp only [List.take_succ_cons, List.take_zero, List.drop_succ_cons, List.drop_zero]
  repeat (refine wpSteady_step (fun K hK => ?_); go_simp; first | (refine steady_of ?_ (fun W hW => ?_) (hK _ ?_); rotate_left; (obtain ⟨c1, c2⟩ := hW; go_simp; first | done | rfl); clear hK K) | (refine hK _ ?_; clear hK K))
  refine wpSteady_nil ?_
  refine reg_one 3 3 (by kernel_rfl) (by kernel_rfl) ⟨t0, t1⟩ ?_
  simp only [List.take_succ_cons, List.take_zero, List.drop_succ_cons, List.drop_zero]
  go_wp2_with fail
  refine (unhide CU _).mono ?_
  rintro e w5 ⟨rfl, k5⟩
  have k5' : Below w4.heap.size w4 w5 := bT (Below.refl _ _).drew k5
  have R' := hide ((unhide R).step k5')
  have T' := hide ((unhide T).step k5')
  clear R T k5 k5' t0 t1
  have R := R'
  have T := T'
  clear R' T'
  obtain ⟨t0, t1⟩ := (unhide T).at2
  obtain ⟨r0, r1⟩ := (unhide R).B.at2
  have rf := (unhide R).B.2.2
  have p0 := (unhide R).B.put0
  have p1 := (unhide R).B.put1
  go_wp2_with fail
  first | refine next_nil ?_ | refine next_go ?_
  refine reg_one 5 2 (by kernel_rfl) (by kernel_rfl) ⟨t0, t1⟩ ?_
  simp only [List.take_succ_cons, List.take_zero, List.drop_succ_cons, List.drop_zero]
  go_wp2_with fail
  first | refine next_nil ?_ | refine next_go ?_
  refine reg_one 6 1 (by kernel_rfl) (by kernel_rfl) ⟨t0, t1⟩ ?_
  simp only [List.take_succ_cons, List.take_zero, List.drop_succ_cons, List.drop_zero]
  go_wp2_with fail
  first | refine next_nil ?_ | refine next_go ?_
  obtain ⟨y0, y1⟩ := (((unhide T).other (b' := w.heap.size + 1) (j := 0) (u := .int .i64 (pb x)) hpt).other (b' := w.heap.size + 1) (j := 1) (u := .bool (ps x s)) hpt).at2
  refine reg_one 7 0 (by kernel_rfl) (by kernel_rfl) ⟨y0, y1⟩ ?_
  simp only [List.take_succ_cons, List.take_zero, List.drop_succ_cons, List.drop_zero]
  go_wp2_with fail
  first | refine next_nil ?_ | refine next_go ?_
  refine reg_end (by kernel_rfl) ⟨y0, y1⟩ ?_
  go_wp2_with fail
  exact bodyPost_ret (v := .tuple #[.int .u64 (cut (pb x) (-conv a x s (pb x) - 1)), .agg #[.int .i64 (pb x), .bool (ps x s)], .int .i64 0]) (by simp [results, Tryz.results86, go_sem, p0, p1]) rfl ⟨rfl, below_2 (unhide R).bel (by omega) _ _⟩
end Go.Proofs.YtaidefdbjcgcbaaGreat
