/-
  Types of numbers: what Binary answers.
-/
import Derived.Test.YtaidefdbjcgcbaaGreatTyEz
import Derived.Test.YtaidefdbjcgcbaaGreatTyNz
namespace Go.Proofs.YtaidefdbjcgcbaaGreat
open Go.RowKit
set_option linter.unusedSimpArgs false
set_option linter.unusedVariables false

theorem Duo.more {w w3 : World} {T : TypeId} {a0 a1 b0 b1 u v : Value} (h : Duo w w3 a0 a1 b0 b1) : Duo w (w3.alloc (.cells #[u, v] T)) a0 a1 b0 b1 ∧ Box (w3.alloc (.cells #[u, v] T)) w3.heap.size [u, v] := ⟨h.step (below_a _ _), Box.new w3 #[u, v] T⟩

set_option maxHeartbeats 2000000 in
theorem binary_work (k a b x y : Int) (s t : Bool) (w : World) (hk : wkB k) (hx : IsW x) (hy : IsW y) (ha : U a) (hb : U b) : Calls Tryz.prog 88 #[.int .i64 k, .int .u64 a, .int .u64 b, .agg #[.int .i64 x, .bool s], .agg #[.int .i64 y, .bool t]] w fun e w' => e = .returned (.tuple #[.int .u64 (wrk k (cs x s y t) (cb x y) (conv a x s (cb x y)) (conv b y t (cb x y))).1, .int .i64 (wrk k (cs x s y t) (cb x y) (conv a x s (cb x y)) (conv b y t (cb x y))).2]) ∧ Below w.heap.size w w' := by
  have hX := isW_c hx hy
  have hs : shB k = false := by rcases hk with rfl | rfl | rfl | rfl | rfl | rfl | rfl | rfl <;> decide
  have hc : cpB k = false := by rcases hk with rfl | rfl | rfl | rfl | rfl | rfl | rfl | rfl <;> decide
  have h9 : 9 ≤ k ∧ k ≤ 24 := by unfold wkB at hk; omega
  have B1 := hide (fun (w : World) => tvalid_yes x s w hx)
  have B2 := hide (fun (w : World) => tvalid_yes y t w hy)
  have d1 : decide (k < 9) = false := by simp; omega
  have d2 : decide (24 < k) = false := by simp; omega
  have SH := hide (fun (w : World) => shifts_any k w)
  rw [hs] at SH
  have CP := hide (fun (w : World) => compares_any k w)
  rw [hc] at CP
  have HK := hide hk
  clear hk hs hc h9
  go_enter Tryz.func88, Tryz.ntmps88
  go_wp2_with (first | (go_at_call 83; have K := R1; refine (unhide B2 _).mono ?_; rintro e w2 ⟨rfl, k2⟩; clear K x0 x1 x2 x3; have R2 := hide ((unhide R1).step k2); obtain ⟨x0, x1⟩ := (unhide R2).A.at2; obtain ⟨x2, x3⟩ := (unhide R2).B.at2) | (go_at_call 83; refine (unhide B1 _).mono ?_; rintro e w1 ⟨rfl, k1⟩; have R1 := hide (Duo.new k1); obtain ⟨x0, x1⟩ := (unhide R1).A.at2; obtain ⟨x2, x3⟩ := (unhide R1).B.at2) | (go_at_call 127; refine (unhide SH _).mono ?_; rintro e w' ⟨rfl, hw⟩; subst w'))
  refine (common_any x s y t w2).mono ?_
  rintro e w3 ⟨rfl, k3⟩
  clear x0 x1 x2 x3
  have R3 := hide ((unhide R2).step k3)
  go_wp2_with fail
  have R4 := hide ((unhide R3).more (T := 34) (u := .int .i64 (cb x y)) (v := .bool (cs x s y t)))
  generalize w3.alloc (.cells #[.int .i64 (cb x y), .bool (cs x s y t)] 34) = w4 at *
  obtain ⟨x0, x1⟩ := (unhide R4).1.A.at2
  obtain ⟨x2, x3⟩ := (unhide R4).1.B.at2
  obtain ⟨x4, x5⟩ := (unhide R4).2.at2
  have l0 := (unhide R4).1.A.1
  have l1 := (unhide R4).1.B.1
  have l2 := (unhide R4).2.1
  refine wp_region_later (by kernel_rfl) (by kernel_rfl) ?_
  intro L hne lt hlc hlf hlm
  repeat (go_big_quiet_step ((go_at_call 85; exact later_call hlm (convert_any _ _ _ _ _ _ (by assumption) (by assumption) (by assumption)))))
  refine wpQuiet_nil ?_
  intro wq kq
  clear hlm hlf hlc lt hne L
  obtain ⟨hqc, hqf⟩ := below_cells kq
  have U1 : U (conv a x s (cb x y)) := u_conv hX
  have U2 : U (conv b y t (cb x y)) := u_conv hX
  clear x0 x1 x2 x3 x4 x5 l0 l1 l2 hqc hqf
  have R5 := hide ((unhide R4).2.step kq)
  have K5 := hide (bT (unhide R4).1.bel kq)
  obtain ⟨x4, x5⟩ := (unhide R5).at2
  have WK := hide (fun (w : World) => worked_any k _ _ _ (cs x s y t) w (unhide HK) hX U1 U2)
  go_wp2_with (first | (go_at_call 130; refine (unhide CP _).mono ?_; rintro e w' ⟨rfl, hw⟩; subst w') | (go_at_call 132; refine (unhide WK _).mono ?_; rintro e w6 ⟨rfl, k6⟩))
  go_ret2
  exact ⟨rfl, bT (unhide K5) k6⟩
set_option maxHeartbeats 2000000 in
theorem binary_cmp (k a b x y : Int) (s t : Bool) (w : World) (hk : 16 ≤ k ∧ k ≤ 21) (hx : IsW x) (hy : IsW y) (ha : U a) (hb : U b) : Calls Tryz.prog 88 #[.int .i64 k, .int .u64 a, .int .u64 b, .agg #[.int .i64 x, .bool s], .agg #[.int .i64 y, .bool t]] w fun e w' => e = .returned (.tuple #[.int .u64 (b1 (hld k (cs x s y t) (cb x y) (conv a x s (cb x y)) (conv b y t (cb x y)))), .int .i64 0]) ∧ Below w.heap.size w w' := by
  have hX := isW_c hx hy
  have hs : shB k = false := by unfold shB; rw [beq_eq_false_iff_ne.2 (by omega), beq_eq_false_iff_ne.2 (by omega)]; rfl
  have hc : cpB k = true := by unfold cpB; simp; exact hk
  have B1 := hide (fun (w : World) => tvalid_yes x s w hx)
  have B2 := hide (fun (w : World) => tvalid_yes y t w hy)
  have d1 : decide (k < 9) = false := by simp; omega
  have d2 : decide (24 < k) = false := by simp; omega
  have SH := hide (fun (w : World) => shifts_any k w)
  rw [hs] at SH
  have CP := hide (fun (w : World) => compares_any k w)
  rw [hc] at CP
  have HK := hide hk
  clear hk hs hc
  go_enter Tryz.func88, Tryz.ntmps88
  go_wp2_with (first | (go_at_call 83; have K := R1; refine (unhide B2 _).mono ?_; rintro e w2 ⟨rfl, k2⟩; clear K x0 x1 x2 x3; have R2 := hide ((unhide R1).step k2); obtain ⟨x0, x1⟩ := (unhide R2).A.at2; obtain ⟨x2, x3⟩ := (unhide R2).B.at2) | (go_at_call 83; refine (unhide B1 _).mono ?_; rintro e w1 ⟨rfl, k1⟩; have R1 := hide (Duo.new k1); obtain ⟨x0, x1⟩ := (unhide R1).A.at2; obtain ⟨x2, x3⟩ := (unhide R1).B.at2) | (go_at_call 127; refine (unhide SH _).mono ?_; rintro e w' ⟨rfl, hw⟩; subst w'))
  refine (common_any x s y t w2).mono ?_
  rintro e w3 ⟨rfl, k3⟩
  clear x0 x1 x2 x3
  have R3 := hide ((unhide R2).step k3)
  go_wp2_with fail
  have R4 := hide ((unhide R3).more (T := 34) (u := .int .i64 (cb x y)) (v := .bool (cs x s y t)))
  generalize w3.alloc (.cells #[.int .i64 (cb x y), .bool (cs x s y t)] 34) = w4 at *
  obtain ⟨x0, x1⟩ := (unhide R4).1.A.at2
  obtain ⟨x2, x3⟩ := (unhide R4).1.B.at2
  obtain ⟨x4, x5⟩ := (unhide R4).2.at2
  have l0 := (unhide R4).1.A.1
  have l1 := (unhide R4).1.B.1
  have l2 := (unhide R4).2.1
  refine wp_region_later (by kernel_rfl) (by kernel_rfl) ?_
  intro L hne lt hlc hlf hlm
  repeat (go_big_quiet_step ((go_at_call 85; exact later_call hlm (convert_any _ _ _ _ _ _ (by assumption) (by assumption) (by assumption)))))
  refine wpQuiet_nil ?_
  intro wq kq
  clear hlm hlf hlc lt hne L
  obtain ⟨hqc, hqf⟩ := below_cells kq
  have U1 : U (conv a x s (cb x y)) := u_conv hX
  have U2 : U (conv b y t (cb x y)) := u_conv hX
  clear x0 x1 x2 x3 x4 x5 l0 l1 l2 hqc hqf
  have R5 := hide ((unhide R4).2.step kq)
  have K5 := hide (bT (unhide R4).1.bel kq)
  obtain ⟨x4, x5⟩ := (unhide R5).at2
  have WK := hide (fun (w : World) => holds_any k _ _ _ (cs x s y t) w (unhide HK) hX U1 U2)
  go_wp2_with (first | (go_at_call 130; refine (unhide CP _).mono ?_; rintro e w' ⟨rfl, hw⟩; subst w') | (go_at_call 131; refine (unhide WK _).mono ?_; rintro e w6 ⟨rfl, k6⟩) | (go_at_call 125; refine (oneIf_any _ _).mono ?_; rintro e w' ⟨rfl, hw⟩; subst w'))
  go_ret2
  exact ⟨rfl, bT (unhide K5) k6⟩
set_option maxHeartbeats 2000000 in
theorem binary_shift (k a b x y : Int) (s t : Bool) (w : World) (hk : k = 14 ∨ k = 15) (hx : IsW x) (hy : IsW y) (ha : U a) (hb : U b) : Calls Tryz.prog 88 #[.int .i64 k, .int .u64 a, .int .u64 b, .agg #[.int .i64 x, .bool s], .agg #[.int .i64 y, .bool t]] w fun e w' => e = .returned (.tuple #[.int .u64 (shf k (ps x s) (pb x) (conv a x s (pb x)) (conv b y t 16)), .int .i64 0]) ∧ Below w.heap.size w w' := by
  have hX := isW_p hx
  have h16 : IsW 16 := .inr (.inl rfl)
  have hs : shB k = true := by rcases hk with rfl | rfl <;> decide
  have B1 := hide (fun (w : World) => tvalid_yes x s w hx)
  have B2 := hide (fun (w : World) => tvalid_yes y t w hy)
  have d1 : decide (k < 9) = false := by simp; omega
  have d2 : decide (24 < k) = false := by simp; omega
  have SH := hide (fun (w : World) => shifts_any k w)
  rw [hs] at SH
  have HK := hide hk
  have HU1 := hide (u_conv (x := a) (a := x) (s := s) hX)
  have HU2 := hide (u_conv (x := b) (a := y) (s := t) h16)
  clear hk hs
  go_enter Tryz.func88, Tryz.ntmps88
  go_wp2_with (first | (go_at_call 83; have K := R1; refine (unhide B2 _).mono ?_; rintro e w2 ⟨rfl, k2⟩; clear K x0 x1 x2 x3; have R2 := hide ((unhide R1).step k2); obtain ⟨x0, x1⟩ := (unhide R2).A.at2; obtain ⟨x2, x3⟩ := (unhide R2).B.at2) | (go_at_call 83; refine (unhide B1 _).mono ?_; rintro e w1 ⟨rfl, k1⟩; have R1 := hide (Duo.new k1); obtain ⟨x0, x1⟩ := (unhide R1).A.at2; obtain ⟨x2, x3⟩ := (unhide R1).B.at2) | (go_at_call 127; refine (unhide SH _).mono ?_; rintro e w' ⟨rfl, hw⟩; subst w'))
  refine (promote_any x s w2).mono ?_
  rintro e w3 ⟨rfl, k3⟩
  clear x0 x1 x2 x3
  have R3 := hide ((unhide R2).step k3)
  go_wp2_with fail
  have R4 := hide ((unhide R3).more (T := 34) (u := .int .i64 (pb x)) (v := .bool (ps x s)))
  generalize w3.alloc (.cells #[.int .i64 (pb x), .bool (ps x s)] 34) = w4 at *
  obtain ⟨x0, x1⟩ := (unhide R4).1.A.at2
  obtain ⟨x2, x3⟩ := (unhide R4).1.B.at2
  obtain ⟨x4, x5⟩ := (unhide R4).2.at2
  have l0 := (unhide R4).1.A.1
  have l1 := (unhide R4).1.B.1
  have l2 := (unhide R4).2.1
  refine wp_region_later (by kernel_rfl) (by kernel_rfl) ?_
  intro L hne lt hlc hlf hlm
  repeat (go_big_quiet_step (first | (go_at_call 85; exact later_call hlm (convert_any _ _ _ _ _ _ (by assumption) (by assumption) (by assumption))) | (go_at_call 128; exact later_call hlm (shifted_any _ _ _ _ _ _ (unhide HK) hX (unhide HU1) (unhide HU2)))))
  refine wpQuiet_nil ?_
  intro wq kq
  clear hlm hlf hlc lt hne L
  obtain ⟨hqc, hqf⟩ := below_cells kq
  have K5 := hide (bT (unhide R4).1.bel kq)
  go_wp2_with fail
  go_ret2
  exact ⟨rfl, unhide K5⟩
end Go.Proofs.YtaidefdbjcgcbaaGreat

/-
  Types of numbers: the closed fact that each statement asks first.
-/
namespace Go.Proofs.YtaidefdbjcgcbaaGreat
open Go.RowKit
set_option linter.unusedSimpArgs false
set_option linter.unusedVariables false

theorem bin_260 (w : World) : Calls Tryz.prog 88 #[.int .i64 12, .int .u64 250, .int .u64 10, .agg #[.int .i64 8, .bool false], .agg #[.int .i64 8, .bool false]] w fun e w' => e = .returned (.tuple #[.int .u64 260, .int .i64 0]) ∧ Below w.heap.size w w' := by
  have h := binary_work 12 250 10 8 8 false false w (.inr (.inr (.inr (.inl rfl)))) (.inl rfl) (.inl rfl) ⟨by decide, by decide⟩ ⟨by decide, by decide⟩
  have e : wrk 12 (cs 8 false 8 false) (cb 8 8) (conv 250 8 false (cb 8 8)) (conv 10 8 false (cb 8 8)) = (260, 0) := by decide +kernel
  rw [e] at h
  exact h
theorem nm_u32 : nmT 32 false = ⟨#[117, 51, 50]⟩ := by kernel_rfl
theorem Tri.new' {w w1 : World} {T : TypeId} {a0 a1 b0 b1 c0 c1 : Value} (k : Below (((w.alloc (.cells #[a0, a1] T)).alloc (.cells #[b0, b1] T)).alloc (.cells #[c0, c1] T)).heap.size (((w.alloc (.cells #[a0, a1] T)).alloc (.cells #[b0, b1] T)).alloc (.cells #[c0, c1] T)) w1) : Tri w w1 a0 a1 b0 b1 c0 c1 := by
  have h1 := below_a w (.cells #[a0, a1] T)
  have h2 := below_a (w.alloc (.cells #[a0, a1] T)) (.cells #[b0, b1] T)
  have h3 := below_a ((w.alloc (.cells #[a0, a1] T)).alloc (.cells #[b0, b1] T)) (.cells #[c0, c1] T)
  have A := Box.new w #[a0, a1] T
  have B := Box.new (w.alloc (.cells #[a0, a1] T)) #[b0, b1] T
  have C := Box.new ((w.alloc (.cells #[a0, a1] T)).alloc (.cells #[b0, b1] T)) #[c0, c1] T
  simp only [World.size_alloc] at B C
  exact ⟨bT h1 (bT h2 (bT h3 k)), ((A.step h2).step h3).step k, (B.step h3).step k, C.step k⟩
theorem Tri.more {w w3 : World} {T : TypeId} {a0 a1 b0 b1 c0 c1 u v : Value} (h : Tri w w3 a0 a1 b0 b1 c0 c1) : Tri w (w3.alloc (.cells #[u, v] T)) a0 a1 b0 b1 c0 c1 ∧ Box (w3.alloc (.cells #[u, v] T)) w3.heap.size [u, v] := ⟨h.step (below_a _ _), Box.new w3 #[u, v] T⟩

/-- What holds of common types. -/
structure Cm (a : Int) (s : Bool) (b : Int) (t : Bool) (c : Int) (u : Bool) : Prop where
  c1 : cb b a = cb a b
  c2 : cs b t a s = cs a s b t
  i1 : cb (cb a b) (cb a b) = cb a b
  i2 : cs (cb a b) (cs a s b t) (cb a b) (cs a s b t) = cs a s b t
  l1 : cb (cb a b) a = cb a b
  l2 : cs (cb a b) (cs a s b t) a s = cs a s b t
  r1 : cb (cb a b) b = cb a b
  r2 : cs (cb a b) (cs a s b t) b t = cs a s b t
  g1 : a ≤ cb a b
  g2 : b ≤ cb a b
  g3 : 16 ≤ cb a b
  p : (cb a b = pb a ∧ cs a s b t = ps a s) ∨ (cb a b = pb b ∧ cs a s b t = ps b t)
  a1 : cb (cb a b) c = cb a (cb b c)
  a2 : cs (cb a b) (cs a s b t) c u = cs a s (cb b c) (cs b t c u)
theorem cm_dec : ∀ a ∈ [(8 : Int), 16, 32, 64], ∀ s : Bool, ∀ b ∈ [(8 : Int), 16, 32, 64], ∀ t : Bool, ∀ c ∈ [(8 : Int), 16, 32, 64], ∀ u : Bool,
    (cb b a = cb a b ∧ cs b t a s = cs a s b t ∧ cb (cb a b) (cb a b) = cb a b ∧ cs (cb a b) (cs a s b t) (cb a b) (cs a s b t) = cs a s b t) ∧ (cb (cb a b) a = cb a b ∧ cs (cb a b) (cs a s b t) a s = cs a s b t ∧ cb (cb a b) b = cb a b ∧ cs (cb a b) (cs a s b t) b t = cs a s b t) ∧ (a ≤ cb a b ∧ b ≤ cb a b ∧ 16 ≤ cb a b) ∧ ((cb a b = pb a ∧ cs a s b t = ps a s) ∨ (cb a b = pb b ∧ cs a s b t = ps b t)) ∧ cb (cb a b) c = cb a (cb b c) ∧ cs (cb a b) (cs a s b t) c u = cs a s (cb b c) (cs b t c u) := by decide +kernel
theorem isW_mem {a : Int} (h : IsW a) : a ∈ [(8 : Int), 16, 32, 64] := by rcases h with rfl | rfl | rfl | rfl <;> decide
theorem cm_all {a b c : Int} (ha : IsW a) (hb : IsW b) (hc : IsW c) (s t u : Bool) : Cm a s b t c u := by
  obtain ⟨⟨x1, x2, x3, x4⟩, ⟨x5, x6, x7, x8⟩, ⟨x9, x10, x11⟩, x12, x13, x14⟩ := cm_dec a (isW_mem ha) s b (isW_mem hb) t c (isW_mem hc) u
  exact ⟨x1, x2, x3, x4, x5, x6, x7, x8, x9, x10, x11, x12, x13, x14⟩
end Go.Proofs.YtaidefdbjcgcbaaGreat
