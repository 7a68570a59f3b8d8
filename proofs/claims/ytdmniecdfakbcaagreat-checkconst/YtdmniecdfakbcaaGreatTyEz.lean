/-
  Types of numbers: what Binary answers.
-/
import Derived.Test.YtdmniecdfakbcaaGreatTyCz
namespace Go.Proofs.YtdmniecdfakbcaaGreat
open Go.RowKit
set_option linter.unusedSimpArgs false
set_option linter.unusedVariables false

/-- A shift. -/
def shf (k : Int) (s : Bool) (n a m : Int) : Int := if k = 14 then cut n (a * 2 ^ min m.toNat 64) else cut n (mn s n a / 2 ^ min m.toNat 64)
theorem shifted_any (k a m n : Int) (s : Bool) (w : World) (hk : k = 14 ∨ k = 15) (h : IsW n) (ha : U a) (hm : U m) : Calls Tryz.prog 80 #[.int .i64 k, .int .u64 a, .int .u64 m, .agg #[.int .i64 n, .bool s]] w fun e w' => e = .returned (.tuple #[.int .u64 (shf k s n a m), .int .i64 0]) ∧ Below w.heap.size w w' := by
  rcases hk with rfl | rfl
  · have HL := hide (fun w => shl_any a m n w h ha hm)
    have e1 : shf 14 s n a m = cut n (a * 2 ^ min m.toNat 64) := rfl
    rw [e1]
    generalize cut n (a * 2 ^ min m.toNat 64) = R at *
    go_enter Tryz.func80, Tryz.ntmps80
    go_wp2_with (go_at_call 98; refine (unhide HL _).mono ?_; rintro e w1 ⟨rfl, k1⟩)
    go_ret2
    exact ⟨rfl, bT (below_a _ _) k1⟩
  · have HL : Hid (∀ w, Calls Tryz.prog 99 #[.int .u64 a, .int .u64 m, .int .i64 n, .bool s] w fun e w' => e = .returned (.tuple #[.int .u64 (shf 15 s n a m), .int .i64 0]) ∧ Below w.heap.size w w') := by
      intro w
      cases s
      · have e1 : shf 15 false n a m = cut n a / 2 ^ min m.toNat 64 := cut_div h a _
        rw [e1]
        exact shr_u a m n w h ha hm
      · exact shr_s a m n w h ha hm
    generalize shf 15 s n a m = R at *
    go_enter Tryz.func80, Tryz.ntmps80
    go_wp2_with (go_at_call 99; refine (unhide HL _).mono ?_; rintro e w1 ⟨rfl, k1⟩)
    go_ret2
    exact ⟨rfl, bT (below_a _ _) k1⟩

/-- What neither shifts nor compares: the number, and what is told of it. -/
def wrk (k : Int) (s : Bool) (n a b : Int) : Int × Int :=
  if k = 9 then (cut n (a * b), 0) else if k = 10 then (if cut n b = 0 then (0, 10) else (cut n ((mn s n a).tdiv (mn s n b)), 0)) else if k = 11 then (if cut n b = 0 then (0, 10) else (cut n ((mn s n a).tmod (mn s n b)), 0))
  else if k = 12 then (cut n (a + b), 0) else if k = 13 then (cut n (a - b), 0) else if k = 22 then (bits .and .u64 a b, 0) else if k = 23 then (bits .xor .u64 a b, 0) else (bits .or .u64 a b, 0)
def wkB (k : Int) : Prop := k = 9 ∨ k = 10 ∨ k = 11 ∨ k = 12 ∨ k = 13 ∨ k = 22 ∨ k = 23 ∨ k = 24
theorem worked_any (k a b n : Int) (s : Bool) (w : World) (hk : wkB k) (h : IsW n) (ha : U a) (hb : U b) : Calls Tryz.prog 84 #[.int .i64 k, .int .u64 a, .int .u64 b, .agg #[.int .i64 n, .bool s]] w fun e w' => e = .returned (.tuple #[.int .u64 (wrk k s n a b).1, .int .i64 (wrk k s n a b).2]) ∧ Below w.heap.size w w' := by
  rcases hk with rfl | rfl | rfl | rfl | rfl | rfl | rfl | rfl
  · have HL := hide (fun w => mul_any a b n w h ha hb)
    have e1 : wrk 9 s n a b = (cut n (a * b), 0) := rfl
    rw [e1]
    generalize cut n (a * b) = R at *
    go_enter Tryz.func84, Tryz.ntmps84
    go_wp2_with (go_at_call 101; refine (unhide HL _).mono ?_; rintro e w1 ⟨rfl, k1⟩)
    go_ret2
    exact ⟨rfl, bT (below_a _ _) k1⟩
  · have HL : Hid (∀ w, Calls Tryz.prog 102 #[.int .u64 a, .int .u64 b, .int .i64 n, .bool s] w fun e w' => e = .returned (.tuple #[.int .u64 (wrk 10 s n a b).1, .int .i64 (wrk 10 s n a b).2]) ∧ Below w.heap.size w w') := by
      intro w
      by_cases hz : cut n b = 0
      · have e1 : wrk 10 s n a b = (0, 10) := by simp [wrk, hz]
        rw [e1]
        exact div_zero a b n s w h hb hz
      · cases s
        · have e1 : wrk 10 false n a b = (cut n a / cut n b, 0) := by
            have p := cut_lo h b
            have q := cut_lo h a
            simp only [wrk, hz, mn]
            simp
            rw [Int.tdiv_eq_ediv_of_nonneg q]
            exact divu_num h a b (by omega)
          rw [e1]
          exact div_u a b n w h ha hb hz
        · have e1 : wrk 10 true n a b = (cut n ((sgn n a).tdiv (sgn n b)), 0) := by simp [wrk, hz, mn]
          rw [e1]
          exact div_s a b n w h ha hb hz
    generalize (wrk 10 s n a b).1 = R at *
    generalize (wrk 10 s n a b).2 = E at *
    go_enter Tryz.func84, Tryz.ntmps84
    go_wp2_with (go_at_call 102; refine (unhide HL _).mono ?_; rintro e w1 ⟨rfl, k1⟩)
    go_ret2
    exact ⟨rfl, bT (below_a _ _) k1⟩
  · have HL : Hid (∀ w, Calls Tryz.prog 103 #[.int .u64 a, .int .u64 b, .int .i64 n, .bool s] w fun e w' => e = .returned (.tuple #[.int .u64 (wrk 11 s n a b).1, .int .i64 (wrk 11 s n a b).2]) ∧ Below w.heap.size w w') := by
      intro w
      by_cases hz : cut n b = 0
      · have e1 : wrk 11 s n a b = (0, 10) := by simp [wrk, hz]
        rw [e1]
        exact rem_zero a b n s w h hb hz
      · cases s
        · have e1 : wrk 11 false n a b = (cut n a % cut n b, 0) := by
            have p := cut_lo h b
            have q := cut_lo h a
            simp only [wrk, hz, mn]
            simp
            rw [Int.tmod_eq_emod_of_nonneg q]
            exact remu_num h a b (by omega)
          rw [e1]
          exact rem_u a b n w h ha hb hz
        · have e1 : wrk 11 true n a b = (cut n ((sgn n a).tmod (sgn n b)), 0) := by simp [wrk, hz, mn]
          rw [e1]
          exact rem_s a b n w h ha hb hz
    generalize (wrk 11 s n a b).1 = R at *
    generalize (wrk 11 s n a b).2 = E at *
    go_enter Tryz.func84, Tryz.ntmps84
    go_wp2_with (go_at_call 103; refine (unhide HL _).mono ?_; rintro e w1 ⟨rfl, k1⟩)
    go_ret2
    exact ⟨rfl, bT (below_a _ _) k1⟩
  · have HL := hide (fun w => add_any a b n w h ha hb)
    have e1 : wrk 12 s n a b = (cut n (a + b), 0) := rfl
    rw [e1]
    generalize cut n (a + b) = R at *
    go_enter Tryz.func84, Tryz.ntmps84
    go_wp2_with (go_at_call 104; refine (unhide HL _).mono ?_; rintro e w1 ⟨rfl, k1⟩)
    go_ret2
    exact ⟨rfl, bT (below_a _ _) k1⟩
  · have HL := hide (fun w => sub_any a b n w h ha hb)
    have e1 : wrk 13 s n a b = (cut n (a - b), 0) := rfl
    rw [e1]
    generalize cut n (a - b) = R at *
    go_enter Tryz.func84, Tryz.ntmps84
    go_wp2_with (go_at_call 105; refine (unhide HL _).mono ?_; rintro e w1 ⟨rfl, k1⟩)
    go_ret2
    exact ⟨rfl, bT (below_a _ _) k1⟩
  · have e1 : wrk 22 s n a b = (bits .and .u64 a b, 0) := rfl
    rw [e1]
    go_enter Tryz.func84, Tryz.ntmps84
    go_wp2
    go_ret2
    exact ⟨rfl, below_a _ _⟩
  · have e1 : wrk 23 s n a b = (bits .xor .u64 a b, 0) := rfl
    rw [e1]
    go_enter Tryz.func84, Tryz.ntmps84
    go_wp2
    go_ret2
    exact ⟨rfl, below_a _ _⟩
  · have e1 : wrk 24 s n a b = (bits .or .u64 a b, 0) := rfl
    rw [e1]
    go_enter Tryz.func84, Tryz.ntmps84
    go_wp2
    go_ret2
    exact ⟨rfl, below_a _ _⟩
end Go.Proofs.YtdmniecdfakbcaaGreat

/-
  Types of numbers: what Binary answers.
-/
namespace Go.Proofs.YtdmniecdfakbcaaGreat
open Go.RowKit
set_option linter.unusedSimpArgs false
set_option linter.unusedVariables false

theorem isW_p {b : Int} (h : IsW b) : IsW (pb b) := by
  unfold pb
  split
  · exact .inr (.inl rfl)
  · exact h
theorem isW_c {a b : Int} (ha : IsW a) (hb : IsW b) : IsW (cb a b) := by
  unfold cb
  split
  · exact isW_p hb
  · exact isW_p ha
theorem u_conv {x a b : Int} {s : Bool} (h : IsW b) : U (conv x a s b) := u_cut h _

set_option maxHeartbeats 1000000 in
theorem binary_no (k a b x y : Int) (s t : Bool) (w : World) (h : NoW x ∨ (IsW x ∧ NoW y) ∨ (IsW x ∧ IsW y ∧ (k < 9 ∨ 24 < k))) : Calls Tryz.prog 53 #[.int .i64 k, .int .u64 a, .int .u64 b, .agg #[.int .i64 x, .bool s], .agg #[.int .i64 y, .bool t]] w fun e w' => e = .returned (.tuple #[.int .u64 0, .int .i64 1]) ∧ Below w.heap.size w w' := by
  rcases h with h | ⟨h1, h2⟩ | ⟨h1, h2, h3⟩
  · go_enter Tryz.func53, Tryz.ntmps53
    go_wp2_with (go_at_call 72; refine (tvalid_no _ _ _ h).mono ?_; rintro e w1 ⟨rfl, k1⟩)
    go_ret2
    exact ⟨rfl, bT (below_a _ _) (bT (below_a _ _) k1)⟩
  · have B1 := hide (fun (w : World) => tvalid_yes x s w h1)
    have B2 := hide (fun (w : World) => tvalid_no y t w h2)
    go_enter Tryz.func53, Tryz.ntmps53
    go_wp2_with (first | (go_at_call 72; have K := k1; refine (unhide B2 _).mono ?_; rintro e w2 ⟨rfl, k2⟩; clear K) | (go_at_call 72; refine (unhide B1 _).mono ?_; rintro e w1 ⟨rfl, k1⟩; have R := hide ((Box.new (w.alloc (.cells #[.int .i64 x, .bool s] 24)) #[.int .i64 y, .bool t] 24).step k1); obtain ⟨c0, c1⟩ := (unhide R).at2; simp only [World.size_alloc] at c0 c1))
    go_ret2
    exact ⟨rfl, bT (below_a _ _) (bT (below_a _ _) (bT k1 k2))⟩
  · have B1 := hide (fun (w : World) => tvalid_yes x s w h1)
    have B2 := hide (fun (w : World) => tvalid_yes y t w h2)
    by_cases h4 : k < 9
    · have d1 : decide (k < 9) = true := by simpa using h4
      go_enter Tryz.func53, Tryz.ntmps53
      go_wp2_with (first | (go_at_call 72; have K := k1; refine (unhide B2 _).mono ?_; rintro e w2 ⟨rfl, k2⟩; clear K) | (go_at_call 72; refine (unhide B1 _).mono ?_; rintro e w1 ⟨rfl, k1⟩; have R := hide ((Box.new (w.alloc (.cells #[.int .i64 x, .bool s] 24)) #[.int .i64 y, .bool t] 24).step k1); obtain ⟨c0, c1⟩ := (unhide R).at2; simp only [World.size_alloc] at c0 c1))
      go_ret2
      exact ⟨rfl, bT (below_a _ _) (bT (below_a _ _) (bT k1 k2))⟩
    · have d1 : decide (k < 9) = false := by simpa using h4
      have d2 : decide (24 < k) = true := by simp; omega
      go_enter Tryz.func53, Tryz.ntmps53
      go_wp2_with (first | (go_at_call 72; have K := k1; refine (unhide B2 _).mono ?_; rintro e w2 ⟨rfl, k2⟩; clear K) | (go_at_call 72; refine (unhide B1 _).mono ?_; rintro e w1 ⟨rfl, k1⟩; have R := hide ((Box.new (w.alloc (.cells #[.int .i64 x, .bool s] 24)) #[.int .i64 y, .bool t] 24).step k1); obtain ⟨c0, c1⟩ := (unhide R).at2; simp only [World.size_alloc] at c0 c1))
      go_ret2
      exact ⟨rfl, bT (below_a _ _) (bT (below_a _ _) (bT k1 k2))⟩

/-- Two small blocks made one behind the other. -/
structure Duo (w wx : World) (a0 a1 b0 b1 : Value) : Prop where
  bel : Below w.heap.size w wx
  A : Box wx w.heap.size [a0, a1]
  B : Box wx (w.heap.size + 1) [b0, b1]
theorem Duo.new {w w1 : World} {T : TypeId} {a0 a1 b0 b1 : Value} (k : Below ((w.alloc (.cells #[a0, a1] T)).alloc (.cells #[b0, b1] T)).heap.size ((w.alloc (.cells #[a0, a1] T)).alloc (.cells #[b0, b1] T)) w1) : Duo w w1 a0 a1 b0 b1 := by
  have h1 := below_a w (.cells #[a0, a1] T)
  have h2 := below_a (w.alloc (.cells #[a0, a1] T)) (.cells #[b0, b1] T)
  have A := Box.new w #[a0, a1] T
  have B := Box.new (w.alloc (.cells #[a0, a1] T)) #[b0, b1] T
  simp only [World.size_alloc] at B
  exact ⟨bT h1 (bT h2 k), (A.step h2).step k, B.step k⟩
theorem Duo.step {w w1 w2 : World} {a0 a1 b0 b1 : Value} (h : Duo w w1 a0 a1 b0 b1) (k : Below w1.heap.size w1 w2) : Duo w w2 a0 a1 b0 b1 := ⟨bT h.bel k, h.A.step k, h.B.step k⟩
end Go.Proofs.YtdmniecdfakbcaaGreat

/-
  Types of numbers: what Binary answers.
-/
namespace Go.Proofs.YtdmniecdfakbcaaGreat
open Go.RowKit
set_option linter.unusedSimpArgs false
set_option linter.unusedVariables false

theorem Duo.more {w w3 : World} {T : TypeId} {a0 a1 b0 b1 u v : Value} (h : Duo w w3 a0 a1 b0 b1) : Duo w (w3.alloc (.cells #[u, v] T)) a0 a1 b0 b1 ∧ Box (w3.alloc (.cells #[u, v] T)) w3.heap.size [u, v] := ⟨h.step (below_a _ _), Box.new w3 #[u, v] T⟩

set_option maxHeartbeats 2000000 in
theorem binary_work (k a b x y : Int) (s t : Bool) (w : World) (hk : wkB k) (hx : IsW x) (hy : IsW y) (ha : U a) (hb : U b) : Calls Tryz.prog 53 #[.int .i64 k, .int .u64 a, .int .u64 b, .agg #[.int .i64 x, .bool s], .agg #[.int .i64 y, .bool t]] w fun e w' => e = .returned (.tuple #[.int .u64 (wrk k (cs x s y t) (cb x y) (conv a x s (cb x y)) (conv b y t (cb x y))).1, .int .i64 (wrk k (cs x s y t) (cb x y) (conv a x s (cb x y)) (conv b y t (cb x y))).2]) ∧ Below w.heap.size w w' := by
  have hX := isW_c hx hy
  have hs : shB k = false := by rcases hk with rfl | rfl | rfl | rfl | rfl | rfl | rfl | rfl <;> decide
  have hc : cpB k = false := by rcases hk with rfl | rfl | rfl | rfl | rfl | rfl | rfl | rfl <;> decide
  have h9 : 9 ≤ k ∧ k ≤ 24 := by unfold wkB at hk; omega
  have B1 := hide (fun (w : World) => tvalid_yes x s w hx)
  have B2 := hide (fun (w : World) => tvalid_yes y t w hy)
  have d1 : decide (k < 9) = false := by simp; omega
  have d2 : decide (24 < k) = false := by simp; omega
  have SH := hide (fun (w : World) => shifts_any k w)
  rw [hs] at SH
  have CP := hide (fun (w : World) => compares_any k w)
  rw [hc] at CP
  have HK := hide hk
  clear hk hs hc h9
  go_enter Tryz.func53, Tryz.ntmps53
  go_wp2_with (first | (go_at_call 72; have K := R1; refine (unhide B2 _).mono ?_; rintro e w2 ⟨rfl, k2⟩; clear K x0 x1 x2 x3; have R2 := hide ((unhide R1).step k2); obtain ⟨x0, x1⟩ := (unhide R2).A.at2; obtain ⟨x2, x3⟩ := (unhide R2).B.at2) | (go_at_call 72; refine (unhide B1 _).mono ?_; rintro e w1 ⟨rfl, k1⟩; have R1 := hide (Duo.new k1); obtain ⟨x0, x1⟩ := (unhide R1).A.at2; obtain ⟨x2, x3⟩ := (unhide R1).B.at2) | (go_at_call 79; refine (unhide SH _).mono ?_; rintro e w' ⟨rfl, hw⟩; subst w'))
  refine (common_any x s y t w2).mono ?_
  rintro e w3 ⟨rfl, k3⟩
  clear x0 x1 x2 x3
  have R3 := hide ((unhide R2).step k3)
  go_wp2_with fail
  have R4 := hide ((unhide R3).more (T := 24) (u := .int .i64 (cb x y)) (v := .bool (cs x s y t)))
  generalize w3.alloc (.cells #[.int .i64 (cb x y), .bool (cs x s y t)] 24) = w4 at *
  obtain ⟨x0, x1⟩ := (unhide R4).1.A.at2
  obtain ⟨x2, x3⟩ := (unhide R4).1.B.at2
  obtain ⟨x4, x5⟩ := (unhide R4).2.at2
  have l0 := (unhide R4).1.A.1
  have l1 := (unhide R4).1.B.1
  have l2 := (unhide R4).2.1
  refine wp_region_later (by kernel_rfl) (by kernel_rfl) ?_
  intro L hne lt hlc hlf hlm
  repeat (go_big_quiet_step ((go_at_call 50; exact later_call hlm (convert_any _ _ _ _ _ _ (by assumption) (by assumption) (by assumption)))))
  refine wpQuiet_nil ?_
  intro wq kq
  clear hlm hlf hlc lt hne L
  obtain ⟨hqc, hqf⟩ := below_cells kq
  have U1 : U (conv a x s (cb x y)) := u_conv hX
  have U2 : U (conv b y t (cb x y)) := u_conv hX
  clear x0 x1 x2 x3 x4 x5 l0 l1 l2 hqc hqf
  have R5 := hide ((unhide R4).2.step kq)
  have K5 := hide (bT (unhide R4).1.bel kq)
  obtain ⟨x4, x5⟩ := (unhide R5).at2
  have WK := hide (fun (w : World) => worked_any k _ _ _ (cs x s y t) w (unhide HK) hX U1 U2)
  go_wp2_with (first | (go_at_call 82; refine (unhide CP _).mono ?_; rintro e w' ⟨rfl, hw⟩; subst w') | (go_at_call 84; refine (unhide WK _).mono ?_; rintro e w6 ⟨rfl, k6⟩))
  go_ret2
  exact ⟨rfl, bT (unhide K5) k6⟩
set_option maxHeartbeats 2000000 in
theorem binary_cmp (k a b x y : Int) (s t : Bool) (w : World) (hk : 16 ≤ k ∧ k ≤ 21) (hx : IsW x) (hy : IsW y) (ha : U a) (hb : U b) : Calls Tryz.prog 53 #[.int .i64 k, .int .u64 a, .int .u64 b, .agg #[.int .i64 x, .bool s], .agg #[.int .i64 y, .bool t]] w fun e w' => e = .returned (.tuple #[.int .u64 (b1 (hld k (cs x s y t) (cb x y) (conv a x s (cb x y)) (conv b y t (cb x y)))), .int .i64 0]) ∧ Below w.heap.size w w' := by
  have hX := isW_c hx hy
  have hs : shB k = false := by unfold shB; rw [beq_eq_false_iff_ne.2 (by omega), beq_eq_false_iff_ne.2 (by omega)]; rfl
  have hc : cpB k = true := by unfold cpB; simp; exact hk
  have B1 := hide (fun (w : World) => tvalid_yes x s w hx)
  have B2 := hide (fun (w : World) => tvalid_yes y t w hy)
  have d1 : decide (k < 9) = false := by simp; omega
  have d2 : decide (24 < k) = false := by simp; omega
  have SH := hide (fun (w : World) => shifts_any k w)
  rw [hs] at SH
  have CP := hide (fun (w : World) => compares_any k w)
  rw [hc] at CP
  have HK := hide hk
  clear hk hs hc
  go_enter Tryz.func53, Tryz.ntmps53
  go_wp2_with (first | (go_at_call 72; have K := R1; refine (unhide B2 _).mono ?_; rintro e w2 ⟨rfl, k2⟩; clear K x0 x1 x2 x3; have R2 := hide ((unhide R1).step k2); obtain ⟨x0, x1⟩ := (unhide R2).A.at2; obtain ⟨x2, x3⟩ := (unhide R2).B.at2) | (go_at_call 72; refine (unhide B1 _).mono ?_; rintro e w1 ⟨rfl, k1⟩; have R1 := hide (Duo.new k1); obtain ⟨x0, x1⟩ := (unhide R1).A.at2; obtain ⟨x2, x3⟩ := (unhide R1).B.at2) | (go_at_call 79; refine (unhide SH _).mono ?_; rintro e w' ⟨rfl, hw⟩; subst w'))
  refine (common_any x s y t w2).mono ?_
  rintro e w3 ⟨rfl, k3⟩
  clear x0 x1 x2 x3
  have R3 := hide ((unhide R2).step k3)
  go_wp2_with fail
  have R4 := hide ((unhide R3).more (T := 24) (u := .int .i64 (cb x y)) (v := .bool (cs x s y t)))
  generalize w3.alloc (.cells #[.int .i64 (cb x y), .bool (cs x s y t)] 24) = w4 at *
  obtain ⟨x0, x1⟩ := (unhide R4).1.A.at2
  obtain ⟨x2, x3⟩ := (unhide R4).1.B.at2
  obtain ⟨x4, x5⟩ := (unhide R4).2.at2
  have l0 := (unhide R4).1.A.1
  have l1 := (unhide R4).1.B.1
  have l2 := (unhide R4).2.1
  refine wp_region_later (by kernel_rfl) (by kernel_rfl) ?_
  intro L hne lt hlc hlf hlm
  repeat (go_big_quiet_step ((go_at_call 50; exact later_call hlm (convert_any _ _ _ _ _ _ (by assumption) (by assumption) (by assumption)))))
  refine wpQuiet_nil ?_
  intro wq kq
  clear hlm hlf hlc lt hne L
  obtain ⟨hqc, hqf⟩ := below_cells kq
  have U1 : U (conv a x s (cb x y)) := u_conv hX
  have U2 : U (conv b y t (cb x y)) := u_conv hX
  clear x0 x1 x2 x3 x4 x5 l0 l1 l2 hqc hqf
  have R5 := hide ((unhide R4).2.step kq)
  have K5 := hide (bT (unhide R4).1.bel kq)
  obtain ⟨x4, x5⟩ := (unhide R5).at2
  have WK := hide (fun (w : World) => holds_any k _ _ _ (cs x s y t) w (unhide HK) hX U1 U2)
  go_wp2_with (first | (go_at_call 82; refine (unhide CP _).mono ?_; rintro e w' ⟨rfl, hw⟩; subst w') | (go_at_call 83; refine (unhide WK _).mono ?_; rintro e w6 ⟨rfl, k6⟩) | (go_at_call 76; refine (oneIf_any _ _).mono ?_; rintro e w' ⟨rfl, hw⟩; subst w'))
  go_ret2
  exact ⟨rfl, bT (unhide K5) k6⟩
set_option maxHeartbeats 2000000 in
theorem binary_shift (k a b x y : Int) (s t : Bool) (w : World) (hk : k = 14 ∨ k = 15) (hx : IsW x) (hy : IsW y) (ha : U a) (hb : U b) : Calls Tryz.prog 53 #[.int .i64 k, .int .u64 a, .int .u64 b, .agg #[.int .i64 x, .bool s], .agg #[.int .i64 y, .bool t]] w fun e w' => e = .returned (.tuple #[.int .u64 (shf k (ps x s) (pb x) (conv a x s (pb x)) (conv b y t 16)), .int .i64 0]) ∧ Below w.heap.size w w' := by
  have hX := isW_p hx
  have h16 : IsW 16 := .inr (.inl rfl)
  have hs : shB k = true := by rcases hk with rfl | rfl <;> decide
  have B1 := hide (fun (w : World) => tvalid_yes x s w hx)
  have B2 := hide (fun (w : World) => tvalid_yes y t w hy)
  have d1 : decide (k < 9) = false := by simp; omega
  have d2 : decide (24 < k) = false := by simp; omega
  have SH := hide (fun (w : World) => shifts_any k w)
  rw [hs] at SH
  have HK := hide hk
  have HU1 := hide (u_conv (x := a) (a := x) (s := s) hX)
  have HU2 := hide (u_conv (x := b) (a := y) (s := t) h16)
  clear hk hs
  go_enter Tryz.func53, Tryz.ntmps53
  go_wp2_with (first | (go_at_call 72; have K := R1; refine (unhide B2 _).mono ?_; rintro e w2 ⟨rfl, k2⟩; clear K x0 x1 x2 x3; have R2 := hide ((unhide R1).step k2); obtain ⟨x0, x1⟩ := (unhide R2).A.at2; obtain ⟨x2, x3⟩ := (unhide R2).B.at2) | (go_at_call 72; refine (unhide B1 _).mono ?_; rintro e w1 ⟨rfl, k1⟩; have R1 := hide (Duo.new k1); obtain ⟨x0, x1⟩ := (unhide R1).A.at2; obtain ⟨x2, x3⟩ := (unhide R1).B.at2) | (go_at_call 79; refine (unhide SH _).mono ?_; rintro e w' ⟨rfl, hw⟩; subst w'))
  refine (promote_any x s w2).mono ?_
  rintro e w3 ⟨rfl, k3⟩
  clear x0 x1 x2 x3
  have R3 := hide ((unhide R2).step k3)
  go_wp2_with fail
  have R4 := hide ((unhide R3).more (T := 24) (u := .int .i64 (pb x)) (v := .bool (ps x s)))
  generalize w3.alloc (.cells #[.int .i64 (pb x), .bool (ps x s)] 24) = w4 at *
  obtain ⟨x0, x1⟩ := (unhide R4).1.A.at2
  obtain ⟨x2, x3⟩ := (unhide R4).1.B.at2
  obtain ⟨x4, x5⟩ := (unhide R4).2.at2
  have l0 := (unhide R4).1.A.1
  have l1 := (unhide R4).1.B.1
  have l2 := (unhide R4).2.1
  refine wp_region_later (by kernel_rfl) (by kernel_rfl) ?_
  intro L hne lt hlc hlf hlm
  repeat (go_big_quiet_step (first | (go_at_call 50; exact later_call hlm (convert_any _ _ _ _ _ _ (by assumption) (by assumption) (by assumption))) | (go_at_call 80; exact later_call hlm (shifted_any _ _ _ _ _ _ (unhide HK) hX (unhide HU1) (unhide HU2)))))
  refine wpQuiet_nil ?_
  intro wq kq
  clear hlm hlf hlc lt hne L
  obtain ⟨hqc, hqf⟩ := below_cells kq
  have K5 := hide (bT (unhide R4).1.bel kq)
  go_wp2_with fail
  go_ret2
  exact ⟨rfl, unhide K5⟩
end Go.Proofs.YtdmniecdfakbcaaGreat
