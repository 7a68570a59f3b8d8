/-
  WordFlags answers true: behind a difference the borrow tells that the first one was less, and with signs that N is not V.
-/
import Derived.Test.YtljccpgcfkgllabRows3
namespace Go.Proofs.Ytljccpgcfkgllab
open Go.RowKit

theorem md_b (z : Int) : 0 ≤ z % 65536 ∧ z % 65536 ≤ 65535 := by omega
theorem low_b {p0 p1 p2 : Int} (h0 : 0 ≤ p0 ∧ p0 ≤ 65535) (h1 : 0 ≤ p1 ∧ p1 ≤ 65535) (h2 : 0 ≤ p2 ∧ p2 ≤ 65535) : 0 ≤ p0 + 65536 * (p1 + 65536 * p2) ∧ p0 + 65536 * (p1 + 65536 * p2) < 281474976710656 := by omega
theorem nv_of (s w : Int) (h : -65536 ≤ s ∧ s ≤ 65535) (e : w = s % 65536) : (decide (sw w < 0) != (s != sw w)) = decide (s < 0) := by
  have hs : sw w = (w + 32768) % 65536 - 32768 := rfl
  by_cases c1 : sw w < 0
  · by_cases c2 : s = sw w
    · have : (s != sw w) = false := by simp [← c2]
      rw [this, decide_eq_true c1, decide_eq_true (by omega)]; rfl
    · have : (s != sw w) = true := by simpa using c2
      rw [this, decide_eq_true c1, decide_eq_false (by omega)]; rfl
  · by_cases c2 : s = sw w
    · have : (s != sw w) = false := by simp [← c2]
      rw [this, decide_eq_false c1, decide_eq_false (by omega)]; rfl
    · have : (s != sw w) = true := by simpa using c2
      rw [this, decide_eq_false c1, decide_eq_true (by omega)]; rfl
theorem sw_of {x : Int} (h : 0 ≤ x ∧ x ≤ 65535) : sw x = if x < 32768 then x else x - 65536 := by unfold sw; split <;> omega
theorem nv_step (xs ys : Nat → Int) (i : Nat) (hx : 0 ≤ xs i ∧ xs i ≤ 65535) (hy : 0 ≤ ys i ∧ ys i ≤ 65535) :
    ((diff xs ys (i + 1)).2.2.1 != (diff xs ys (i + 1)).2.2.2) = decide (sw (xs i) - sw (ys i) - oi (difcy xs ys i) < 0) := by
  have hc := oi_b (difcy xs ys i)
  have h1 := sw_b (xs i); have h2 := sw_b (ys i)
  have e := (dif_step xs ys i hx hy).2
  have e1 := sw_of hx; have e2 := sw_of hy
  exact nv_of (sw (xs i) - sw (ys i) - oi (difcy xs ys i)) (difw xs ys i) (by omega) (by rw [e, e1, e2]; split <;> split <;> omega)
theorem low3 {X Y u0 u1 u2 u3 v0 v1 v2 v3 q1 q2 q3 m0 m1 m2 : Int} (eX : X = u0 + 65536 * (u1 + 65536 * (u2 + 65536 * u3))) (eY : Y = v0 + 65536 * (v1 + 65536 * (v2 + 65536 * v3)))
    (t0 : u0 - v0 - 0 = m0 - 65536 * q1) (t1 : u1 - v1 - q1 = m1 - 65536 * q2) (t2 : u2 - v2 - q2 = m2 - 65536 * q3) (g0 : 0 ≤ m0 ∧ m0 ≤ 65535) (g1 : 0 ≤ m1 ∧ m1 ≤ 65535) (g2 : 0 ≤ m2 ∧ m2 ≤ 65535) :
    ∃ M, 0 ≤ M ∧ M < 281474976710656 ∧ X - Y = 281474976710656 * (u3 - v3 - q3) + M :=
  ⟨m0 + 65536 * (m1 + 65536 * m2), by omega, by omega, by omega⟩
theorem top4 {X Y u3 v3 q3 M : Int} (hx : 0 ≤ u3 ∧ u3 ≤ 65535) (hy : 0 ≤ v3 ∧ v3 ≤ 65535) (M0 : 0 ≤ M) (M1 : M < 281474976710656) (e : X - Y = 281474976710656 * (u3 - v3 - q3) + M) (x0 : 281474976710656 * u3 ≤ X) (x1 : X < 281474976710656 * u3 + 281474976710656) (y0 : 281474976710656 * v3 ≤ Y) (y1 : Y < 281474976710656 * v3 + 281474976710656) :
    (if u3 < 32768 then u3 else u3 - 65536) - (if v3 < 32768 then v3 else v3 - 65536) - q3 < 0 ↔ (if 2 * X < 18446744073709551616 then X else X - 18446744073709551616) < (if 2 * Y < 18446744073709551616 then Y else Y - 18446744073709551616) := by
  have a : (2 * X < 18446744073709551616) ↔ u3 < 32768 := by omega
  have b : (2 * Y < 18446744073709551616) ↔ v3 < 32768 := by omega
  by_cases c : u3 < 32768
  · by_cases d : v3 < 32768
    · rw [if_pos c, if_pos d, if_pos (a.2 c), if_pos (b.2 d)]; omega
    · rw [if_pos c, if_neg d, if_pos (a.2 c), if_neg (fun h => d (b.1 h))]; omega
  · by_cases d : v3 < 32768
    · rw [if_neg c, if_pos d, if_neg (fun h => c (a.1 h)), if_pos (b.2 d)]; omega
    · rw [if_neg c, if_neg d, if_neg (fun h => c (a.1 h)), if_neg (fun h => d (b.1 h))]; omega

theorem nv_all {n : Int} {L : Nat} (h : Wide n L) (a b : Int) :
    ((diff (wdf (cut n a)) (wdf (cut n b)) L).2.2.1 != (diff (wdf (cut n a)) (wdf (cut n b)) L).2.2.2) = decide (sgn n a < sgn n b) := by
  have hw := h.isW
  have x0 := cut_lo hw a; have x1 := cut_lt hw a
  have y0 := cut_lo hw b; have y1 := cut_lt hw b
  unfold sgn
  generalize cut n a = X at *
  generalize cut n b = Y at *
  have s0 := dif_step (wdf X) (wdf Y) 0 (wdf_b X 0) (wdf_b Y 0)
  simp only [Nat.zero_add] at s0
  have z0 : oi (difcy (wdf X) (wdf Y) 0) = 0 := rfl
  rcases h with ⟨rfl, rfl⟩ | ⟨rfl, rfl⟩ | ⟨rfl, rfl⟩
  · rw [md_16] at *
    have t := nv_step (wdf X) (wdf Y) 0 (wdf_b X 0) (wdf_b Y 0)
    simp only [Nat.zero_add] at t
    rw [t, decide_eq_decide, sw_of (wdf_b X 0), sw_of (wdf_b Y 0), z0, wdf_0, wdf_0]
    have eX : X % 65536 = X := by omega
    have eY : Y % 65536 = Y := by omega
    rw [eX, eY]
    clear t s0 z0
    by_cases c : X < 32768
    · by_cases d : Y < 32768
      · rw [if_pos c, if_pos d, if_pos (by omega), if_pos (by omega)]; omega
      · rw [if_pos c, if_neg d, if_pos (by omega), if_neg (by omega)]; omega
    · by_cases d : Y < 32768
      · rw [if_neg c, if_pos d, if_neg (by omega), if_pos (by omega)]; omega
      · rw [if_neg c, if_neg d, if_neg (by omega), if_neg (by omega)]; omega
  · rw [md_32] at *
    have t := nv_step (wdf X) (wdf Y) 1 (wdf_b X 1) (wdf_b Y 1)
    simp only [Nat.reduceAdd] at t
    rw [t, decide_eq_decide, sw_of (wdf_b X 1), sw_of (wdf_b Y 1), wdf_1, wdf_1]
    rw [z0, wdf_0, wdf_0] at s0
    have eX : X / 65536 % 65536 = X / 65536 := by omega
    have eY : Y / 65536 % 65536 = Y / 65536 := by omega
    have q := s0.1
    have m := lin_dif s0
    rw [eX, eY]
    clear t s0 z0
    generalize oi (difcy (wdf X) (wdf Y) 1) = k at *
    by_cases c : X / 65536 < 32768
    · by_cases d : Y / 65536 < 32768
      · rw [if_pos c, if_pos d, if_pos (by omega), if_pos (by omega)]; omega
      · rw [if_pos c, if_neg d, if_pos (by omega), if_neg (by omega)]; omega
    · by_cases d : Y / 65536 < 32768
      · rw [if_neg c, if_pos d, if_neg (by omega), if_pos (by omega)]; omega
      · rw [if_neg c, if_neg d, if_neg (by omega), if_neg (by omega)]; omega
  · rw [md_64] at *
    have s1 := dif_step (wdf X) (wdf Y) 1 (wdf_b X 1) (wdf_b Y 1)
    simp only [Nat.reduceAdd] at s1
    have s2 := dif_step (wdf X) (wdf Y) 2 (wdf_b X 2) (wdf_b Y 2)
    simp only [Nat.reduceAdd] at s2
    have t := nv_step (wdf X) (wdf Y) 3 (wdf_b X 3) (wdf_b Y 3)
    simp only [Nat.reduceAdd] at t
    rw [t, decide_eq_decide, sw_of (wdf_b X 3), sw_of (wdf_b Y 3), wdf_3, wdf_3]
    rw [z0, wdf_0, wdf_0] at s0
    rw [wdf_1, wdf_1] at s1
    rw [wdf_2, wdf_2] at s2
    have eX := comp4 X x0 x1
    have eY := comp4 Y y0 y1
    have t0 := lin_dif s0
    have t1 := lin_dif s1
    have t2 := lin_dif s2
    obtain ⟨M, M0, M1, eM⟩ := low3 eX eY t0.1 t1.1 t2.1 t0.2 t1.2 t2.2
    have hx := md_b (X / 65536 / 65536 / 65536)
    have hy := md_b (Y / 65536 / 65536 / 65536)
    have r1 := low_b (md_b X) (md_b (X / 65536)) (md_b (X / 65536 / 65536))
    have r2 := low_b (md_b Y) (md_b (Y / 65536)) (md_b (Y / 65536 / 65536))
    clear t s0 s1 s2 t0 t1 t2 z0
    generalize X / 65536 / 65536 / 65536 % 65536 = u3 at *
    generalize Y / 65536 / 65536 / 65536 % 65536 = v3 at *
    generalize X % 65536 = a0 at *
    generalize X / 65536 % 65536 = a1 at *
    generalize X / 65536 / 65536 % 65536 = a2 at *
    generalize Y % 65536 = b0 at *
    generalize Y / 65536 % 65536 = b1 at *
    generalize Y / 65536 / 65536 % 65536 = b2 at *
    exact top4 hx hy M0 M1 eM (by omega) (by omega) (by omega) (by omega)

set_option maxHeartbeats 400000 in
theorem wf_no (a b n : Int) (w : World) (h : NoW n) :
    Calls Try.prog 6 #[.int .u64 a, .int .u64 b, .int .i64 n] w fun e w' => e = .returned (.bool true) ∧ Below w.heap.size w w' := by
  go_enter Try.func6, Try.ntmps6
  go_wp2_with fail
  refine (alive_any _).mono ?_
  rintro e w1 ⟨rfl, hb⟩
  go_wp2_with (first | (go_at_call 9; refine (width_no _ _ h).mono ?_; rintro e w' ⟨rfl, rfl⟩))
  go_ret
  exact ⟨rfl, hb⟩
set_option maxRecDepth 100000 in
set_option maxHeartbeats 400000 in
theorem wf_8 (a b : Int) (w : World) :
    Calls Try.prog 6 #[.int .u64 a, .int .u64 b, .int .i64 8] w fun e w' => e = .returned (.bool true) ∧ Below w.heap.size w w' := by
  go_enter Try.func6, Try.ntmps6
  go_wp2_with fail
  refine (alive_any _).mono ?_
  rintro e w1 ⟨rfl, hb⟩
  go_wp2_with (first | (go_at_call 9; refine (width_yes _ (.inl rfl) _).mono ?_; rintro e w' ⟨rfl, rfl⟩))
  go_ret
  exact ⟨rfl, hb⟩

set_option maxRecDepth 100000 in
set_option maxHeartbeats 600000 in
theorem wf_yes (a b n : Int) (L : Nat) (w : World) (h : Wide n L) (ha : U a) (hb : U b) :
    Calls Try.prog 6 #[.int .u64 a, .int .u64 b, .int .i64 n] w fun e w' => e = .returned (.bool true) ∧ Below w.heap.size w w' := by
  have hw := h.isW
  have hn : 16 ≤ n := by rcases h with ⟨rfl, _⟩ | ⟨rfl, _⟩ | ⟨rfl, _⟩ <;> omega
  have hnv := nv_all h a b
  have HS := hide (sub_row a b n L)
  have HL := hide (less_s a b n)
  generalize (diff (wdf (cut n a)) (wdf (cut n b)) L).2.2.1 = N at hnv HS
  generalize (diff (wdf (cut n a)) (wdf (cut n b)) L).2.2.2 = V at hnv HS
  generalize decide (sgn n a < sgn n b) = B at hnv HL
  have hnv' : ((!(N == V)) == B) = true := by
    have e : (!(N == V)) = B := hnv
    rw [e]; simp
  clear hnv
  go_enter Try.func6, Try.ntmps6
  go_wp2_with fail
  refine (alive_any _).mono ?_
  rintro e w1 ⟨rfl, k1⟩
  go_wp2_with fail
  refine (width_yes _ hw _).mono ?_
  rintro e w2 ⟨rfl, rfl⟩
  go_wp2_with fail
  refine (split_row a n L _ h ha).mono ?_
  rintro e w3 ⟨rfl, k3, R3⟩
  go_wp2_with fail
  refine (split_row b n L _ h hb).mono ?_
  rintro e w4 ⟨rfl, k4, R4⟩
  replace R3 := R3.step k4
  go_wp2_with fail
  refine (unhide HS _ _ _ h R3 R4).mono ?_
  rintro e w5 ⟨rfl, k5, R5⟩
  go_wp2_with fail
  refine (less_u a b n _ hw ha hb).mono ?_
  rintro e w6 ⟨rfl, hw6⟩
  subst w6
  go_wp2_with fail
  refine (unhide HL _ hw ha hb).mono ?_
  rintro e w7 ⟨rfl, hw7⟩
  subst w7
  go_wp2
  go_ret
  exact ⟨rfl, (bt (bt (bt (bt k1 k3) k4) k5) (al _))⟩

theorem walk_wordFlags (a0 a1 a2 : Int) (w0 : (Lit.int .u64 a0).wf = true) (w1 : (Lit.int .u64 a1).wf = true) (_w2 : (Lit.int .i64 a2).wf = true) (w : World) :
    Calls Try.prog 6 #[.int .u64 a0, .int .u64 a1, .int .i64 a2] w fun e w' => e = .returned (.bool true) ∧ Below w.heap.size w w' := by
  rcases isW_or a2 with h | h
  · rcases wide_of h with rfl | ⟨L, h⟩
    · exact wf_8 a0 a1 w
    · exact wf_yes a0 a1 a2 L w h (bounds_u w0) (bounds_u w1)
  · exact wf_no a0 a1 a2 w h
end Go.Proofs.Ytljccpgcfkgllab
