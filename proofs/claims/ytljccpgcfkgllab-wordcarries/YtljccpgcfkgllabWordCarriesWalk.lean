/-
  WordCarries answers true: a carry chain is a wide sum, and a wide difference.
-/
import Derived.Test.YtljccpgcfkgllabRows3
namespace Go.Proofs.Ytljccpgcfkgllab
open Go.RowKit

set_option maxHeartbeats 400000 in
theorem wc_no (a b n : Int) (w : World) (h : NoW n) :
    Calls Try.prog 5 #[.int .u64 a, .int .u64 b, .int .i64 n] w fun e w' => e = .returned (.bool true) ∧ Below w.heap.size w w' := by
  go_enter Try.func5, Try.ntmps5
  go_wp2_with fail
  refine (alive_any _).mono ?_
  rintro e w1 ⟨rfl, hb⟩
  go_wp2_with (first | (go_at_call 9; refine (width_no _ _ h).mono ?_; rintro e w' ⟨rfl, rfl⟩))
  go_ret
  exact ⟨rfl, hb⟩
set_option maxRecDepth 100000 in
set_option maxHeartbeats 400000 in
theorem wc_8 (a b : Int) (w : World) :
    Calls Try.prog 5 #[.int .u64 a, .int .u64 b, .int .i64 8] w fun e w' => e = .returned (.bool true) ∧ Below w.heap.size w w' := by
  go_enter Try.func5, Try.ntmps5
  go_wp2_with fail
  refine (alive_any _).mono ?_
  rintro e w1 ⟨rfl, hb⟩
  go_wp2_with (first | (go_at_call 9; refine (width_yes _ (.inl rfl) _).mono ?_; rintro e w' ⟨rfl, rfl⟩))
  go_ret
  exact ⟨rfl, hb⟩

set_option maxRecDepth 100000 in
set_option maxHeartbeats 600000 in
theorem wc_yes (a b n : Int) (L : Nat) (w : World) (h : Wide n L) (ha : U a) (hb : U b) :
    Calls Try.prog 5 #[.int .u64 a, .int .u64 b, .int .i64 n] w fun e w' => e = .returned (.bool true) ∧ Below w.heap.size w w' := by
  have hw := h.isW
  have hl := h.len
  have hn : 16 ≤ n := by rcases h with ⟨rfl, _⟩ | ⟨rfl, _⟩ | ⟨rfl, _⟩ <;> omega
  go_enter Try.func5, Try.ntmps5
  go_wp2_with fail
  refine (alive_any _).mono ?_
  rintro e w1 ⟨rfl, k1⟩
  go_wp2_with fail
  refine (width_yes _ hw _).mono ?_
  rintro e w2 ⟨rfl, rfl⟩
  go_wp2_with fail
  refine (split_row a n L _ h ha).mono ?_
  rintro e w3 ⟨rfl, k3, R3⟩
  go_wp2_with fail
  refine (split_row b n L _ h hb).mono ?_
  rintro e w4 ⟨rfl, k4, R4⟩
  replace R3 := R3.step k4
  go_wp2_with fail
  obtain ⟨N, V, HA⟩ := add_row a b n L _ _ w4 h R3 R4
  refine HA.mono ?_
  clear HA
  rintro e w5 ⟨rfl, k5, R5⟩
  replace R3 := R3.step k5
  replace R4 := R4.step k5
  go_wp2_with fail
  have HU := hide (sub_row a b n L _ _ _ h (R3.alloc (.cells #[.bool (decide (cut n (a + b) < cut n a)), .bool (cut n (a + b) == 0), .bool N, .bool V] 37)) (R4.alloc _))
  refine (unhide HU).mono ?_
  clear HU
  rintro e w6 ⟨rfl, k6, R6⟩
  simp only [World.size_alloc] at R6
  have F0 : At w6 w5.heap.size 0 (.bool (decide (cut n (a + b) < cut n a))) := At.step (u := w5.alloc _) ⟨by simp, by simp [go_sem]⟩ k6
  have F1 : At w6 w5.heap.size 1 (.bool (cut n (a + b) == 0)) := At.step (u := w5.alloc _) ⟨by simp, by simp [go_sem]⟩ k6
  replace R5 := (R5.alloc _).step k6
  have kk := bt (bt (bt (bt k1 k3) k4) k5) (bt (al _) k6)
  clear k1 k3 k4 k5 k6 R3 R4
  go_wp2_with fail
  refine (add_any a b n _ hw ha hb).mono ?_
  rintro e w7 ⟨rfl, k7⟩
  have G1 : At w7 w6.heap.size 1 (.bool (cut n (a - b) == 0)) := At.step (u := w6.alloc _) ⟨by simp, by simp [go_sem]⟩ k7
  replace F0 := (F0.step (al _)).step k7
  replace F1 := (F1.step (al _)).step k7
  replace R5 := (R5.alloc _).step k7
  replace R6 := (R6.alloc _).step k7
  replace kk := bt kk (bt (al _) k7)
  clear k7
  go_wp2_with fail
  refine (sub_any a b n _ hw ha hb).mono ?_
  rintro e w8 ⟨rfl, k8⟩
  replace F0 := F0.step k8
  replace F1 := F1.step k8
  replace G1 := G1.step k8
  replace R5 := R5.step k8
  replace R6 := R6.step k8
  replace kk := bt kk k8
  clear k8
  go_wp2_with fail
  refine (split_row (cut n (a + b)) n L _ h (u_cut hw _)).mono ?_
  rintro e w9 ⟨rfl, k9, R9⟩
  replace F0 := F0.step k9
  replace F1 := F1.step k9
  replace G1 := G1.step k9
  replace R5 := R5.step k9
  replace R6 := R6.step k9
  replace kk := bt kk k9
  clear k9
  go_wp2_with fail
  refine (split_row (cut n (a - b)) n L _ h (u_cut hw _)).mono ?_
  rintro e w10 ⟨rfl, k10, R10⟩
  replace F0 := F0.step k10
  replace F1 := F1.step k10
  replace G1 := G1.step k10
  replace R5 := R5.step k10
  replace R6 := R6.step k10
  replace R9 := R9.step k10
  replace kk := bt kk k10
  clear k10
  go_wp2_with fail
  refine (cut_any a n _ hw ha).mono ?_
  rintro e w11 ⟨rfl, rfl⟩
  go_wp2_with fail
  refine (same_yes L _ _ _ _ _ _ hl.2 R5 R9).mono ?_
  rintro e w12 ⟨rfl, q, hq⟩
  subst w12
  have R6' : Row (w11.drewN q) _ L _ := ⟨R6.1, R6.2⟩
  have R10' : Row (w11.drewN q) _ L _ := ⟨R10.1, R10.2⟩
  go_wp2_with fail
  refine (same_yes L _ _ _ _ _ _ hl.2 R6' R10').mono ?_
  rintro e w13 ⟨rfl, q', hq'⟩
  subst w13
  have c0 := F0.2
  have c1 := F1.2
  have c2 := G1.2
  go_wp2
  go_ret
  exact ⟨rfl, ⟨kk.os, kk.tape, kk.output, kk.size, kk.block⟩⟩

theorem walk_wordCarries (a0 a1 a2 : Int) (w0 : (Lit.int .u64 a0).wf = true) (w1 : (Lit.int .u64 a1).wf = true) (_w2 : (Lit.int .i64 a2).wf = true) (w : World) :
    Calls Try.prog 5 #[.int .u64 a0, .int .u64 a1, .int .i64 a2] w fun e w' => e = .returned (.bool true) ∧ Below w.heap.size w w' := by
  rcases isW_or a2 with h | h
  · rcases wide_of h with rfl | ⟨L, h⟩
    · exact wc_8 a0 a1 w
    · exact wc_yes a0 a1 a2 L w h (bounds_u w0) (bounds_u w1)
  · exact wc_no a0 a1 a2 w h
end Go.Proofs.Ytljccpgcfkgllab
