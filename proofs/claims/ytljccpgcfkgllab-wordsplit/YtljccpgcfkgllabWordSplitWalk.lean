/-
  WordSplit answers true, whatever the number and the width: the words of a number make it, and each is one.
-/
import Derived.Test.YtljccpgcfkgllabAlive
import Derived.Test.YtljccpgcfkgllabJoinS
import Derived.Test.YtljccpgcfkgllabShift
namespace Go.Proofs.Ytljccpgcfkgllab
open Go.RowKit

set_option maxHeartbeats 400000 in
theorem ws_no (x n : Int) (w : World) (h : NoW n) :
    Calls Try.prog 4 #[.int .u64 x, .int .i64 n] w fun e w' => e = .returned (.bool true) ∧ Below w.heap.size w w' := by
  go_enter Try.func4, Try.ntmps4
  go_wp2_with fail
  refine (alive_any _).mono ?_
  rintro e w1 ⟨rfl, hb⟩
  go_wp2_with (first | (go_at_call 14; refine (split_no _ _ _ h).mono ?_; rintro e w' ⟨rfl, rfl⟩) | (go_at_call 9; refine (width_no _ _ h).mono ?_; rintro e w' ⟨rfl, rfl⟩))
  go_ret
  exact ⟨rfl, hb⟩

set_option maxHeartbeats 1000000 in
theorem ws_8 (x : Int) (w : World) (hx : U x) :
    Calls Try.prog 4 #[.int .u64 x, .int .i64 8] w fun e w' => e = .returned (.bool true) ∧ Below w.heap.size w w' := by
  have HS := hide (split_8 x)
  have HCu := hide (cut_any x 8)
  have h0 := cut_lo (n := 8) (.inl rfl) x
  have h1 := cut_lt (n := 8) (.inl rfl) x
  rw [md_8] at h1
  generalize cut 8 x = c at HS HCu h0 h1
  have hj : ((c % 65536) == c) = true := by rw [beq_iff_eq]; omega
  go_enter Try.func4, Try.ntmps4
  go_wp2_with fail
  refine (alive_any _).mono ?_
  rintro e w1 ⟨rfl, hb⟩
  go_wp2_with (first | (go_at_call 14; refine (unhide HS _ hx).mono ?_; rintro e w' ⟨rfl, rfl⟩) | fail)
  refine wp_loop_rounds 2 ?_
  rw [rounds_succ]
  go_wp2_with fail
  rw [rounds_succ]
  go_wp2_with fail
  refine (join_1 _ (c % 65536) _ ⟨by omega, by omega⟩ (by simp [go_sem])).mono ?_
  rintro e w2 ⟨rfl, rfl⟩
  go_wp2_with (first | (go_at_call 11; refine (unhide HCu _ (.inl rfl) hx).mono ?_; rintro e w' ⟨rfl, rfl⟩))
  go_ret
  exact ⟨rfl, hb.alloc hb.size _⟩

set_option maxHeartbeats 1000000 in
theorem ws_16 (x : Int) (w : World) (hx : U x) :
    Calls Try.prog 4 #[.int .u64 x, .int .i64 16] w fun e w' => e = .returned (.bool true) ∧ Below w.heap.size w w' := by
  have HS := hide (split_16 x)
  have HCu := hide (cut_any x 16)
  have h0 := cut_lo (n := 16) (.inr (.inl rfl)) x
  have h1 := cut_lt (n := 16) (.inr (.inl rfl)) x
  rw [md_16] at h1
  generalize cut 16 x = c at HS HCu h0 h1
  have hj : ((c % 65536) == c) = true := by rw [beq_iff_eq]; omega
  go_enter Try.func4, Try.ntmps4
  go_wp2_with fail
  refine (alive_any _).mono ?_
  rintro e w1 ⟨rfl, hb⟩
  go_wp2_with (first | (go_at_call 14; refine (unhide HS _ hx).mono ?_; rintro e w' ⟨rfl, rfl⟩) | fail)
  refine wp_loop_rounds 2 ?_
  rw [rounds_succ]
  go_wp2_with fail
  rw [rounds_succ]
  go_wp2_with fail
  refine (join_1 _ (c % 65536) _ ⟨by omega, by omega⟩ (by simp [go_sem])).mono ?_
  rintro e w2 ⟨rfl, rfl⟩
  go_wp2_with (first | (go_at_call 11; refine (unhide HCu _ (.inr (.inl rfl)) hx).mono ?_; rintro e w' ⟨rfl, rfl⟩))
  go_ret
  exact ⟨rfl, hb.alloc hb.size _⟩

set_option maxHeartbeats 1000000 in
theorem ws_32 (x : Int) (w : World) (hx : U x) :
    Calls Try.prog 4 #[.int .u64 x, .int .i64 32] w fun e w' => e = .returned (.bool true) ∧ Below w.heap.size w w' := by
  have HS := hide (split_32 x)
  have HCu := hide (cut_any x 32)
  have h0 := cut_lo (n := 32) (.inr (.inr (.inl rfl))) x
  have h1 := cut_lt (n := 32) (.inr (.inr (.inl rfl))) x
  rw [md_32] at h1
  generalize cut 32 x = c at HS HCu h0 h1
  have hj : ((c % 65536) + (c / 65536 % 65536) * 65536 == c) = true := by rw [beq_iff_eq]; omega
  go_enter Try.func4, Try.ntmps4
  go_wp2_with fail
  refine (alive_any _).mono ?_
  rintro e w1 ⟨rfl, hb⟩
  go_wp2_with (first | (go_at_call 14; refine (unhide HS _ hx).mono ?_; rintro e w' ⟨rfl, rfl⟩) | fail)
  refine wp_loop_rounds 3 ?_
  rw [rounds_succ]
  go_wp2_with fail
  rw [rounds_succ]
  go_wp2_with fail
  rw [rounds_succ]
  go_wp2_with fail
  refine (join_2 _ (c % 65536) (c / 65536 % 65536) _ ⟨by omega, by omega⟩ ⟨by omega, by omega⟩ (by simp [go_sem]) (by simp [go_sem])).mono ?_
  rintro e w2 ⟨rfl, rfl⟩
  go_wp2_with (first | (go_at_call 11; refine (unhide HCu _ (.inr (.inr (.inl rfl))) hx).mono ?_; rintro e w' ⟨rfl, rfl⟩))
  go_ret
  exact ⟨rfl, hb.alloc hb.size _⟩

set_option maxHeartbeats 1000000 in
theorem ws_64 (x : Int) (w : World) (hx : U x) :
    Calls Try.prog 4 #[.int .u64 x, .int .i64 64] w fun e w' => e = .returned (.bool true) ∧ Below w.heap.size w w' := by
  have HS := hide (split_64 x)
  have HCu := hide (cut_any x 64)
  have h0 := cut_lo (n := 64) (.inr (.inr (.inr rfl))) x
  have h1 := cut_lt (n := 64) (.inr (.inr (.inr rfl))) x
  rw [md_64] at h1
  generalize cut 64 x = c at HS HCu h0 h1
  have hj : ((c % 65536) + (c / 65536 % 65536) * 65536 + (c / 65536 / 65536 % 65536) * 4294967296 + (c / 65536 / 65536 / 65536 % 65536) * 281474976710656 == c) = true := by rw [beq_iff_eq]; omega
  go_enter Try.func4, Try.ntmps4
  go_wp2_with fail
  refine (alive_any _).mono ?_
  rintro e w1 ⟨rfl, hb⟩
  go_wp2_with (first | (go_at_call 14; refine (unhide HS _ hx).mono ?_; rintro e w' ⟨rfl, rfl⟩) | fail)
  refine wp_loop_rounds 5 ?_
  rw [rounds_succ]
  go_wp2_with fail
  rw [rounds_succ]
  go_wp2_with fail
  rw [rounds_succ]
  go_wp2_with fail
  rw [rounds_succ]
  go_wp2_with fail
  rw [rounds_succ]
  go_wp2_with fail
  refine (join_4 _ (c % 65536) (c / 65536 % 65536) (c / 65536 / 65536 % 65536) (c / 65536 / 65536 / 65536 % 65536) _ ⟨by omega, by omega⟩ ⟨by omega, by omega⟩ ⟨by omega, by omega⟩ ⟨by omega, by omega⟩ (by simp [go_sem]) (by simp [go_sem]) (by simp [go_sem]) (by simp [go_sem])).mono ?_
  rintro e w2 ⟨rfl, rfl⟩
  go_wp2_with (first | (go_at_call 11; refine (unhide HCu _ (.inr (.inr (.inr rfl))) hx).mono ?_; rintro e w' ⟨rfl, rfl⟩))
  go_ret
  exact ⟨rfl, hb.alloc hb.size _⟩

theorem walk_wordSplit (a0 : Int) (a1 : Int) (w0 : (Lit.int .u64 a0).wf = true) (_w1 : (Lit.int .i64 a1).wf = true) (w : World) :
    Calls Try.prog 4 #[.int .u64 a0, .int .i64 a1] w fun e w' => e = .returned (.bool true) ∧ Below w.heap.size w w' := by
  have hx := bounds_u w0
  rcases isW_or a1 with h | h
  · rcases h with rfl | rfl | rfl | rfl
    · exact ws_8 a0 w hx
    · exact ws_16 a0 w hx
    · exact ws_32 a0 w hx
    · exact ws_64 a0 w hx
  · exact ws_no a0 a1 w h
end Go.Proofs.Ytljccpgcfkgllab
