/-
  What Split answers at each width: the words, in one new block.
-/
import Derived.Test.YtjlbenbfmookoabWidth
import Derived.LoopN
namespace Go.Proofs.Ytjlbenbfmookoab
open Go.RowKit
set_option linter.unusedSimpArgs false
set_option linter.unusedVariables false

theorem and16 (x : Int) (hx : U x) : bits .and .u64 x 65535 = x % 65536 := by
  have h0 := hx.1; have h1 := hx.2; have := and_cut_16 x h0 h1; unfold cut at this; rwa [md_16] at this

theorem make_1 (w : World) : (Instr.makeSlice 22 (.int .i64 1) (.int .i64 1)).run Try.prog w = .ok (.slice (some ⟨w.heap.size, 0, none⟩) 1 1) (w.alloc (.cells #[.int .i64 0] 3)) := by kernel_rfl
theorem make_2 (w : World) : (Instr.makeSlice 22 (.int .i64 2) (.int .i64 2)).run Try.prog w = .ok (.slice (some ⟨w.heap.size, 0, none⟩) 2 2) (w.alloc (.cells #[.int .i64 0, .int .i64 0] 3)) := by kernel_rfl
theorem make_4 (w : World) : (Instr.makeSlice 22 (.int .i64 4) (.int .i64 4)).run Try.prog w = .ok (.slice (some ⟨w.heap.size, 0, none⟩) 4 4) (w.alloc (.cells #[.int .i64 0, .int .i64 0, .int .i64 0, .int .i64 0] 3)) := by kernel_rfl

set_option maxHeartbeats 1000000 in
theorem split_8 (x : Int) (w : World) (hx : U x) : Calls Try.prog 13 #[.int .u64 x, .int .i64 8] w fun e w' => e = .returned (.tuple #[.slice (some ⟨w.heap.size, 0, none⟩) 1 1, .int .i64 0]) ∧ w' = w.alloc (.cells #[.int .i64 (cut 8 x % 65536)] 3) := by
  have hm := make_1
  obtain ⟨c, hc⟩ : ∃ c, cut 8 x = c := ⟨_, rfl⟩
  have h0 : 0 ≤ c := hc ▸ cut_lo (.inl rfl) x
  have h1 : c ≤ 18446744073709551615 := hc ▸ cut_hi (.inl rfl) x
  rw [hc]
  have HC : Hid (cut 8 x = c) := hc
  clear hc
  have r0 := and16 (c) ⟨by omega, by omega⟩
  go_enter Try.func13, Try.ntmps13
  go_wp2_with (first | (go_at_call 27; refine (width_yes _ (.inl rfl) _).mono ?_; rintro e w' ⟨rfl, rfl⟩) | (go_at_call 28; refine (lower_any _ _ _ (.inl rfl) hx).mono ?_; rw [HC.out]; rintro e w' ⟨rfl, rfl⟩) | fail)
  refine wp_loop_rounds 2 ?_
  rw [rounds_succ]
  go_wp2
  rw [rounds_succ]
  go_wp2
  go_ret2
  exact ⟨rfl, rfl⟩

set_option maxHeartbeats 1000000 in
theorem split_16 (x : Int) (w : World) (hx : U x) : Calls Try.prog 13 #[.int .u64 x, .int .i64 16] w fun e w' => e = .returned (.tuple #[.slice (some ⟨w.heap.size, 0, none⟩) 1 1, .int .i64 0]) ∧ w' = w.alloc (.cells #[.int .i64 (cut 16 x % 65536)] 3) := by
  have hm := make_1
  obtain ⟨c, hc⟩ : ∃ c, cut 16 x = c := ⟨_, rfl⟩
  have h0 : 0 ≤ c := hc ▸ cut_lo (.inr (.inl rfl)) x
  have h1 : c ≤ 18446744073709551615 := hc ▸ cut_hi (.inr (.inl rfl)) x
  rw [hc]
  have HC : Hid (cut 16 x = c) := hc
  clear hc
  have r0 := and16 (c) ⟨by omega, by omega⟩
  go_enter Try.func13, Try.ntmps13
  go_wp2_with (first | (go_at_call 27; refine (width_yes _ (.inr (.inl rfl)) _).mono ?_; rintro e w' ⟨rfl, rfl⟩) | (go_at_call 28; refine (lower_any _ _ _ (.inr (.inl rfl)) hx).mono ?_; rw [HC.out]; rintro e w' ⟨rfl, rfl⟩) | fail)
  refine wp_loop_rounds 2 ?_
  rw [rounds_succ]
  go_wp2
  rw [rounds_succ]
  go_wp2
  go_ret2
  exact ⟨rfl, rfl⟩

set_option maxHeartbeats 1000000 in
theorem split_32 (x : Int) (w : World) (hx : U x) : Calls Try.prog 13 #[.int .u64 x, .int .i64 32] w fun e w' => e = .returned (.tuple #[.slice (some ⟨w.heap.size, 0, none⟩) 2 2, .int .i64 0]) ∧ w' = w.alloc (.cells #[.int .i64 (cut 32 x % 65536), .int .i64 (cut 32 x / 65536 % 65536)] 3) := by
  have hm := make_2
  obtain ⟨c, hc⟩ : ∃ c, cut 32 x = c := ⟨_, rfl⟩
  have h0 : 0 ≤ c := hc ▸ cut_lo (.inr (.inr (.inl rfl))) x
  have h1 : c ≤ 18446744073709551615 := hc ▸ cut_hi (.inr (.inr (.inl rfl))) x
  rw [hc]
  have HC : Hid (cut 32 x = c) := hc
  clear hc
  have r0 := and16 (c) ⟨by omega, by omega⟩
  have r1 := and16 (c / 65536) ⟨by omega, by omega⟩
  go_enter Try.func13, Try.ntmps13
  go_wp2_with (first | (go_at_call 27; refine (width_yes _ (.inr (.inr (.inl rfl))) _).mono ?_; rintro e w' ⟨rfl, rfl⟩) | (go_at_call 28; refine (lower_any _ _ _ (.inr (.inr (.inl rfl))) hx).mono ?_; rw [HC.out]; rintro e w' ⟨rfl, rfl⟩) | fail)
  refine wp_loop_rounds 3 ?_
  rw [rounds_succ]
  go_wp2
  rw [rounds_succ]
  go_wp2
  rw [rounds_succ]
  go_wp2
  go_ret2
  exact ⟨rfl, rfl⟩

set_option maxHeartbeats 1000000 in
theorem split_64 (x : Int) (w : World) (hx : U x) : Calls Try.prog 13 #[.int .u64 x, .int .i64 64] w fun e w' => e = .returned (.tuple #[.slice (some ⟨w.heap.size, 0, none⟩) 4 4, .int .i64 0]) ∧ w' = w.alloc (.cells #[.int .i64 (cut 64 x % 65536), .int .i64 (cut 64 x / 65536 % 65536), .int .i64 (cut 64 x / 65536 / 65536 % 65536), .int .i64 (cut 64 x / 65536 / 65536 / 65536 % 65536)] 3) := by
  have hm := make_4
  obtain ⟨c, hc⟩ : ∃ c, cut 64 x = c := ⟨_, rfl⟩
  have h0 : 0 ≤ c := hc ▸ cut_lo (.inr (.inr (.inr rfl))) x
  have h1 : c ≤ 18446744073709551615 := hc ▸ cut_hi (.inr (.inr (.inr rfl))) x
  rw [hc]
  have HC : Hid (cut 64 x = c) := hc
  clear hc
  have r0 := and16 (c) ⟨by omega, by omega⟩
  have r1 := and16 (c / 65536) ⟨by omega, by omega⟩
  have r2 := and16 (c / 65536 / 65536) ⟨by omega, by omega⟩
  have r3 := and16 (c / 65536 / 65536 / 65536) ⟨by omega, by omega⟩
  go_enter Try.func13, Try.ntmps13
  go_wp2_with (first | (go_at_call 27; refine (width_yes _ (.inr (.inr (.inr rfl))) _).mono ?_; rintro e w' ⟨rfl, rfl⟩) | (go_at_call 28; refine (lower_any _ _ _ (.inr (.inr (.inr rfl))) hx).mono ?_; rw [HC.out]; rintro e w' ⟨rfl, rfl⟩) | fail)
  refine wp_loop_rounds 5 ?_
  rw [rounds_succ]
  go_wp2
  rw [rounds_succ]
  go_wp2
  rw [rounds_succ]
  go_wp2
  rw [rounds_succ]
  go_wp2
  rw [rounds_succ]
  go_wp2
  go_ret2
  exact ⟨rfl, rfl⟩

set_option maxHeartbeats 400000 in
theorem split_no (x n : Int) (w : World) (h : NoW n) : Calls Try.prog 13 #[.int .u64 x, .int .i64 n] w fun e w' => e = .returned (.tuple #[.slice none 0 0, .int .i64 1]) ∧ w' = w := by
  go_enter Try.func13, Try.ntmps13
  go_wp2_with (first | (go_at_call 27; refine (width_no _ _ h).mono ?_; rintro e w' ⟨rfl, rfl⟩) | fail)
  go_ret2
  exact ⟨rfl, rfl⟩
end Go.Proofs.Ytjlbenbfmookoab
