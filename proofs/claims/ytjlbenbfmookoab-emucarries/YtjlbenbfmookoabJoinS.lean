/-
  What Join answers of one, two and four words that lie in one block.
-/
import Derived.Test.YtjlbenbfmookoabWidth
import Derived.LoopN
namespace Go.Proofs.Ytjlbenbfmookoab
open Go.RowKit
set_option linter.unusedSimpArgs false
set_option linter.unusedVariables false

theorem wraps_u64 (n : Int) (h₀ : 0 ≤ n) (h₁ : n < 2 ^ 64) : IntKind.u64.wrap n = n := by rw [u64_wrap]; omega
theorem or_up (i : Nat) (y x : Int) (hx₀ : 0 ≤ x) (hx : x % 2 ^ i = 0) (hx₁ : x < 2 ^ 64) (hy₀ : 0 ≤ y) (hy : y < 2 ^ i) (hy₁ : y < 2 ^ 64) : bits .or .u64 y x = y + x := by
  have e : bits .or .u64 y x = bits .or .u64 x y := by simp only [bits, BitVec.or_comm]
  rw [e, bits_join .u64 64 (by decide) wraps_u64 i x y hx₀ hx hx₁ hy₀ hy hy₁, Int.add_comm]
theorem or_0 (x : Int) (h0 : 0 ≤ x) (h1 : x ≤ 18446744073709551615) : bits .or .u64 0 x = x := by
  have := or_up 0 0 x h0 (by simp) (by omega) (by omega) (by decide) (by decide)
  omega

set_option maxHeartbeats 1000000 in
theorem join_1 (b : Nat) (c0 : Int) (w : World) (h0 : 0 ≤ c0 ∧ c0 ≤ 65535)
    (e0 : w.cell? ⟨b, 0, none⟩ = some (.int .i64 c0)) :
    Calls Try.prog 15 #[.slice (some ⟨b, 0, none⟩) 1 1] w fun e w' => e = .returned (.tuple #[.int .u64 (c0), .int .i64 0]) ∧ w' = w := by
  obtain ⟨h0, h0'⟩ := h0
  have o0 := or_0 c0 h0 (by omega)
  go_enter Try.func15, Try.ntmps15
  go_wp2_with go_in
  refine wp_loop_rounds 2 ?_
  rw [rounds_succ]
  go_wp2
  rw [rounds_succ]
  go_wp2
  go_ret2
  exact ⟨rfl, rfl⟩

set_option maxHeartbeats 1000000 in
theorem join_2 (b : Nat) (c0 c1 : Int) (w : World) (h0 : 0 ≤ c0 ∧ c0 ≤ 65535) (h1 : 0 ≤ c1 ∧ c1 ≤ 65535)
    (e0 : w.cell? ⟨b, 0, none⟩ = some (.int .i64 c0)) (e1 : w.cell? ⟨b, 1, none⟩ = some (.int .i64 c1)) :
    Calls Try.prog 15 #[.slice (some ⟨b, 0, none⟩) 2 2] w fun e w' => e = .returned (.tuple #[.int .u64 (c0 + c1 * 65536), .int .i64 0]) ∧ w' = w := by
  obtain ⟨h0, h0'⟩ := h0
  obtain ⟨h1, h1'⟩ := h1
  have o0 := or_0 c0 h0 (by omega)
  have o1 := or_up 16 (c0) (c1 * 65536) (by omega) (by simp) (by omega) (by omega) (by omega) (by omega)
  go_enter Try.func15, Try.ntmps15
  go_wp2_with go_in
  refine wp_loop_rounds 3 ?_
  rw [rounds_succ]
  go_wp2
  rw [rounds_succ]
  go_wp2
  rw [rounds_succ]
  go_wp2
  go_ret2
  exact ⟨rfl, rfl⟩

set_option maxHeartbeats 1000000 in
theorem join_4 (b : Nat) (c0 c1 c2 c3 : Int) (w : World) (h0 : 0 ≤ c0 ∧ c0 ≤ 65535) (h1 : 0 ≤ c1 ∧ c1 ≤ 65535) (h2 : 0 ≤ c2 ∧ c2 ≤ 65535) (h3 : 0 ≤ c3 ∧ c3 ≤ 65535)
    (e0 : w.cell? ⟨b, 0, none⟩ = some (.int .i64 c0)) (e1 : w.cell? ⟨b, 1, none⟩ = some (.int .i64 c1)) (e2 : w.cell? ⟨b, 2, none⟩ = some (.int .i64 c2)) (e3 : w.cell? ⟨b, 3, none⟩ = some (.int .i64 c3)) :
    Calls Try.prog 15 #[.slice (some ⟨b, 0, none⟩) 4 4] w fun e w' => e = .returned (.tuple #[.int .u64 (c0 + c1 * 65536 + c2 * 4294967296 + c3 * 281474976710656), .int .i64 0]) ∧ w' = w := by
  obtain ⟨h0, h0'⟩ := h0
  obtain ⟨h1, h1'⟩ := h1
  obtain ⟨h2, h2'⟩ := h2
  obtain ⟨h3, h3'⟩ := h3
  have o0 := or_0 c0 h0 (by omega)
  have o1 := or_up 16 (c0) (c1 * 65536) (by omega) (by simp) (by omega) (by omega) (by omega) (by omega)
  have o2 := or_up 32 (c0 + c1 * 65536) (c2 * 4294967296) (by omega) (by simp) (by omega) (by omega) (by omega) (by omega)
  have o3 := or_up 48 (c0 + c1 * 65536 + c2 * 4294967296) (c3 * 281474976710656) (by omega) (by simp) (by omega) (by omega) (by omega) (by omega)
  go_enter Try.func15, Try.ntmps15
  go_wp2_with go_in
  refine wp_loop_rounds 5 ?_
  rw [rounds_succ]
  go_wp2
  rw [rounds_succ]
  go_wp2
  rw [rounds_succ]
  go_wp2
  rw [rounds_succ]
  go_wp2
  rw [rounds_succ]
  go_wp2
  go_ret2
  exact ⟨rfl, rfl⟩

end Go.Proofs.Ytjlbenbfmookoab
