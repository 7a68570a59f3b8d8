/-
  The statements' own small fact holds: Add and Split answer at it as they should.
-/
import Derived.Test.YtljccpgcfkgllabRing
import Derived.Test.YtljccpgcfkgllabSplit
namespace Go.Proofs.Ytljccpgcfkgllab
open Go.RowKit

theorem bounds_u {x : Int} (h : (Lit.int .u64 x).wf = true) : U x := by
  have hmin : IntKind.u64.min = 0 := rfl
  have hmax : IntKind.u64.max = 18446744073709551615 := rfl
  simp only [Lit.wf, Bool.and_eq_true, decide_eq_true_eq] at h
  unfold U; omega
theorem bt {w a b : World} (h : Below w.heap.size w a) (k : Below a.heap.size a b) : Below w.heap.size w b := h.trans (k.mono h.size)

theorem add_250 (w : World) : Calls Try.prog 12 #[.int .u64 250, .int .u64 10, .int .i64 8] w fun e w' => e = .returned (.tuple #[.int .u64 4, .int .i64 0]) ∧ Below w.heap.size w w' := by
  refine (add_any 250 10 8 w (.inl rfl) ⟨by decide, by decide⟩ ⟨by decide, by decide⟩).mono ?_
  rintro e w' ⟨rfl, hb⟩
  exact ⟨by rw [show cut 8 (250 + 10) = 4 from by decide], hb⟩
theorem split_h (w : World) : Calls Try.prog 14 #[.int .u64 305419896, .int .i64 32] w fun e w' => e = .returned (.tuple #[.slice (some ⟨w.heap.size, 0, none⟩) 2 2, .int .i64 0]) ∧ w' = w.alloc (.cells #[.int .i64 22136, .int .i64 4660] 3) := by
  refine (split_32 305419896 w ⟨by decide, by decide⟩).mono ?_
  rintro e w' ⟨rfl, rfl⟩
  exact ⟨rfl, by rw [show cut 32 305419896 % 65536 = 22136 from by decide, show cut 32 305419896 / 65536 % 65536 = 4660 from by decide]⟩

set_option maxHeartbeats 400000 in
theorem alive_any (w : World) : Calls Try.prog 8 #[] w fun e w' => e = .returned (.bool true) ∧ Below w.heap.size w w' := by
  go_enter Try.func8, Try.ntmps8
  go_wp2_with fail
  refine (add_250 _).mono ?_
  rintro e w1 ⟨rfl, hb⟩
  go_wp2_with (first | (go_at_call 14; refine (split_h _).mono ?_; rintro e w' ⟨rfl, rfl⟩) | fail)
  go_ret
  exact ⟨rfl, hb.alloc hb.size _⟩
end Go.Proofs.Ytljccpgcfkgllab
