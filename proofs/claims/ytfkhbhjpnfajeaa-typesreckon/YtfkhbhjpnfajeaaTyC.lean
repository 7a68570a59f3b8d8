/-
  Types of numbers: what Convert answers.
-/
import Derived.Test.YtfkhbhjpnfajeaaTyA
import Derived.Test.YtfkhbhjpnfajeaaPlain
namespace Go.Proofs.Ytfkhbhjpnfajeaa
open Go.RowKit
set_option linter.unusedSimpArgs false
set_option linter.unusedVariables false

theorem tcut_any (x b : Int) (s : Bool) (w : World) (h : IsW b) (hx : U x) : Calls Try.prog 31 #[.int .u64 x, .agg #[.int .i64 b, .bool s]] w fun e w' => e = .returned (.int .u64 (cut b x)) ∧ Below w.heap.size w w' := by
  go_enter Try.func31, Try.ntmps31
  go_wp2_with (go_at_call 61; refine (cut_any _ _ _ h hx).mono ?_; rintro e w' ⟨rfl, rfl⟩)
  go_ret
  exact ⟨rfl, below_a _ _⟩

/-- A number of one type as one of another. -/
def conv (x a : Int) (s : Bool) (b : Int) : Int := cut b (mn s a x)
set_option maxHeartbeats 1000000 in
theorem convert_any (x a : Int) (s : Bool) (b : Int) (t : Bool) (w : World) (ha : IsW a) (hb : IsW b) (hx : U x) : Calls Try.prog 12 #[.int .u64 x, .agg #[.int .i64 a, .bool s], .agg #[.int .i64 b, .bool t]] w fun e w' => e = .returned (.int .u64 (conv x a s b)) ∧ Below w.heap.size w w' := by
  cases s
  · have e1 : conv x a false b = cut b (cut a x) := rfl
    rw [e1]
    go_enter Try.func12, Try.ntmps12
    go_wp2_with fail
    refine wp_region_later (by kernel_rfl) (by kernel_rfl) ?_
    intro L hne lt hlc hlf hlm
    repeat (go_big_quiet_step ((go_at_call 31; exact later_call hlm (tcut_any _ _ _ _ (by assumption) (by first | assumption | exact u_cut (by assumption) _)))))
    refine wpQuiet_nil ?_
    intro wq kq
    clear hlm hlf hlc lt hne L
    obtain ⟨hqc, hqf⟩ := below_cells kq
    go_wp2_with fail
    go_ret
    exact ⟨rfl, bT (below_a _ _) (bT (below_a _ _) kq)⟩
  · have e1 : conv x a true b = cut b (IntKind.u64.wrap (sgn a x)) := by rw [cut_wrap hb]; rfl
    rw [e1]
    have HB := hide (fun w => tcut_any (IntKind.u64.wrap (sgn a x)) b t w hb (u_wrap _))
    go_enter Try.func12, Try.ntmps12
    go_wp2_with (first | (go_at_call 40; refine (signed_any _ _ _ ha hx).mono ?_; rintro e w' ⟨rfl, rfl⟩) | (go_at_call 31; refine (unhide HB _).mono ?_; rintro e w1 ⟨rfl, k1⟩))
    go_ret
    exact ⟨rfl, bT (below_a _ _) (bT (below_a _ _) k1)⟩
end Go.Proofs.Ytfkhbhjpnfajeaa
