/-
  The document's answer on types of numbers: Valid, Wide, Meant and Convert.
-/
import Derived.Test.YtonekpoblgigpaaDoorTyA
import Derived.Test.YtonekpoblgigpaaDoorBigN
import Derived.Test.YtonekpoblgigpaaDoorBigD
namespace Go.Proofs.YtonekpoblgigpaaDoor
open Go.RowKit
set_option linter.unusedSimpArgs false
set_option linter.unusedVariables false

theorem rvalid7_yes (b : Int) (s : Bool) (w : World) (h : IsW b) : Calls Tryd.prog 30 #[.agg #[.int .i64 b, .bool s]] w fun e w' => e = .returned (.bool true) ∧ Below w.heap.size w w' := by
  go_enter Tryd.func30, Tryd.ntmps30
  go_wp2_with (go_at_call 41; refine (rwidth_yes _ h _).mono ?_; rintro e w1 ⟨rfl, k1⟩)
  go_ret
  exact ⟨rfl, bT (below_a _ _) k1⟩
theorem rvalid7_no (b : Int) (s : Bool) (w : World) (h : NoW b) : Calls Tryd.prog 30 #[.agg #[.int .i64 b, .bool s]] w fun e w' => e = .returned (.bool false) ∧ Below w.heap.size w w' := by
  go_enter Tryd.func30, Tryd.ntmps30
  go_wp2_with (go_at_call 41; refine (rwidth_no _ _ h).mono ?_; rintro e w1 ⟨rfl, k1⟩)
  go_ret
  exact ⟨rfl, bT (below_a _ _) k1⟩
theorem rmeant_any (x b : Int) (s : Bool) (w : World) (h : IsW b) (hx : U x) : Calls Tryd.prog 29 #[.int .u64 x, .agg #[.int .i64 b, .bool s]] w fun e w' => ∃ p, e = .returned (.pointer (some ⟨p, 0, none⟩)) ∧ w.heap.size ≤ p ∧ Below w.heap.size w w' ∧ Big w' p (mn s b x) := by
  go_enter Tryd.func29, Tryd.ntmps29
  go_wp2_with fail
  refine (meant_any x b s _ h hx).mono ?_
  rintro e w1 ⟨p, rfl, hp, k1, B1⟩
  have hp' : w.heap.size ≤ p := by simp at hp; omega
  have K1 := hide (bT (below_a _ _) k1)
  have HB := hide B1
  clear k1 B1 hp
  go_wp2_with fail
  go_ret
  exact ⟨p, rfl, hp', unhide K1, unhide HB⟩
end Go.Proofs.YtonekpoblgigpaaDoor
