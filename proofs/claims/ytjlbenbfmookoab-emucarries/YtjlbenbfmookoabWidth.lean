/-
  What Width, lower and meaning answer at each of the four widths, and that Width says no elsewhere.
-/
import Derived.Test.YtjlbenbfmookoabRows
import Derived.Test.YtjlbenbfmookoabPlain
import Derived.WalkKit
import Derived.WalkSpells
import Derived.WalkLawsBesides
namespace Go.Proofs.Ytjlbenbfmookoab
open Go.RowKit
set_option linter.unusedSimpArgs false
set_option linter.unusedVariables false

theorem ret_eq {a b : Value} (h : a = b) : Ending.returned a = .returned b := by rw [h]

theorem width_no (n : Int) (w : World) (h : NoW n) :
    Calls Try.prog 27 #[.int .i64 n] w fun e w' => e = .returned (.bool false) ∧ w' = w := by
  obtain ⟨h1, h2, h3, h4⟩ := h
  go_enter Try.func27, Try.ntmps27
  go_wp2
  go_ret
  exact ⟨rfl, rfl⟩

theorem width_yes (n : Int) (h : IsW n) (w : World) : Calls Try.prog 27 #[.int .i64 n] w fun e w' => e = .returned (.bool true) ∧ w' = w := by
  rcases h with rfl | rfl | rfl | rfl
  all_goals
    go_enter Try.func27, Try.ntmps27
    go_wp2
    go_ret
    exact ⟨rfl, rfl⟩

theorem lower_any (x n : Int) (w : World) (h : IsW n) (hx : U x) : Calls Try.prog 28 #[.int .u64 x, .int .i64 n] w fun e w' => e = .returned (.int .u64 (cut n x)) ∧ w' = w := by
  have e1 := and_cut_8 x hx.1 hx.2
  have e2 := and_cut_16 x hx.1 hx.2
  have e3 := and_cut_32 x hx.1 hx.2
  have e4 := and_cut_64 x hx.1 hx.2
  rcases h with rfl | rfl | rfl | rfl
  all_goals
    go_enter Try.func28, Try.ntmps28
    go_wp2
    go_ret
    exact ⟨rfl, rfl⟩

theorem meaning_any (x n : Int) (w : World) (h : IsW n) (hx : U x) : Calls Try.prog 35 #[.int .u64 x, .int .i64 n] w fun e w' => e = .returned (.int .i64 (sgn n x)) ∧ w' = w := by
  obtain ⟨hx0, hx1⟩ := hx
  rcases h with rfl | rfl | rfl | rfl
  · go_enter Try.func35, Try.ntmps35
    go_wp2
    go_ret
    exact ⟨ret_eq (congrArg _ (mean_8 x)), rfl⟩
  · go_enter Try.func35, Try.ntmps35
    go_wp2
    go_ret
    exact ⟨ret_eq (congrArg _ (mean_16 x)), rfl⟩
  · go_enter Try.func35, Try.ntmps35
    go_wp2
    go_ret
    exact ⟨ret_eq (congrArg _ (mean_32 x)), rfl⟩
  · go_enter Try.func35, Try.ntmps35
    go_wp2
    go_ret
    exact ⟨ret_eq (congrArg _ (mean_64 x)), rfl⟩

end Go.Proofs.Ytjlbenbfmookoab
