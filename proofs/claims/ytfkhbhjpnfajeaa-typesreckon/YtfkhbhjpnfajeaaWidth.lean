/-
  What Width, lower and meaning answer at each of the four widths, and that Width says no elsewhere.
-/
import Derived.Test.YtfkhbhjpnfajeaaRows
import Derived.Test.YtfkhbhjpnfajeaaPlain
import Derived.WalkKit
import Derived.WalkSpells
import Derived.WalkLawsBesides
namespace Go.Proofs.Ytfkhbhjpnfajeaa
open Go.RowKit
set_option linter.unusedSimpArgs false
set_option linter.unusedVariables false

theorem ret_eq {a b : Value} (h : a = b) : Ending.returned a = .returned b := by rw [h]

theorem width_no (n : Int) (w : World) (h : NoW n) :
    Calls Try.prog 37 #[.int .i64 n] w fun e w' => e = .returned (.bool false) ∧ w' = w := by
  obtain ⟨h1, h2, h3, h4⟩ := h
  go_enter Try.func37, Try.ntmps37
  go_wp2
  go_ret
  exact ⟨rfl, rfl⟩

theorem width_yes (n : Int) (h : IsW n) (w : World) : Calls Try.prog 37 #[.int .i64 n] w fun e w' => e = .returned (.bool true) ∧ w' = w := by
  rcases h with rfl | rfl | rfl | rfl
  all_goals
    go_enter Try.func37, Try.ntmps37
    go_wp2
    go_ret
    exact ⟨rfl, rfl⟩

theorem lower_any (x n : Int) (w : World) (h : IsW n) (hx : U x) : Calls Try.prog 86 #[.int .u64 x, .int .i64 n] w fun e w' => e = .returned (.int .u64 (cut n x)) ∧ w' = w := by
  have e1 := and_cut_8 x hx.1 hx.2
  have e2 := and_cut_16 x hx.1 hx.2
  have e3 := and_cut_32 x hx.1 hx.2
  have e4 := and_cut_64 x hx.1 hx.2
  rcases h with rfl | rfl | rfl | rfl
  all_goals
    go_enter Try.func86, Try.ntmps86
    go_wp2
    go_ret
    exact ⟨rfl, rfl⟩

theorem meaning_any (x n : Int) (w : World) (h : IsW n) (hx : U x) : Calls Try.prog 69 #[.int .u64 x, .int .i64 n] w fun e w' => e = .returned (.int .i64 (sgn n x)) ∧ w' = w := by
  obtain ⟨hx0, hx1⟩ := hx
  rcases h with rfl | rfl | rfl | rfl
  · go_enter Try.func69, Try.ntmps69
    go_wp2
    go_ret
    exact ⟨ret_eq (congrArg _ (mean_8 x)), rfl⟩
  · go_enter Try.func69, Try.ntmps69
    go_wp2
    go_ret
    exact ⟨ret_eq (congrArg _ (mean_16 x)), rfl⟩
  · go_enter Try.func69, Try.ntmps69
    go_wp2
    go_ret
    exact ⟨ret_eq (congrArg _ (mean_32 x)), rfl⟩
  · go_enter Try.func69, Try.ntmps69
    go_wp2
    go_ret
    exact ⟨ret_eq (congrArg _ (mean_64 x)), rfl⟩

end Go.Proofs.Ytfkhbhjpnfajeaa
