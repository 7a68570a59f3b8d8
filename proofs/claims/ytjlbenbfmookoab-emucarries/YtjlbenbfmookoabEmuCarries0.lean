/-
  EmuCarries: rows and cells.
-/
import Derived.Test.YtjlbenbfmookoabEmuK0
import Derived.Test.YtjlbenbfmookoabRing
namespace Go.Proofs.Ytjlbenbfmookoab
open Go.RowKit
set_option linter.unusedSimpArgs false
set_option linter.unusedVariables false

theorem carI_snoc (o0 o1 : Int) (k : Nat) : (carI o0 o1 (k + 1)).flatMap cells4 = (carI o0 o1 k).flatMap cells4 ++ [.int .i64 (if k = 0 then o0 else o1), .int .i64 k, .int .i64 (2 + k), .int .i64 0] := by
  rw [carI, List.flatMap_append]
  simp [cells4]
theorem box_two {w : World} {b : Nat} {x y : Nat → Int} {k : Nat} (h : Box w b (stL (crg x y k))) (hk : k < 2) : Box ((w.setCell ⟨b, k, none⟩ (.int .i64 (x k))).setCell ⟨b, 2 + k, none⟩ (.int .i64 (y k))) b (stL (crg x y (k + 1))) := by
  have h1 := (h.set (j := k) (u := .int .i64 (x k)) (by simp [stL]; omega))
  rw [stL_set _ _ _ (by omega)] at h1
  have h2 := (h1.set (j := 2 + k) (u := .int .i64 (y k)) (by simp [stL]; omega))
  rw [stL_set _ _ _ (by omega), crg_next _ _ _ hk] at h2
  exact h2
end Go.Proofs.Ytjlbenbfmookoab
