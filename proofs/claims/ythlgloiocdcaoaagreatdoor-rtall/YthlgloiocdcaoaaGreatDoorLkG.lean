/-
  (*linker).finder.
-/
import Derived.Test.YthlgloiocdcaoaaGreatDoorLkF
namespace Go.Proofs.YthlgloiocdcaoaaGreatDoor
open Go.RowKit Go.Maps
set_option linter.unusedSimpArgs false
set_option linter.unusedVariables false

theorem finder_any (pk n : Nat) (w : World) : Calls Tryz.prog 66 #[.pointer (some ⟨pk, 0, none⟩), .int .i64 n] w fun e w' => e = .returned (.func (.func 122) #[] #[.pointer (some ⟨w.heap.size, 0, none⟩), .pointer (some ⟨w.heap.size + 1, 0, none⟩)]) ∧ w' = (w.alloc (.cells #[.pointer (some ⟨pk, 0, none⟩)] 80)).alloc (.cells #[.int .i64 n] 3) := by
  go_enter Tryz.func66, Tryz.ntmps66
  go_wp2_with fail
  go_ret
  exact ⟨rfl, rfl⟩
end Go.Proofs.YthlgloiocdcaoaaGreatDoor
