/-
  An instruction's four cells, laid to be appended.
-/
import Derived.Test.YtjlbenbfmookoabInsE
namespace Go.Proofs.Ytjlbenbfmookoab
open Go.RowKit
set_option linter.unusedSimpArgs false
set_option linter.unusedVariables false

theorem Try.infoInstr : (Try.prog.info? 45).map (fun i => (i.zero, i.size, i.bytes)) = some (some (.agg #[.int .i64 0, .int .i64 0, .int .i64 0, .int .i64 0]), 4, 32) := by kernel_rfl

theorem four_c1 (u : World) (i : Ins) (T : TypeId) (B : Nat) (hB : B = u.heap.size) : ∀ j x, (cells4 i)[j]? = some x → (u.alloc (.cells #[.int .i64 i.o, .int .i64 i.d, .int .i64 i.s, .int .i64 i.m] T)).cell? ((⟨B, 0, none⟩ : Addr).add j) = some x := by
  subst hB
  unfold cells4
  intro j x hj
  match j, hj with
  | 0, hj => simp at hj; subst hj; simp [Addr.add]
  | 1, hj => simp at hj; subst hj; simp [Addr.add]
  | 2, hj => simp at hj; subst hj; simp [Addr.add]
  | 3, hj => simp at hj; subst hj; simp [Addr.add]
theorem four_c2 (i : Ins) : ∀ u ∈ cells4 i, u.oneCell' = true := by intro u hu; simp [cells4] at hu; rcases hu with rfl | rfl | rfl | rfl <;> rfl
theorem own_snoc {w : World} {B : Nat} {v : Value} {l : List Ins} {i : Ins} {n : Nat} {cs : List Value} (h : w.ownsRow B 45 4 v n cs) (e : cs = (l ++ [i]).flatMap cells4) (hn : n = l.length + 1) : w.ownsRow B 45 4 v (l ++ [i]).length ((l ++ [i]).flatMap cells4) := by
  have : (l ++ [i]).length = n := by rw [hn]; simp
  rw [← e, this]; exact h
end Go.Proofs.Ytjlbenbfmookoab
