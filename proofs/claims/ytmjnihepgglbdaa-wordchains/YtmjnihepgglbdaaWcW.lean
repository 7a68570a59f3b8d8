/-
  The document's answer on rows of words: what its closure number tells is what the words tell one by one.
-/
import Derived.Test.YtmjnihepgglbdaaBigW
import Derived.Test.YtmjnihepgglbdaaWordsN
import Derived.Test.YtmjnihepgglbdaaWcM
namespace Go.Proofs.Ytmjnihepgglbdaa
open Go.RowKit
set_option linter.unusedSimpArgs false
set_option linter.unusedVariables false

theorem jw_nd (L : List Int) : ∀ (i : Nat), i ≤ L.length → jw ((L.map lw).take i) = nd (lws (fun j => L.getD j 0)) i
  | 0, _ => by simp [jw, nd]
  | i + 1, h => by
    rw [jw_take _ i (by rw [List.length_map]; omega), jw_nd L i (by omega), nd]
    congr 2
    show (L.map lw)[i]'_ = lw (L.getD i 0)
    rw [List.getElem_map, List.getD_eq_getElem?_getD, List.getElem?_eq_getElem (by omega)]
    rfl
theorem jw_all {L : List Int} {n : Nat} (h : L.length = n) : jw (L.map lw) = nd (lws (fun j => L.getD j 0)) n := by
  have e := jw_nd L n (by omega)
  rw [List.take_of_length_le (by rw [List.length_map]; omega)] at e
  exact e
/-- The document's sign of i + 1 words. -/
theorem sgw_sgd (i : Nat) (z : Int) : sgw (16 * (i + 1)) z = sgd i z := by
  have e1 : (2 : Int) ^ (16 * (i + 1)) = 65536 ^ (i + 1) := q65536 (i + 1)
  have e2 : (2 : Int) ^ (16 * (i + 1) - 1) = 32768 * 65536 ^ i := by
    rw [show 16 * (i + 1) - 1 = 15 + 16 * i by omega, Int.pow_add, q65536]; rfl
  unfold sgw sgd
  rw [e1, e2]
end Go.Proofs.Ytmjnihepgglbdaa
