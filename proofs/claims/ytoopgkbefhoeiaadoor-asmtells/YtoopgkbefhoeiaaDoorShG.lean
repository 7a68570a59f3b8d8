/-
  What lies in package variables, words of kinds, rows of texts. (Where 9 is the document's Show.)
-/
import Derived.Test.YtoopgkbefhoeiaaDoorAsP0
import Derived.Test.YtoopgkbefhoeiaaDoorShelf
import Derived.Lib.AppendIntMem
import Derived.Deep.QuietTactic
import Derived.BigQuiet
import Derived.WalkSmall
namespace Go.Proofs.YtoopgkbefhoeiaaDoor
open Go.RowKit
set_option linter.unusedSimpArgs false
set_option linter.unusedVariables false

/-- The words of kinds. -/
def kwL : List (List UInt8) := [[104, 97, 108, 116], [109, 111, 118], [108, 100, 105], [108, 100], [115, 116], [97, 100, 100], [97, 100, 99], [115, 117, 98], [115, 98, 99], [97, 110, 100], [111, 114], [120, 111, 114], [99, 109, 112], [99, 112, 99], [115, 104, 108], [114, 111, 108], [115, 104, 114], [115, 97, 114], [114, 111, 114], [106, 109, 112], [106, 122], [106, 110, 122], [106, 99], [106, 110, 99], [106, 108, 116], [106, 103, 101], [99, 97, 108, 108], [114, 101, 116], [112, 117, 115, 104], [112, 111, 112], [111, 117, 116], [105, 110], [116, 114, 97, 112]]
def ba (l : List UInt8) : ByteArray := ⟨l.toArray⟩
theorem ba_list (l : List UInt8) : (ba l).toList = l := by rw [ByteArray.toList_eq]; simp [ba]
theorem ba_data (l : List UInt8) : (ba l).data.toList = l := by simp [ba]
theorem ba_size (l : List UInt8) : (ba l).size = l.length := rfl
theorem ba_of (s : ByteArray) : ba s.data.toList = s := by cases s; simp [ba]
/-- What lies in package variables. -/
structure Gl (w : World) : Prop where
  tab : Lib.TabIs Tryd.prog w "internal/strconv.uint64pow10" .u64 Lib.pow10Tab
  kw : ∃ t fr, w.heap[0]? = some (.cells (kwL.map fun l => Value.string (ba l)).toArray t fr)
theorem Gl.step {w w' : World} (h : Gl w) (k : Below w.heap.size w w') : Gl w' := by
  obtain ⟨ht, ⟨tk, fr, hk⟩⟩ := h
  exact ⟨Lib.tabBelow_of_tabIs ht w' k, ⟨tk, fr, by rw [k.block _ (Array.getElem?_eq_some_iff.1 hk).1]; exact hk⟩⟩
theorem kd_short : ∀ k : Fin 33, (kwL[k.val]'(by have := k.2; exact this)).length ≤ 4 := by decide
theorem nDig5 {u : Nat} (h : u < 100000) : Lib.nDigits u ≤ 5 := by
  have st : ∀ n k, Lib.nDigits (n / 10) ≤ k → 1 ≤ k → Lib.nDigits n ≤ k + 1 := by
    intro n k h1 h2
    rw [Lib.nDigits]
    split <;> omega
  have z : ∀ n, n < 10 → Lib.nDigits n ≤ 1 := fun n hn => by rw [Lib.nDigits_small hn]; omega
  exact st _ 4 (st _ 3 (st _ 2 (st _ 1 (z _ (by omega)) (by omega)) (by omega)) (by omega)) (by omega)
theorem Tryd.infoStr4 : (Tryd.prog.info? 9).map (fun i => (i.zero, i.size, i.bytes)) = some (some (.string ⟨#[]⟩), 1, 16) := by kernel_rfl
/-- Texts, as they lie. -/
def txs (l : List (List UInt8)) : List Value := l.map fun s => .string (ba s)
theorem txs_snoc (l : List (List UInt8)) (s : List UInt8) : txs l ++ [.string (ba s)] = txs (l ++ [s]) := by simp [txs]
theorem own_txs {w : World} {B : Nat} {v : Value} {l : List (List UInt8)} {s : List UInt8} (h : w.ownsRow B 9 1 v (l.length + 1) (txs l ++ [.string (ba s)])) : w.ownsRow B 9 1 v (l ++ [s]).length (txs (l ++ [s])) := by
  rw [txs_snoc] at h
  rw [List.length_append]
  exact h
theorem box1 (u : World) (x : Value) (T : TypeId) (B : Nat) (hB : B = u.heap.size) : ∀ j y, [x][j]? = some y → (u.alloc (.cells #[x] T)).cell? ((⟨B, 0, none⟩ : Addr).add j) = some y := by
  subst hB; exact one_c1 u x T
end Go.Proofs.YtoopgkbefhoeiaaDoor
