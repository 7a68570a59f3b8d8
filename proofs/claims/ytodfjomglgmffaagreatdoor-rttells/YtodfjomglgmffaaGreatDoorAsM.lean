/-
  Lines: names, what is wrong with a line; plain lists, no program in sight.
-/
import Derived.Test.YtodfjomglgmffaaGreatDoorInsM
namespace Go.Proofs.YtodfjomglgmffaaGreatDoor
open Go.RowKit
set_option linter.unusedSimpArgs false
set_option linter.unusedVariables false

/-- A line's label, instruction, and the label that it speaks of. -/
structure Ln where
  lab : ByteArray
  i : Ins
  ref : ByteArray

/-- May a sign stand in a name, at its beginning or further on? -/
def fitC (c : Int) (first : Bool) : Bool := (decide (97 ≤ c ∧ c ≤ 122) || decide (c = 95)) || (decide (48 ≤ c ∧ c ≤ 57) && !first) || (decide (c = 46) && first)
def byt (s : ByteArray) (j : Nat) : Int := if h : j < s.size then ((s[j].toNat : Nat) : Int) else 0
theorem byt_at {s : ByteArray} {j : Nat} (h : j < s.size) : byt s j = ((s[j].toNat : Nat) : Int) := by unfold byt; rw [dif_pos h]
/-- All signs from j on fit. -/
def fits (s : ByteArray) : Nat → Nat → Bool
  | 0, _ => true
  | n + 1, j => fitC (byt s j) (j == 0) && fits s n (j + 1)
def nm (s : ByteArray) : Bool := !(s.toList.isEmpty) && !(s.toList == [46]) && decide (s.size ≤ 32) && fits s s.size 0
end Go.Proofs.YtodfjomglgmffaaGreatDoor
