/-
  Types of numbers: what Valid, Promote, Common and Convert answer; nothing that was there has turned.
-/
import Derived.Test.YtonekpoblgigpaaDoorChecked
import Derived.Test.YtonekpoblgigpaaDoorPlain
import Derived.Test.YtonekpoblgigpaaDoorMem
import Derived.Test.YtonekpoblgigpaaDoorReg
namespace Go.Proofs.YtonekpoblgigpaaDoor
open Go.RowKit
set_option linter.unusedSimpArgs false
set_option linter.unusedVariables false

theorem bT {u v x : World} (k1 : Below u.heap.size u v) (k2 : Below v.heap.size v x) : Below u.heap.size u x := k1.trans (k2.mono k1.size)

theorem Box.put0 {w : World} {b : Nat} {x y : Value} (h : Box w b [x, y]) (u : Value) : (w.setCell ⟨b, 0, none⟩ u).cell? ⟨b, 0, none⟩ = some u := (h.set (j := 0) (u := u) (by simp)).2.1 0 _ rfl
theorem Box.put1 {w : World} {b : Nat} {x y : Value} (h : Box w b [x, y]) (u v : Value) : ((w.setCell ⟨b, 0, none⟩ u).setCell ⟨b, 1, none⟩ v).cell? ⟨b, 1, none⟩ = some v := ((h.set (j := 0) (u := u) (by simp)).set (j := 1) (u := v) (by simp)).2.1 1 _ rfl
theorem Box.put {w : World} {b : Nat} {x y : Value} (h : Box w b [x, y]) (u v : Value) : Box ((w.setCell ⟨b, 0, none⟩ u).setCell ⟨b, 1, none⟩ v) b [u, v] := (h.set (j := 0) (u := u) (by simp)).set (j := 1) (u := v) (by simp)

/-- A type made as wide as a word. -/
def pb (b : Int) : Int := if b < 16 then 16 else b
def ps (b : Int) (s : Bool) : Bool := if b < 16 then true else s
end Go.Proofs.YtonekpoblgigpaaDoor
