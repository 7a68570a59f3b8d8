/-
  Routines: their texts, as plain functions.
-/
import Derived.Lib.Join
import Derived.Lib.ItoaNum
import Derived.Lib.AtoiAll
import Derived.WalkKit
namespace Go.Proofs.YtodfjomglgmffaaGreatDoor
open Go.RowKit
set_option linter.unusedSimpArgs false
set_option linter.unusedVariables false

theorem fmn {α : Type} {p : α → Prop} : ∀ x ∈ ([] : List α), p x := fun _ h => absurd h List.not_mem_nil
theorem fmc {α : Type} {p : α → Prop} {a : α} {l : List α} (h : p a) (k : ∀ x ∈ l, p x) : ∀ x ∈ a :: l, p x := List.forall_mem_cons.2 ⟨h, k⟩
/-- A row that is an instruction; a label. -/
def insT (kd : List UInt8) (fs : List (List UInt8)) : List UInt8 := 9 :: kd ++ (if fs = [] then [] else 32 :: Lib.join fs [44, 32]) ++ [10]
def labT (s : List UInt8) : List UInt8 := s ++ [58, 10]
def dgs (n : Nat) : List UInt8 := if n < 10 then [UInt8.ofNat (48 + n)] else [UInt8.ofNat (48 + n / 10), UInt8.ofNat (48 + n % 10)]
theorem dgs_eq {n : Nat} (h : n < 100) : Lib.decDigits n = dgs n := by
  unfold dgs
  by_cases h1 : n < 10
  · rw [if_pos h1, Lib.decDigits, dif_pos h1]
  · rw [if_neg h1, Lib.decDigits, dif_neg h1, Lib.decDigits, dif_pos (by omega)]; rfl
theorem dgs_len (n : Nat) : (dgs n).length ≤ 2 := by unfold dgs; split <;> simp
def hld (k : Nat) : List UInt8 := 114 :: dgs (2 + k)
def chd (k : Nat) (a b : List UInt8) : List UInt8 := if k = 0 then a else b
def each (n : Nat) (f : Nat → List UInt8) : List UInt8 := (List.range n).flatMap f
theorem each_succ (n : Nat) (f : Nat → List UInt8) : each (n + 1) f = each n f ++ f n := by unfold each; rw [List.range_succ, List.flatMap_append]; simp
def clearT (n : Nat) := each n fun k => insT [108, 100, 105] [hld k, [48]]
def loadT (n : Nat) := each n fun k => insT [108, 100] [hld k, [114, 48], dgs k]
def storeT (n : Nat) := each n fun k => insT [115, 116] [[114, 48], hld k, dgs k]
def upT (f : List UInt8) (n : Nat) := each n fun k => insT (chd k f [114, 111, 108]) [hld k]
def downT (f : List UInt8) (n : Nat) := each n fun k => insT (chd k f [114, 111, 114]) [hld (n - 1 - k)]
def upAtT (pl : List UInt8) (bh n : Nat) := each n fun k => insT [108, 100] [[114, 54], pl, dgs (bh + k)] ++ insT (chd k [115, 104, 108] [114, 111, 108]) [[114, 54]] ++ insT [115, 116] [pl, [114, 54], dgs (bh + k)]
def withT (a b pl : List UInt8) (bh n : Nat) := each n fun k => insT [108, 100] [[114, 54], pl, dgs (bh + k)] ++ insT (chd k a b) [hld k, [114, 54]]
def negT (pl : List UInt8) (n : Nat) := each n fun k => insT [108, 100, 105] [[114, 54], [48]] ++ insT [108, 100] [hld 0, pl, dgs k] ++ insT (chd k [115, 117, 98] [115, 98, 99]) [[114, 54], hld 0] ++ insT [115, 116] [pl, [114, 54], dgs k]
def unsT (pl past : List UInt8) (n : Nat) := insT [108, 100] [[114, 54], pl, dgs (n - 1)] ++ insT [111, 114] [[114, 54], [114, 54]] ++ insT [106, 103, 101] [past] ++ negT pl n ++ labT past
def trapT (n : Nat) := insT [108, 100, 105] [[114, 54], [48]] ++ (each n fun k => insT [108, 100] [hld 0, [114, 49], dgs k] ++ insT [111, 114] [[114, 54], hld 0]) ++ insT [106, 110, 122] [[46, 102, 105, 110, 101]] ++ insT [116, 114, 97, 112] [[49]] ++ labT [46, 102, 105, 110, 101]
def pushT (n : Nat) := each n fun k => insT [108, 100] [[114, 54], [114, 49], dgs (n - 1 - k)] ++ insT [112, 117, 115, 104] [[114, 54]]
def dropT (k : Nat) := insT [108, 100, 105] [[114, 54], dgs k] ++ insT [97, 100, 100] [[114, 55], [114, 54]]
def perT (n : Nat) := pushT n ++ insT [108, 100, 105] [[114, 54], dgs (16 * n)] ++ insT [112, 117, 115, 104] [[114, 54]] ++ insT [108, 100, 105] [[114, 49], [49]] ++ clearT n ++ labT [46, 98, 105, 116]
def doneT (n : Nat) := labT [46, 110, 101, 120, 116] ++ insT [108, 100] [[114, 54], [114, 55], dgs 0] ++ insT [115, 117, 98] [[114, 54], [114, 49]] ++ insT [115, 116] [[114, 55], [114, 54], dgs 0] ++ insT [106, 110, 122] [[46, 98, 105, 116]] ++ dropT (1 + n)
def mulT (n : Nat) := perT n ++ upT [115, 104, 108] n ++ upAtT [114, 55] 1 n ++ insT [106, 110, 99] [[46, 110, 101, 120, 116]] ++ withT [97, 100, 100] [97, 100, 99] [114, 48] 0 n ++ doneT n ++ storeT n ++ insT [114, 101, 116] []
def divT (n : Nat) := trapT n ++ perT n ++ upAtT [114, 48] 0 n ++ upT [114, 111, 108] n ++ withT [99, 109, 112] [99, 112, 99] [114, 55] 1 n ++ insT [106, 99] [[46, 110, 101, 120, 116]] ++ withT [115, 117, 98] [115, 98, 99] [114, 55] 1 n ++ insT [108, 100] [[114, 54], [114, 48], [48]] ++ insT [111, 114] [[114, 54], [114, 49]] ++ insT [115, 116] [[114, 48], [114, 54], [48]] ++ doneT n
def udivT (n : Nat) := divT n ++ insT [114, 101, 116] []
def uremT (n : Nat) := divT n ++ storeT n ++ insT [114, 101, 116] []
def signT (kd : List UInt8) (n : Nat) := insT [112, 117, 115, 104] [hld 0] ++ insT [112, 117, 115, 104] [[114, 48]] ++ pushT n ++ unsT [114, 55] [46, 98] n ++ unsT [114, 48] [46, 97] n ++ insT [109, 111, 118] [[114, 49], [114, 55]] ++ insT [99, 97, 108, 108] [kd ++ dgs n] ++ dropT n ++ insT [112, 111, 112] [[114, 48]] ++ insT [112, 111, 112] [hld 0] ++ insT [111, 114] [hld 0, hld 0] ++ insT [106, 103, 101] [[46, 101, 110, 100]] ++ negT [114, 48] n ++ labT [46, 101, 110, 100] ++ insT [114, 101, 116] []
def sdivT (n : Nat) := trapT n ++ insT [108, 100] [hld 0, [114, 48], dgs (n - 1)] ++ insT [108, 100] [[114, 54], [114, 49], dgs (n - 1)] ++ insT [120, 111, 114] [hld 0, [114, 54]] ++ signT [117, 100, 105, 118] n
def sremT (n : Nat) := trapT n ++ insT [108, 100] [hld 0, [114, 48], dgs (n - 1)] ++ signT [117, 114, 101, 109] n
def shiftT (mv : Nat → List UInt8) (n : Nat) := insT [108, 100] [[114, 49], [114, 49], [48]] ++ insT [108, 100, 105] [[114, 54], dgs (16 * n)] ++ insT [99, 109, 112] [[114, 49], [114, 54]] ++ insT [106, 99] [[46, 102, 101, 119]] ++ insT [109, 111, 118] [[114, 49], [114, 54]] ++ labT [46, 102, 101, 119] ++ loadT n ++ insT [108, 100, 105] [[114, 54], [49]] ++ labT [46, 112, 108, 97, 99, 101] ++ insT [115, 117, 98] [[114, 49], [114, 54]] ++ insT [106, 99] [[46, 101, 110, 100]] ++ mv n ++ insT [106, 109, 112] [[46, 112, 108, 97, 99, 101]] ++ labT [46, 101, 110, 100] ++ storeT n ++ insT [114, 101, 116] []
def shlT := shiftT (upT [115, 104, 108])
def shrT := shiftT (downT [115, 104, 114])
def sarT := shiftT (downT [115, 97, 114])
/-- The kinds, rising, and what each writes. -/
def kdR : List (List UInt8) := [[109, 117, 108], [115, 97, 114], [115, 100, 105, 118], [115, 104, 108], [115, 104, 114], [115, 114, 101, 109], [117, 100, 105, 118], [117, 114, 101, 109]]
def kdT (k : Nat) : Nat → List UInt8 := match k with | 0 => mulT | 1 => sarT | 2 => sdivT | 3 => shlT | 4 => shrT | 5 => sremT | 6 => udivT | _ => uremT
/-- A routine's whole text: kind k, for numbers of n words. -/
def rtT (k n : Nat) : List UInt8 := labT (kdR.getD k [] ++ dgs n) ++ kdT k n
end Go.Proofs.YtodfjomglgmffaaGreatDoor
