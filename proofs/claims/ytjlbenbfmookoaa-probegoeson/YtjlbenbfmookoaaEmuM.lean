/-
  The machine: plain numbers and functions, no program in sight.
-/
import Derived.Test.YtjlbenbfmookoaaInsM
import Derived.Test.YtjlbenbfmookoaaSum
namespace Go.Proofs.Ytjlbenbfmookoaa
open Go.RowKit
set_option linter.unusedSimpArgs false
set_option linter.unusedVariables false

/-- A machine that runs. -/
structure Ma where
  r : Nat → Int
  c : Bool
  z : Bool
  n : Bool
  v : Bool
  pc : Int
  mem : Nat → Int
  how : Int
  trap : Int
  out : List Int
  rd : Nat
  took : Int

def upd (f : Nat → Int) (k : Nat) (x : Int) : Nat → Int := fun j => if j = k then x else f j
theorem upd_same (f : Nat → Int) (k : Nat) (x : Int) : upd f k x k = x := by unfold upd; rw [if_pos rfl]
theorem upd_other (f : Nat → Int) (k j : Nat) (x : Int) (h : j ≠ k) : upd f k x j = f j := by unfold upd; rw [if_neg h]

def Ma.setR (m : Ma) (d : Int) (x : Int) : Ma := { m with r := upd m.r d.toNat x }
def Ma.reg (m : Ma) (d : Int) : Int := m.r d.toNat
def Ma.ld (m : Ma) (a : Int) : Int := m.mem a.toNat
def Ma.st (m : Ma) (a : Int) (x : Int) : Ma := { m with mem := upd m.mem a.toNat x }
/-- A register becomes bits that no sum has made. -/
def Ma.become (m : Ma) (d : Int) (x : Int) (cy : Bool) : Ma := { m with r := upd m.r d.toNat x, c := cy, z := x == 0, n := x / 32768 == 1, v := false }
def Ma.sum (m : Ma) (d : Int) (x y : Int) (cy : Bool) : Ma :=
  { m with r := upd m.r d.toNat (lw (sumt x y cy)), c := sumt x y cy != lw (sumt x y cy), z := lw (sumt x y cy) == 0, n := decide (sw (lw (sumt x y cy)) < 0), v := sums x y cy != sw (lw (sumt x y cy)) }
def Ma.cmp (m : Ma) (x y : Int) (cy : Bool) : Ma :=
  { m with c := dift x y cy != lw (dift x y cy), z := lw (dift x y cy) == 0, n := decide (sw (lw (dift x y cy)) < 0), v := difs x y cy != sw (lw (dift x y cy)) }
def Ma.dif (m : Ma) (d : Int) (x y : Int) (cy : Bool) : Ma := (m.cmp x y cy).setR d (lw (dift x y cy))
def Ma.push (m : Ma) (x : Int) : Ma := (m.setR 7 (lw (m.reg 7 - 1))).st (lw (m.reg 7 - 1)) x
def Ma.pop (m : Ma) : Ma := m.setR 7 (lw (m.reg 7 + 1))
def Ma.jump (m : Ma) (b : Bool) (x : Int) : Ma := if b then { m with pc := x } else m
def Ma.tell (m : Ma) (x : Int) : Ma := if m.out.length = 65536 then { m with how := 5 } else { m with out := m.out ++ [x % 256] }
def Ma.take (m : Ma) (bs : List Int) : Ma := if m.rd = bs.length then { m with c := true } else { m with c := false, rd := m.rd + 1 }
def Ma.took1 (m : Ma) (bs : List Int) : Int := if m.rd = bs.length then 0 else bs.getD m.rd 0
/-- Bits that move up, and down. -/
def upb (x : Int) (i : Int) : Int := x * 2 % 65536 + i
def dnb (x : Int) (i : Int) : Int := x / 2 + i * 32768
/-- What a jump of a kind hangs on. -/
def Ma.jumps (m : Ma) (o : Int) : Bool := if o = 20 then m.z else if o = 21 then !m.z else if o = 22 then m.c else if o = 23 then !m.c else if o = 24 then m.n != m.v else if o = 25 then m.n == m.v else true
def andI (x y : Int) : Int := bits .and .i64 x y
def orI (x y : Int) : Int := bits .or .i64 x y
def xorI (x y : Int) : Int := bits .xor .i64 x y

/-- What an instruction does. -/
def Ma.act (m : Ma) (i : Ins) (bs : List Int) : Ma :=
  if i.o = 0 then { m with how := 1 }
  else if i.o = 1 then m.setR i.d (m.reg i.s)
  else if i.o = 2 then m.setR i.d i.m
  else if i.o = 3 then m.setR i.d (m.ld (lw (m.reg i.s + i.m)))
  else if i.o = 4 then m.st (lw (m.reg i.d + i.m)) (m.reg i.s)
  else if i.o = 5 then m.sum i.d (m.reg i.d) (m.reg i.s) false
  else if i.o = 6 then m.sum i.d (m.reg i.d) (m.reg i.s) m.c
  else if i.o = 7 then m.dif i.d (m.reg i.d) (m.reg i.s) false
  else if i.o = 8 then m.dif i.d (m.reg i.d) (m.reg i.s) m.c
  else if i.o = 9 then m.become i.d (andI (m.reg i.d) (m.reg i.s)) false
  else if i.o = 10 then m.become i.d (orI (m.reg i.d) (m.reg i.s)) false
  else if i.o = 11 then m.become i.d (xorI (m.reg i.d) (m.reg i.s)) false
  else if i.o = 12 then m.cmp (m.reg i.d) (m.reg i.s) false
  else if i.o = 13 then { m.cmp (m.reg i.d) (m.reg i.s) m.c with z := (m.cmp (m.reg i.d) (m.reg i.s) m.c).z && m.z }
  else if i.o = 14 then m.become i.d (upb (m.reg i.d) 0) (m.reg i.d / 32768 == 1)
  else if i.o = 15 then m.become i.d (upb (m.reg i.d) (oi m.c)) (m.reg i.d / 32768 == 1)
  else if i.o = 16 then m.become i.d (dnb (m.reg i.d) 0) (m.reg i.d % 2 == 1)
  else if i.o = 17 then m.become i.d (dnb (m.reg i.d) (m.reg i.d / 32768)) (m.reg i.d % 2 == 1)
  else if i.o = 18 then m.become i.d (dnb (m.reg i.d) (oi m.c)) (m.reg i.d % 2 == 1)
  else if i.o ≤ 25 then m.jump (m.jumps i.o) i.m
  else if i.o = 26 then { m.push m.pc with pc := i.m }
  else if i.o = 27 then { m.pop with pc := m.ld (m.reg 7) }
  else if i.o = 28 then m.push (m.reg i.s)
  else if i.o = 29 then m.pop.setR i.d (m.ld (m.reg 7))
  else if i.o = 30 then m.tell (m.reg i.s)
  else if i.o = 31 then (m.take bs).setR i.d (m.took1 bs)
  else { m with how := 2, trap := i.m }

/-- One step. -/
def Ma.step (m : Ma) (xs bs : List Int) : Ma :=
  if (oneA xs m.pc).2 = 0 then { m with took := m.took + 1, how := 4 }
  else
    let m2 := ({ m with took := m.took + 1, pc := lw (m.pc + (oneA xs m.pc).2) } : Ma).act (oneA xs m.pc).1 bs
    if m2.how = 0 then m2 else { m2 with pc := m.pc }

/-- So many steps at most. -/
def Ma.run (xs bs : List Int) : Nat → Ma → Ma
  | 0, m => if m.how = 0 then { m with how := 3 } else m
  | k + 1, m => if m.how = 0 then run xs bs k (m.step xs bs) else m

def wd (x : Int) : Prop := 0 ≤ x ∧ x ≤ 65535
/-- All that are words are words. -/
structure Ma.Fine (m : Ma) (bs : List Int) : Prop where
  r : ∀ j, j < 8 → wd (m.r j)
  mem : ∀ j, j < 65536 → wd (m.mem j)
  pc : wd m.pc
  out : m.out.length ≤ 65536
  told : ∀ x ∈ m.out, 0 ≤ x ∧ x ≤ 255
  rd : m.rd ≤ bs.length
  inp : ∀ x ∈ bs, 0 ≤ x ∧ x ≤ 255
end Go.Proofs.Ytjlbenbfmookoaa
