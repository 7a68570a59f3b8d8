/-
  A run that somebody looks on at: plain functions.
-/
import Derived.Test.YtjlbenbfmookoaaEmuM
namespace Go.Proofs.Ytjlbenbfmookoaa
open Go.RowKit
set_option linter.unusedSimpArgs false
set_option linter.unusedVariables false

/-- A step that was taken. -/
structure Sht where
  a : Int
  i : Ins
  r : Nat → Int
  c : Bool
  z : Bool
  n : Bool
  v : Bool
def shtOf (a : Int) (i : Ins) (m : Ma) : Sht := ⟨a, i, m.r, m.c, m.z, m.n, m.v⟩
def Sht.cells (s : Sht) : Array Value :=
  #[.int .i64 s.a, .int .i64 s.i.o, .int .i64 s.i.d, .int .i64 s.i.s, .int .i64 s.i.m, .int .i64 (s.r 0), .int .i64 (s.r 1), .int .i64 (s.r 2), .int .i64 (s.r 3), .int .i64 (s.r 4), .int .i64 (s.r 5), .int .i64 (s.r 6), .int .i64 (s.r 7), .bool s.c, .bool s.z, .bool s.n, .bool s.v]
/-- What who looks on makes of the step that m takes. -/
def Ma.seen {σ : Type} (m : Ma) (xs bs : List Int) (tk : σ → Sht → Bool → σ) (s : σ) : σ := tk s (shtOf m.pc (oneA xs m.pc).1 (m.step xs bs)) (decide (¬ (oneA xs m.pc).2 = 0))
/-- The run. -/
def goW {σ : Type} (xs bs : List Int) (st : Int → Bool) (tk : σ → Sht → Bool → σ) : Nat → Ma → σ → Ma × σ
  | 0, m, s => if m.how = 0 then (if 0 < m.took ∧ st m.pc = true then ({ m with how := 6 }, s) else ({ m with how := 3 }, s)) else (m, s)
  | k + 1, m, s => if m.how = 0 then (if 0 < m.took ∧ st m.pc = true then ({ m with how := 6 }, s) else goW xs bs st tk k (m.step xs bs) (m.seen xs bs tk s)) else (m, s)
section
variable {σ : Type} {xs bs : List Int} {st : Int → Bool} {tk : σ → Sht → Bool → σ}
theorem goW_end (k : Nat) (m : Ma) (s : σ) (h : ¬ m.how = 0) : goW xs bs st tk k m s = (m, s) := by
  cases k <;> (unfold goW; rw [if_neg h])
theorem goW_stop (k : Nat) (m : Ma) (s : σ) (h : m.how = 0) (ht : 0 < m.took) (hs : st m.pc = true) : goW xs bs st tk k m s = ({ m with how := 6 }, s) := by
  cases k <;> (unfold goW; rw [if_pos h, if_pos ⟨ht, hs⟩])
theorem goW_fuel (m : Ma) (s : σ) (h : m.how = 0) (hn : ¬ (0 < m.took ∧ st m.pc = true)) : goW xs bs st tk 0 m s = ({ m with how := 3 }, s) := by
  unfold goW; rw [if_pos h, if_neg hn]
theorem goW_step (k : Nat) (m : Ma) (s : σ) (h : m.how = 0) (hn : ¬ (0 < m.took ∧ st m.pc = true)) : goW xs bs st tk (k + 1) m s = goW xs bs st tk k (m.step xs bs) (m.seen xs bs tk s) := by
  rw [goW, if_pos h, if_neg hn]
/-- Who only looks changes nothing. -/
theorem goW_run (hst : ∀ x, st x = false) : ∀ (k : Nat) (m : Ma) (s : σ), (goW xs bs st tk k m s).1 = Ma.run xs bs k m
  | 0, m, s => by
    by_cases h : m.how = 0
    · rw [goW_fuel m s h (by rw [hst]; simp), Ma.run, if_pos h]
    · rw [goW_end _ _ _ h, Ma.run, if_neg h]
  | k + 1, m, s => by
    by_cases h : m.how = 0
    · rw [goW_step k m s h (by rw [hst]; simp), Ma.run, if_pos h]; exact goW_run hst k _ _
    · rw [goW_end _ _ _ h, Ma.run, if_neg h]
end
end Go.Proofs.Ytjlbenbfmookoaa
