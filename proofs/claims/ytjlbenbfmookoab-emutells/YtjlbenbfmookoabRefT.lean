/-
  pairlegalref3.SameBytes, SameState and Same, of what is the same.
-/
import Derived.Test.YtjlbenbfmookoabEmuZ
import Derived.Test.YtjlbenbfmookoabRefS
namespace Go.Proofs.Ytjlbenbfmookoab
open Go.RowKit
set_option linter.unusedSimpArgs false
set_option linter.unusedVariables false

set_option maxHeartbeats 1000000 in
theorem sameB_yes (xs : List Int) (va vb : Value) (w : World) (ha : Byts w va xs) (hb : Byts w vb xs) :
    Calls Try.prog 12 #[va, vb] w fun e w' => e = .returned (.bool true) ∧ Below w.heap.size w w' := by
  obtain ⟨ao, ca, rfl, hmax, hat⟩ := ha.at
  obtain ⟨bo, cb, rfl, _, hbt⟩ := hb.at
  clear ha hb
  have HA := hideI hat
  have HB := hideI hbt
  clear hat hbt
  unfold maxLen at hmax
  go_enter Try.func12, Try.ntmps12
  go_wp2_with fail
  go_loopg [13] xs.length (fun g t wr => ∃ (i q : Nat), i ≤ xs.length ∧ g = xs.length - i ∧ t = .int .i64 i ∧ wr = w.drewN q)
  case atStart => exact ⟨0, 0, Nat.zero_le _, rfl, rfl, rfl⟩
  case round =>
    obtain ⟨i, q, hi, rfl, rfl, rfl⟩ := hrel
    by_cases hlt : i < xs.length
    · have hn : xs ≠ [] := by intro h; rw [h] at hlt; simp at hlt
      obtain ⟨b1, o1, rfl, h1, c1⟩ := (unhideI HA) hn
      obtain ⟨b2, o2, rfl, h2, c2⟩ := (unhideI HB) hn
      have x1 := c1 i hlt
      have x2 := c2 i hlt
      clear c1 c2
      have hee : (xs[i] != xs[i]) = false := by simp
      generalize xs[i] = y at *
      go_wp2_with fail
      go_quiet (fail)
      go_wp2_with fail
      go_roundg (xs.length - (i + 1))
      case measure => omega
      case rel => exact ⟨i + 1, _, by omega, rfl, by go_num, rfl⟩
    · go_wp2
      go_ret
      exact ⟨rfl, bdr (Below.refl _ _) _⟩

theorem eqRegs (a b c d e f g h : Int) (w : World) : (Op.equalIn 10000 23 (.agg #[.int .i64 a, .int .i64 b, .int .i64 c, .int .i64 d, .int .i64 e, .int .i64 f, .int .i64 g, .int .i64 h]) (.agg #[.int .i64 a, .int .i64 b, .int .i64 c, .int .i64 d, .int .i64 e, .int .i64 f, .int .i64 g, .int .i64 h])).run Try.prog w = .ok true w := by
  rw [show (10000 : Nat) = 9999 + 1 from rfl, Op.equalIn]
  simp only [Sem.run_bind, run_underlying Try.underlying23, Result.andThen_ok]
  simp only [Std.Legacy.Range.forIn_eq_forIn_range', Std.Legacy.Range.size, Nat.sub_zero, Nat.add_sub_cancel, Nat.div_one, List.range'_succ, List.range'_zero, List.forIn_cons, List.forIn_nil]
  go_simp
theorem eqFlags (a b c d : Bool) (w : World) : (Op.equalIn 10000 25 (.agg #[.bool a, .bool b, .bool c, .bool d]) (.agg #[.bool a, .bool b, .bool c, .bool d])).run Try.prog w = .ok true w := by
  have hS : Try.prog.underlying 25 = some (.struct (Try.prog.fieldsOf 25)) := by kernel_rfl
  rw [show (10000 : Nat) = 9999 + 1 from rfl, run_equalIn_agg w 9999 25 _ _ hS (by kernel_rfl)]
  simp only [Program.fieldsOf, Try.underlying25]
  go_simp
/-- A state's cells in what came of a run. -/
def stC (m : Ma) (vm : Value) : Array Value := #[.int .i64 (m.r 0), .int .i64 (m.r 1), .int .i64 (m.r 2), .int .i64 (m.r 3), .int .i64 (m.r 4), .int .i64 (m.r 5), .int .i64 (m.r 6), .int .i64 (m.r 7), .bool m.c, .bool m.z, .bool m.n, .bool m.v, .int .i64 m.pc, vm]
set_option maxRecDepth 100000 in
set_option maxHeartbeats 1000000 in
theorem sameS_yes (m : Ma) (l : List Int) (va vb : Value) (w : World) (ha : Ints w va l) (hb : Ints w vb l) :
    Calls Try.prog 11 #[.agg (stC m va), .agg (stC m vb)] w fun e w' => e = .returned (.bool true) ∧ Below w.heap.size w w' := by
  have K2 := hideI (bt (below_a w (.cells (stC m va) 27)) (below_a _ (.cells (stC m vb) 27)))
  have S := hideI (same1_yes l va vb _ (ha.step (unhideI K2)) (hb.step (unhideI K2)))
  obtain ⟨ao, ca, rfl, hmax, hat⟩ := ha.at
  obtain ⟨bo, cb, rfl, _, hbt⟩ := hb.at
  clear ha hb hat hbt
  unfold stC at *
  have e1 := eqRegs (m.r 0) (m.r 1) (m.r 2) (m.r 3) (m.r 4) (m.r 5) (m.r 6) (m.r 7)
  have e2 := eqFlags m.c m.z m.n m.v
  go_enter Try.func11, Try.ntmps11
  go_wp2_with fail
  refine (unhideI S).mono ?_
  rintro e w1 ⟨rfl, k1⟩
  go_wp2_with fail
  go_ret
  exact ⟨rfl, bt (unhideI K2) k1⟩
end Go.Proofs.Ytjlbenbfmookoab
