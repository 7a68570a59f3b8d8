/-
  pairlegalref3.SameBytes, SameState and Same, of what is the same.
-/
import Derived.Test.YtjlbenbfmookoaaEmuZ
import Derived.Test.YtjlbenbfmookoaaRefS
namespace Go.Proofs.Ytjlbenbfmookoaa
open Go.RowKit
set_option linter.unusedSimpArgs false
set_option linter.unusedVariables false

set_option maxHeartbeats 1000000 in
theorem sameB_yes (xs : List Int) (va vb : Value) (w : World) (ha : Byts w va xs) (hb : Byts w vb xs) :
    Calls Try.prog 21 #[va, vb] w fun e w' => e = .returned (.bool true) ∧ Below w.heap.size w w' := by
  obtain ⟨ao, ca, rfl, hmax, hat⟩ := ha.at
  obtain ⟨bo, cb, rfl, _, hbt⟩ := hb.at
  clear ha hb
  have HA := hideI hat
  have HB := hideI hbt
  clear hat hbt
  unfold maxLen at hmax
  go_enter Try.func21, Try.ntmps21
  go_wp2_with fail
  go_loopg [13] xs.length (fun g t wr => ∃ (i q : Nat), i ≤ xs.length ∧ g = xs.length - i ∧ t = .int .i64 i ∧ wr = w.drewN q)
  case atStart => exact ⟨0, 0, Nat.zero_le _, rfl, rfl, rfl⟩
  case round =>
    obtain ⟨i, q, hi, rfl, rfl, rfl⟩ := hrel
    by_cases hlt : i < xs.length
    · have hn : xs ≠ [] := by intro h; rw [h] at hlt; simp at hlt
      obtain ⟨b1, o1, rfl, h1, c1⟩ := (unhideI HA) hn
      obtain ⟨b2, o2, rfl, h2, c2⟩ := (unhideI HB) hn
      have x1 := c1 i hlt
      have x2 := c2 i hlt
      clear c1 c2
      have hee : (xs[i] != xs[i]) = false := by simp
      generalize xs[i] = y at *
      go_wp2_with fail
      go_quiet (fail)
      go_wp2_with fail
      go_roundg (xs.length - (i + 1))
      case measure => omega
      case rel => exact ⟨i + 1, _, by omega, rfl, by go_num, rfl⟩
    · go_wp2
      go_ret
      exact ⟨rfl, bdr (Below.refl _ _) _⟩

theorem eqRegs (a b c d e f g h : Int) (w : World) : (Op.equalIn 10000 23 (.agg #[.int .i64 a, .int .i64 b, .int .i64 c, .int .i64 d, .int .i64 e, .int .i64 f, .int .i64 g, .int .i64 h]) (.agg #[.int .i64 a, .int .i64 b, .int .i64 c, .int .i64 d, .int .i64 e, .int .i64 f, .int .i64 g, .int .i64 h])).run Try.prog w = .ok true w := by
  rw [show (10000 : Nat) = 9999 + 1 from rfl, Op.equalIn]
  simp only [Sem.run_bind, run_underlying Try.underlying23, Result.andThen_ok]
  simp only [Std.Legacy.Range.forIn_eq_forIn_range', Std.Legacy.Range.size, Nat.sub_zero, Nat.add_sub_cancel, Nat.div_one, List.range'_succ, List.range'_zero, List.forIn_cons, List.forIn_nil]
  go_simp
theorem eqFlags (a b c d : Bool) (w : World) : (Op.equalIn 10000 25 (.agg #[.bool a, .bool b, .bool c, .bool d]) (.agg #[.bool a, .bool b, .bool c, .bool d])).run Try.prog w = .ok true w := by
  have hS : Try.prog.underlying 25 = some (.struct (Try.prog.fieldsOf 25)) := by kernel_rfl
  rw [show (10000 : Nat) = 9999 + 1 from rfl, run_equalIn_agg w 9999 25 _ _ hS (by kernel_rfl)]
  simp only [Program.fieldsOf, Try.underlying25]
  go_simp
/-- A state's cells in what came of a run. -/
def stC (m : Ma) (vm : Value) : Array Value := #[.int .i64 (m.r 0), .int .i64 (m.r 1), .int .i64 (m.r 2), .int .i64 (m.r 3), .int .i64 (m.r 4), .int .i64 (m.r 5), .int .i64 (m.r 6), .int .i64 (m.r 7), .bool m.c, .bool m.z, .bool m.n, .bool m.v, .int .i64 m.pc, vm]
set_option maxRecDepth 100000 in
set_option maxHeartbeats 1000000 in
theorem sameS_yes (m : Ma) (l : List Int) (va vb : Value) (w : World) (ha : Ints w va l) (hb : Ints w vb l) :
    Calls Try.prog 20 #[.agg (stC m va), .agg (stC m vb)] w fun e w' => e = .returned (.bool true) ∧ Below w.heap.size w w' := by
  have K2 := hideI (bt (below_a w (.cells (stC m va) 27)) (below_a _ (.cells (stC m vb) 27)))
  have S := hideI (same1_yes l va vb _ (ha.step (unhideI K2)) (hb.step (unhideI K2)))
  obtain ⟨ao, ca, rfl, hmax, hat⟩ := ha.at
  obtain ⟨bo, cb, rfl, _, hbt⟩ := hb.at
  clear ha hb hat hbt
  unfold stC at *
  have e1 := eqRegs (m.r 0) (m.r 1) (m.r 2) (m.r 3) (m.r 4) (m.r 5) (m.r 6) (m.r 7)
  have e2 := eqFlags m.c m.z m.n m.v
  go_enter Try.func20, Try.ntmps20
  go_wp2_with fail
  refine (unhideI S).mono ?_
  rintro e w1 ⟨rfl, k1⟩
  go_wp2_with fail
  go_ret
  exact ⟨rfl, bt (unhideI K2) k1⟩
set_option maxRecDepth 100000 in
set_option maxHeartbeats 1000000 in
theorem sameR_yes (m : Ma) (l : List Int) (va vb oa ob : Value) (w : World) (ha : Ints w va l) (hb : Ints w vb l) (hc : Byts w oa m.out) (hd : Byts w ob m.out) :
    Calls Try.prog 14 #[ranV m oa va, ranV m ob vb] w fun e w' => e = .returned (.bool true) ∧ Below w.heap.size w w' := by
  have K2 := hideI (bt (below_a w (.cells (ranC m oa va) 33)) (below_a _ (.cells (ranC m ob vb) 33)))
  have S1 := hideI (fun w1 (k : Below _ _ w1) => sameS_yes m l va vb w1 ((ha.step (unhideI K2)).step k) ((hb.step (unhideI K2)).step k))
  have S2 := hideI (sameB_yes m.out oa ob _ (Lies.step hc (unhideI K2)) (Lies.step hd (unhideI K2)))
  have BA := hideI ((Box.new w (ranC m oa va) 33).step (below_a _ (.cells (ranC m ob vb) 33)))
  have BB := hideI (Box.new (w.alloc (.cells (ranC m oa va) 33)) (ranC m ob vb) 33)
  rw [World.size_alloc] at BB
  obtain ⟨ao, ca, rfl, _, _⟩ := ha.at
  obtain ⟨bo, cb, rfl, _, _⟩ := hb.at
  obtain ⟨co, cc, rfl, _, _⟩ := hc.at
  obtain ⟨do', cd, rfl, _, _⟩ := hd.at
  clear ha hb hc hd
  unfold ranV ranC at *
  unfold stC at S1
  go_enter Try.func14, Try.ntmps14
  go_wp2_with fail
  refine (unhideI S2).mono ?_
  rintro e w1 ⟨rfl, k1⟩
  have S3 := hideI (unhideI S1 w1 k1)
  have PD := (unhideI BA).step k1
  have QD := (unhideI BB).step k1
  have KK := hideI (bt (unhideI K2) k1)
  have p5 := PD.2.1 5 _ rfl
  have q5 := QD.2.1 5 _ rfl
  have p6 := PD.2.1 6 _ rfl
  have q6 := QD.2.1 6 _ rfl
  have p7 := PD.2.1 7 _ rfl
  have q7 := QD.2.1 7 _ rfl
  have p8 := PD.2.1 8 _ rfl
  have q8 := QD.2.1 8 _ rfl
  have p9 := PD.2.1 9 _ rfl
  have q9 := QD.2.1 9 _ rfl
  have p10 := PD.2.1 10 _ rfl
  have q10 := QD.2.1 10 _ rfl
  have p11 := PD.2.1 11 _ rfl
  have q11 := QD.2.1 11 _ rfl
  have p12 := PD.2.1 12 _ rfl
  have q12 := QD.2.1 12 _ rfl
  have p13 := PD.2.1 13 _ rfl
  have q13 := QD.2.1 13 _ rfl
  have p14 := PD.2.1 14 _ rfl
  have q14 := QD.2.1 14 _ rfl
  have p15 := PD.2.1 15 _ rfl
  have q15 := QD.2.1 15 _ rfl
  have p16 := PD.2.1 16 _ rfl
  have q16 := QD.2.1 16 _ rfl
  have p17 := PD.2.1 17 _ rfl
  have q17 := QD.2.1 17 _ rfl
  have p18 := PD.2.1 18 _ rfl
  have q18 := QD.2.1 18 _ rfl
  clear PD QD k1 S1 S2 BA BB K2
  go_wp2_with fail
  refine (unhideI S3).mono ?_
  rintro e w2 ⟨rfl, k2⟩
  go_wp2_with fail
  go_ret
  exact ⟨rfl, bt (unhideI KK) k2⟩
end Go.Proofs.Ytjlbenbfmookoaa
