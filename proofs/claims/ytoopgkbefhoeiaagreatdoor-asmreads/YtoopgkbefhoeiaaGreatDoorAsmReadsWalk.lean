/-
  pairlegallaw4.AsmReads.
-/
import Derived.Test.YtoopgkbefhoeiaaGreatDoorR4U
import Derived.Test.YtoopgkbefhoeiaaGreatDoorRefS4
namespace Go.Proofs.YtoopgkbefhoeiaaGreatDoor
open Go.RowKit Go.Maps
set_option linter.unusedSimpArgs false
set_option linter.unusedVariables false

set_option maxRecDepth 100000 in
set_option maxHeartbeats 4000000 in
theorem asmReads_any (t : ByteArray) (w : World) (G : Gl w) : Calls Tryz.prog 3 #[.string t] w fun e w' => e = .returned (.bool true) ∧ Below w.heap.size w w' := by
  have RD := read_any t w G
  have RF := fun w => read4_any t.data.toList w
  rw [ba_of] at RF
  generalize readA t.data.toList = R at *
  obtain ⟨ls, er, ef⟩ := R
  dsimp only at RD RF
  clear G
  go_enter Tryz.func3, Tryz.ntmps3
  go_wp2_with fail
  refine RD.mono ?_
  rintro e w1 ⟨v1, rfl, l1, -, k1⟩
  have L1 := hideI (l1.step (below_a w1 (.cells #[.int .i64 er, .int .i64 ef] 25)))
  have B1 := hideI (Box.new w1 #[.int .i64 er, .int .i64 ef] 25)
  have K1 := hideI (bt k1 (below_a w1 (.cells #[.int .i64 er, .int .i64 ef] 25)))
  clear RD l1 k1
  go_wp2_with fail
  generalize w1.alloc (.cells #[.int .i64 er, .int .i64 ef] 25) = w2 at *
  refine (RF _).mono ?_
  rintro e w3 ⟨v3, rfl, l3, -, k3⟩
  have k4 := below_a w3 (.cells #[.int .i64 er, .int .i64 ef] 25)
  have L3 := hideI (l3.step k4)
  have L1' := hideI ((unhideI L1).step (bt k3 k4))
  have B3 := Box.new w3 #[.int .i64 er, .int .i64 ef] 25
  have B1' := (unhideI B1).step (bt k3 k4)
  have K4 := hideI (bt (unhideI K1) (bt k3 k4))
  have SA := same4_yes ls v1 v3 _ (unhideI L1') (unhideI L3)
  obtain ⟨c0, c1⟩ := B1'.at2
  obtain ⟨d0, d1⟩ := B3.at2
  clear RF L1 B1 K1 l3 k3 k4 B3 B1' L1' L3
  go_wp2_with fail
  refine SA.mono ?_
  rintro e w5 ⟨rfl, k5⟩
  have K5 := hideI (bt (unhideI K4) k5)
  clear SA k5
  go_wp2_with fail
  go_ret
  exact ⟨rfl, unhideI K5⟩
end Go.Proofs.YtoopgkbefhoeiaaGreatDoor
