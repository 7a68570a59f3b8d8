/-
  pairlegallaw4.alive: a text of three lines is read and turned into words.
-/
import Derived.Test.YtoopgkbefhoeiaaGreatDoorRdA
import Derived.Test.YtoopgkbefhoeiaaGreatDoorAsA
namespace Go.Proofs.YtoopgkbefhoeiaaGreatDoor
open Go.RowKit Go.Maps
set_option linter.unusedSimpArgs false
set_option linter.unusedVariables false

/-- alive's text. -/
def tx4 : List UInt8 := [97, 58, 10, 9, 108, 100, 105, 32, 114, 49, 44, 32, 53, 32, 59, 32, 102, 105, 118, 101, 10, 9, 106, 109, 112, 32, 97, 10]
def ls4 : List Ln := [⟨⟨#[97]⟩, ⟨0, 0, 0, 0⟩, ⟨#[]⟩⟩, ⟨⟨#[]⟩, ⟨2, 1, 0, 5⟩, ⟨#[]⟩⟩, ⟨⟨#[]⟩, ⟨19, 0, 0, 0⟩, ⟨#[97]⟩⟩]
theorem rd4 : readA tx4 = (ls4, 0, 0) := by kernel_rfl
theorem as4 : asmA ls4 = ([2176, 5, 19456, 0], 0, 0) := by kernel_rfl
set_option maxRecDepth 100000 in
set_option maxHeartbeats 4000000 in
theorem alive4 (w : World) (G : Gl w) : Calls Tryz.prog 9 #[] w fun e w' => e = .returned (.bool true) ∧ Below w.heap.size w w' := by
  have RD := fun w G => read_any ⟨tx4.toArray⟩ w G
  rw [show (⟨tx4.toArray⟩ : ByteArray).data.toList = tx4 from rfl, rd4] at RD
  have AS := fun v w h => asm_any ls4 v w h
  rw [as4] at AS
  dsimp only at RD AS
  have hll : ls4.length = 3 := rfl
  have K0 := bt (below_a w (.cells #[.int .i64 0, .int .i64 0] 25)) (below_a _ (.cells #[.int .i64 0, .int .i64 0] 25))
  have G0 := G.step K0
  unfold tx4 at RD
  go_enter Tryz.func9, Tryz.ntmps9
  go_wp2_with fail
  refine (RD _ G).mono ?_
  rintro e w1 ⟨v1, rfl, l1, -, k1⟩
  have L1 := hideI (l1.step (below_a _ (.cells #[.int .i64 0, .int .i64 0] 25)))
  obtain ⟨-, a1, c1, rfl, -⟩ := id l1
  rw [hll] at L1
  clear RD G G0 K0 l1
  go_wp2_with fail
  refine (AS _ _ (unhideI L1)).mono ?_
  rintro e w2 ⟨v2, rfl, i2, -, k2⟩
  obtain ⟨b1, o1, rfl, m1, h1⟩ := i2.at
  obtain ⟨c2, d2, rfl, z1, h3⟩ := h1 (by simp)
  have x1 := h3 3 (by decide)
  simp only [List.getElem_cons_succ, List.getElem_cons_zero, List.length_cons, List.length_nil, Nat.zero_add] at x1
  have f1 := (Box.new w1 #[.int .i64 0, .int .i64 0] 25).step k2
  obtain ⟨f2, f3⟩ := f1.at2
  have K2 := hideI (bt (bt k1 (below_a _ _)) k2)
  have s2 := k2.size
  simp only [World.size_alloc] at s2
  have s3 : w1.heap.size < w2.heap.size := by omega
  clear AS i2 k2 h1 h3 f1 L1 hll
  go_wp2_with fail
  go_ret
  exact ⟨rfl, bt (unhideI K2) (below_a _ _)⟩
end Go.Proofs.YtoopgkbefhoeiaaGreatDoor
