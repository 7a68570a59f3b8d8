/-
  Rsh of a number that is not below 0.
-/
import Derived.Test.YtmjnihepgglbdaaBigU
import Derived.Test.YtmjnihepgglbdaaBigA
namespace Go.Proofs.Ytmjnihepgglbdaa
open Go.RowKit
set_option linter.unusedSimpArgs false
set_option linter.unusedVariables false

set_option maxHeartbeats 1000000 in
theorem rsh_any (p a q s : Nat) (z : Int) (w : World) (hp : IntAt w p) (ha : Big w a z) (hz0 : 0 ≤ z) (hz : z < 18446744073709551616) (hq : q ≤ 1) (hs : s = 0 ∨ s = 16) :
    Calls Try.prog 31 #[.pointer (some ⟨p, 0, none⟩), .pointer (some ⟨a, 0, none⟩), .int .u64 ((32 * q + s : Nat) : Int)] w fun e w' => e = .returned (.pointer (some ⟨p, 0, none⟩)) ∧ Tn p w w' ∧ Big w' p (z / 2 ^ (32 * q + s)) := by
  obtain ⟨v, c0, c1, hD, hlt⟩ := ha.cells
  rw [decide_eq_false (by omega : ¬ z < 0)] at c0
  rw [show (z.natAbs : Int) = z by omega] at hD
  have HR := hide (rightq_any v z q s w hD hz hq hs)
  have HP := hide hp
  have hb : z / 2 ^ (32 * q + s) < 4294967296 ^ 8 ∧ 0 ≤ z / 2 ^ (32 * q + s) := by
    have h1 : (0 : Int) < 2 ^ (32 * q + s) := Int.pow_pos (by decide)
    refine ⟨?_, Int.ediv_nonneg hz0 (Int.le_of_lt h1)⟩
    have := Int.ediv_le_self (2 ^ (32 * q + s)) hz0
    have h2 : (18446744073709551616 : Int) < 4294967296 ^ 8 := by decide
    omega
  generalize z / 2 ^ (32 * q + s) = y at *
  generalize ((32 * q + s : Nat) : Int) = k at *
  clear hp hD ha
  go_enter Try.func31, Try.ntmps31
  go_wp2_with fail
  refine (unhide HR).mono ?_
  rintro e w1 ⟨k1, v1, rfl, D1⟩
  have K1 := hide k1
  have HD1 := hide D1
  have hp1 := hide ((unhide HP).step k1)
  clear k1 D1 HR
  go_wp2_with fail
  refine (give_any p false v1 y w1 (unhide hp1) (unhide HD1) hb.1).mono ?_
  rintro e w2 ⟨rfl, k2, b2⟩
  have K2 := hide k2
  have B2 : Hid (Big w2 p y) := hide b2
  clear k2 b2
  go_wp2_with fail
  go_ret
  exact ⟨rfl, (Tn.of (unhide K1)).trans (unhide K2), unhide B2⟩
end Go.Proofs.Ytmjnihepgglbdaa
