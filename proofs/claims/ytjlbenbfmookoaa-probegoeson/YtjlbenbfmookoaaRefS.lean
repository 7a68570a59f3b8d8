/-
  pairlegalref1.Same: a list of words is the same as itself.
-/
import Derived.Test.YtjlbenbfmookoaaInsE2
namespace Go.Proofs.Ytjlbenbfmookoaa
open Go.RowKit
set_option linter.unusedSimpArgs false
set_option linter.unusedVariables false

set_option maxHeartbeats 1000000 in
theorem same1_yes (xs : List Int) (va vb : Value) (w : World) (ha : Ints w va xs) (hb : Ints w vb xs) :
    Calls Try.prog 15 #[va, vb] w fun e w' => e = .returned (.bool true) ∧ Below w.heap.size w w' := by
  obtain ⟨ao, ca, rfl, hmax, hat⟩ := ha.at
  obtain ⟨bo, cb, rfl, _, hbt⟩ := hb.at
  clear ha hb
  have HA := hideI hat
  have HB := hideI hbt
  clear hat hbt
  unfold maxLen at hmax
  have hne : ((xs.length : Int) != (xs.length : Int)) = false := by simp
  go_enter Try.func15, Try.ntmps15
  go_wp2_with fail
  go_loopg [13] xs.length (fun g t wr => ∃ (i q : Nat), i ≤ xs.length ∧ g = xs.length - i ∧ t = .int .i64 i ∧ wr = w.drewN q)
  case atStart => exact ⟨0, 0, Nat.zero_le _, rfl, rfl, rfl⟩
  case round =>
    obtain ⟨i, q, hi, rfl, rfl, rfl⟩ := hrel
    by_cases hlt : i < xs.length
    · have hn : xs ≠ [] := by intro h; rw [h] at hlt; simp at hlt
      obtain ⟨b1, o1, rfl, h1, c1⟩ := (unhideI HA) hn
      obtain ⟨b2, o2, rfl, h2, c2⟩ := (unhideI HB) hn
      have x1 := c1 i hlt
      have x2 := c2 i hlt
      clear c1 c2
      have hee : (xs[i] != xs[i]) = false := by simp
      generalize xs[i] = y at *
      go_wp2_with fail
      go_quiet (fail)
      go_wp2_with fail
      go_roundg (xs.length - (i + 1))
      case measure => omega
      case rel => exact ⟨i + 1, _, by omega, rfl, by go_num, rfl⟩
    · go_wp2
      go_ret
      exact ⟨rfl, bdr (Below.refl _ _) _⟩
end Go.Proofs.Ytjlbenbfmookoaa
