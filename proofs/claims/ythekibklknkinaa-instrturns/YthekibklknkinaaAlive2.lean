/-
  pairlegallaw2.alive: an instruction has its words.
-/
import Derived.Test.YthekibklknkinaaInsE2
namespace Go.Proofs.Ythekibklknkinaa
open Go.RowKit
set_option linter.unusedSimpArgs false
set_option linter.unusedVariables false

def ldi : Ins := ⟨2, 3, 0, 7⟩
theorem ldi_enc : encA [ldi] = ([2432, 7], 0, 0) := by decide
set_option maxHeartbeats 1000000 in
theorem alive2 (w : World) : Calls Try.prog 21 #[] w fun e w' => e = .returned (.bool true) ∧ Below w.heap.size w w' := by
  have E := fun v w h => encode_any [ldi] v w h
  rw [ldi_enc] at E
  go_enter Try.func21, Try.ntmps21
  go_wp2_with fail
  refine (E _ _ ?h).mono ?_
  case h =>
    refine ⟨rfl, _, 1, rfl, Nat.le_refl _, by decide, (fun h => by cases h), fun _ => ⟨w.heap.size, 0, rfl, by simp, fun j hj => ?_⟩⟩
    have hj' : j = 0 ∨ j = 1 ∨ j = 2 ∨ j = 3 := by simp at hj; omega
    rcases hj' with rfl | rfl | rfl | rfl <;> simp [go_sem, cells4, ldi]
  rintro e w1 ⟨v1, rfl, i1, _, k1⟩
  obtain ⟨ao, cap, rfl, _, hat⟩ := i1.at
  obtain ⟨b, off, rfl, hb, hc⟩ := hat (by simp)
  have c0 := hc 0 (by simp)
  have c1 := hc 1 (by simp)
  simp at c0 c1
  clear hat hc i1
  have kk := hideI (bt (below_a _ _) k1)
  have l1 := (unhideI kk).size
  go_wp2
  go_ret
  exact ⟨rfl, (by repeat (first | exact unhideI kk | refine Below.setCell ?_ (by first | exact Nat.le_refl _ | (simp; done) | omega | (simp; omega)) _ | refine Below.alloc ?_ (by first | (simp; done) | omega | (simp; omega)) _))⟩
end Go.Proofs.Ythekibklknkinaa
