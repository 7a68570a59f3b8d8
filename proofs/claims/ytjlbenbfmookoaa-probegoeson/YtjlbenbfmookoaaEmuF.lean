/-
  Sums and differences on the machine.
-/
import Derived.Test.YtjlbenbfmookoaaEmuC
namespace Go.Proofs.Ytjlbenbfmookoaa
open Go.RowKit
set_option linter.unusedSimpArgs false
set_option linter.unusedVariables false
variable {X : Sd}

theorem below_3 (w : World) (a b c : Obj) : Below w.heap.size w (((w.alloc a).alloc b).alloc c) :=
  (((Below.refl _ _).alloc (Nat.le_refl _) a).alloc (by simp) b).alloc (by simp; omega) c
/-- The flags of a sum, and of a difference. -/
def sfl (x y : Int) (c : Bool) : Value := .agg #[.bool (sumt x y c != lw (sumt x y c)), .bool (lw (sumt x y c) == 0), .bool (decide (sw (lw (sumt x y c)) < 0)), .bool (sums x y c != sw (lw (sumt x y c)))]
def dfl (x y : Int) (c : Bool) : Value := .agg #[.bool (dift x y c != lw (dift x y c)), .bool (lw (dift x y c) == 0), .bool (decide (sw (lw (dift x y c)) < 0)), .bool (difs x y c != sw (lw (dift x y c)))]
theorem sum_mach {w0 w : World} {p q b : Nat} {vc vi vo : Value} {m : Ma} {xs bs : List Int} {cs : List Value} (h : Mach X w0 w p q vc vi vo m xs bs) (hb : Box w b cs) (x y : Int) (c : Bool) :
    Calls Try.prog 77 #[.int .i64 x, .int .i64 y, .bool c] w fun e w' => e = .returned (.tuple #[.int .i64 (lw (sumt x y c)), sfl x y c]) ∧ Mach X w0 w' p q vc vi vo m xs bs ∧ Box w' b cs :=
  (sum_res x y c w).mono fun _ _ ⟨he, hw⟩ => ⟨he, by rw [hw]; exact h.step (below_3 _ _ _ _), by rw [hw]; exact hb.step (below_3 _ _ _ _)⟩
theorem dif_mach {w0 w : World} {p q b : Nat} {vc vi vo : Value} {m : Ma} {xs bs : List Int} {cs : List Value} (h : Mach X w0 w p q vc vi vo m xs bs) (hb : Box w b cs) (x y : Int) (c : Bool) :
    Calls Try.prog 78 #[.int .i64 x, .int .i64 y, .bool c] w fun e w' => e = .returned (.tuple #[.int .i64 (lw (dift x y c)), dfl x y c]) ∧ Mach X w0 w' p q vc vi vo m xs bs ∧ Box w' b cs :=
  (dif_res x y c w).mono fun _ _ ⟨he, hw⟩ => ⟨he, by rw [hw]; exact h.step (below_3 _ _ _ _), by rw [hw]; exact hb.step (below_3 _ _ _ _)⟩

end Go.Proofs.Ytjlbenbfmookoaa
