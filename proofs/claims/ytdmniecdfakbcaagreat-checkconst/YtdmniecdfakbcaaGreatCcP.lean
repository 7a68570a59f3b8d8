/-
  Constant expressions: small facts on what lies in memory, and on numbers.
-/
import Derived.Test.YtdmniecdfakbcaaGreatLwCz
import Derived.Test.YtdmniecdfakbcaaGreatCcE
namespace Go.Proofs.YtdmniecdfakbcaaGreat
open Go.RowKit
set_option linter.unusedSimpArgs false
set_option linter.unusedVariables false

theorem Box.two9 {w : World} {b : Nat} {x y : Value} (h : Box w b [x, y]) (u v : Value) : Box ((w.setCell ⟨b, 0, none⟩ u).setCell ⟨b, 1, none⟩ v) b [u, v] := (h.set (j := 0) (u := u) (by simp)).set (j := 1) (u := v) (by simp)
theorem Tv.put9 {w W : World} {B : Nat} {x : Ex} {ka : Option Addr} {kc : Nat} {p q : Value} (h : Tv w W B x ka kc [p, q]) (hB : B ≤ w.heap.size) (u v : Value) : Tv w ((W.setCell ⟨w.heap.size + 1, 0, none⟩ u).setCell ⟨w.heap.size + 1, 1, none⟩ v) B x ka kc [u, v] := by
  have hb := below_2 (Below.refl W.heap.size W |>.mono (B' := w.heap.size + 1) (by have := h.R.1; omega)) (Nat.le_refl (w.heap.size + 1)) u v
  exact ⟨below_2 h.d (by omega) _ _, (h.A.other (b' := w.heap.size + 1) (by omega)).other (b' := w.heap.size + 1) (by omega), h.R.two9 u v, h.hk.step (hb.mono (by omega)), Nat.le_trans h.le hb.size⟩
theorem ExL.mono9 {B B' : Nat} {w : World} {v : Value} {xs : List Ex} (h : ExL B w v xs) (hB : B ≤ B') : ExL B' w v xs := by
  induction h with
  | mk v xs ks hl hv lies ok kids ih => exact .mk v xs ks hl (fun c hc hn => Nat.lt_of_lt_of_le (hv c hc hn) hB) lies ok ih
/-- Its numbers are numbers, in all of it. -/
inductive NmE : Ex → Prop
  | mk (x : Ex) (f : ExF x) (kids : ∀ y ∈ x.kids, NmE y) : NmE x
theorem nmE_of : ∀ (x : Ex) (B : Nat) (w : World) (kv : Value), ExL B w kv x.kids → ExF x → NmE x := by
  apply Ex.ind
  intro x IH B w kv h hf
  refine .mk x hf fun y hy => ?_
  obtain ⟨ao, cap, -, -, h2⟩ := h.at
  obtain ⟨j, hj, rfl⟩ := List.mem_iff_getElem.1 hy
  obtain ⟨b, off, -, -, -, hc⟩ := h2 (List.ne_nil_of_mem hy)
  obtain ⟨kv', h3, h4, -⟩ := hc j hj
  exact IH _ hy B w kv' h3 h4
theorem one_of {l : List Ex} (h : l.length = 1) : ∃ a, l = [a] := by
  match l, h with
  | [a], _ => exact ⟨a, rfl⟩
theorem two_of {l : List Ex} (h : l.length = 2) : ∃ a b, l = [a, b] := by
  match l, h with
  | [a, b], _ => exact ⟨a, b, rfl⟩
end Go.Proofs.YtdmniecdfakbcaaGreat
