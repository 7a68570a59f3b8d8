/-
  The linker while units are put: in memory, and put.
-/
import Derived.Test.YteoifpkbknkpjaaLkS
namespace Go.Proofs.Yteoifpkbknkpjaa
open Go.RowKit Go.Maps
set_option linter.unusedSimpArgs false
set_option linter.unusedVariables false

/-- Which units are put, where they begin, and where the last one ends. -/
structure Ls where
  P : List (Pt × Nat)
  order : List Int
  fin : Int
def putL (s : Ls) (n : Nat) : Ls :=
  match s.P[n]? with
  | some p => if p.1.put = true then s else ⟨s.P.set n (⟨p.1.A, p.1.n, true, s.fin⟩, p.2), s.order ++ [(n : Int)], s.fin + p.1.n⟩
  | none => s
/-- Where the linker lies. -/
structure Lf where
  pk : Nat
  ow : Nat
  B : Nat
  vu : Value
  vp : Value
  O : Nmd
def LkAt (c : Lf) (s : Ls) (vo : Value) (u : World) : Prop := Box u c.pk [c.vu, c.vp, .map (some c.ow), vo, .int .i64 s.fin] ∧ Mp u c.ow c.O ∧ Pts u c.B c.vp s.P ∧ u.ownsRow c.B 3 1 vo s.order.length (s.order.map int1) ∧ c.pk < c.B ∧ c.ow < c.B ∧ c.pk ≠ c.ow
theorem own_set {u : World} {B e s n g j : Nat} {v x : Value} {xs : List Value} (h : u.ownsRow B e s v n xs) (hg : v.ownBlock = some g) (hj : j < n * s) : (u.setCell ⟨g, j, none⟩ x).ownsRow B e s v n (xs.set j x) := by
  refine ⟨by rw [List.length_set]; exact h.1, ?_⟩
  rcases h.2 with ⟨rfl, _⟩ | ⟨g', cap, cur, rfl, h2, h3, h4, h5, h6, h7⟩
  · cases hg
  · obtain rfl : g' = g := Option.some.inj hg
    refine .inr ⟨g', cap, cur.setIfInBounds j x, rfl, h2, ?_, h4, h5, by simp [h6], ?_⟩
    · simp [World.setCell, Array.getElem?_modify, h3]
    · rw [Array.toList_setIfInBounds, List.take_set, h7]
theorem flatP : ∀ (l : List (Pt × Nat)) (i : Nat) (h : i < l.length) (j : Nat), j < 4 → (l.flatMap cellsP)[i * 4 + j]? = (cellsP (l[i]'h))[j]?
  | [], i, h, _, _ => by simp at h
  | x :: l, 0, h, j, hj => by
    rw [List.flatMap_cons, List.getElem?_append_left (by simp [cellsP]; omega)]; simp
  | x :: l, i + 1, h, j, hj => by
    have ih := flatP l i (by simpa using h) j hj
    rw [List.flatMap_cons, List.getElem?_append_right (by simp [cellsP]; omega)]
    rw [show (i + 1) * 4 + j - (cellsP x).length = i * 4 + j by simp [cellsP]; omega, ih]
    simp
theorem flatP_len (l : List (Pt × Nat)) : (l.flatMap cellsP).length = l.length * 4 := by
  induction l with
  | nil => rfl
  | cons x l ih => rw [List.flatMap_cons, List.length_append, ih]; simp [cellsP]; omega
theorem flatP_set (l : List (Pt × Nat)) (i : Nat) (h : i < l.length) (st : Int) : (l.set i (⟨(l[i]'h).1.A, (l[i]'h).1.n, true, st⟩, (l[i]'h).2)).flatMap cellsP = ((l.flatMap cellsP).set (i * 4 + 2) (.bool true)).set (i * 4 + 3) (.int .i64 st) := by
  apply List.ext_getElem?
  intro k
  by_cases hk : k < l.length * 4
  · have hq : k / 4 < l.length := by omega
    have hr : k % 4 < 4 := by omega
    have e : k = k / 4 * 4 + k % 4 := by omega
    have a := flatP (l.set i (⟨(l[i]'h).1.A, (l[i]'h).1.n, true, st⟩, (l[i]'h).2)) (k / 4) (by rw [List.length_set]; exact hq) (k % 4) hr
    have b := flatP l (k / 4) hq (k % 4) hr
    rw [← e] at a b
    rw [a, List.getElem_set]
    by_cases hi : i = k / 4
    · rw [if_pos hi]
      subst hi
      have c : k % 4 = 0 ∨ k % 4 = 1 ∨ k % 4 = 2 ∨ k % 4 = 3 := by omega
      rcases c with c | c | c | c
      · rw [List.getElem?_set_ne (by omega), List.getElem?_set_ne (by omega), b, c]; rfl
      · rw [List.getElem?_set_ne (by omega), List.getElem?_set_ne (by omega), b, c]; rfl
      · rw [List.getElem?_set_ne (by omega), show k / 4 * 4 + 2 = k by omega, List.getElem?_set_self (by rw [flatP_len]; omega), c]; rfl
      · rw [show k / 4 * 4 + 3 = k by omega, List.getElem?_set_self (by rw [List.length_set, flatP_len]; omega), c]; rfl
    · rw [if_neg hi, List.getElem?_set_ne (by omega), List.getElem?_set_ne (by omega), b]
  · rw [List.getElem?_eq_none (by rw [flatP_len, List.length_set]; omega), List.getElem?_eq_none (by rw [List.length_set, List.length_set, flatP_len]; omega)]
theorem Pts.at {u : World} {B : Nat} {vp : Value} {P : List (Pt × Nat)} (h : Pts u B vp P) (hne : P ≠ []) : ∃ g cap, vp = .slice (some ⟨g, 0, none⟩) P.length cap ∧ B ≤ g ∧ g < u.heap.size ∧ (∀ j, u.frozen? ⟨g, j, none⟩ = false) ∧ ∀ i (hi : i < P.length), u.cell? ⟨g, i * 4, none⟩ = some (.map (some (P[i]'hi).2)) ∧ u.cell? ⟨g, i * 4 + 1, none⟩ = some (.int .i64 (P[i]'hi).1.n) ∧ u.cell? ⟨g, i * 4 + 2, none⟩ = some (.bool (P[i]'hi).1.put) ∧ u.cell? ⟨g, i * 4 + 3, none⟩ = some (.int .i64 (P[i]'hi).1.start) := by
  have hn : P.length ≠ 0 := fun e => hne (List.eq_nil_of_length_eq_zero e)
  obtain ⟨g, cap, rfl, h2, hr⟩ := Rw.own h.1 hn
  refine ⟨g, cap, rfl, h2, hr.lt, hr.frozen, fun i hi => ?_⟩
  have f := flatP P i hi
  exact ⟨hr.cell (f 0 (by omega)), hr.cell (f 1 (by omega)), hr.cell (f 2 (by omega)), hr.cell (f 3 (by omega))⟩
end Go.Proofs.Yteoifpkbknkpjaa
