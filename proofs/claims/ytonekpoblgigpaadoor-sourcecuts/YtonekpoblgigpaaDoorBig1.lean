/-
  Numbers of any size in memory: rows of words, and the blocks that hold a sign and a row.
-/
import Derived.Test.YtonekpoblgigpaaDoorBig0
import Derived.Test.YtonekpoblgigpaaDoorMem
namespace Go.Proofs.YtonekpoblgigpaaDoor
open Go.RowKit
set_option linter.unusedSimpArgs false
set_option linter.unusedVariables false

/-- A slice of words, at the beginning of a block of words. -/
def Row (w : World) (v : Value) (L : List Int) : Prop :=
  (v = .slice none 0 0 ∧ L = []) ∨ ∃ d cap cs fz, v = .slice (some ⟨d, 0, none⟩) L.length cap ∧ L.length ≤ cap ∧ cap ≤ maxLen ∧ w.heap[d]? = some (.cells cs 83 fz) ∧ ∀ j, j < L.length → cs[j]? = some (.int .u32 (L.getD j 0))
theorem Row.step {w w' : World} {v : Value} {L : List Int} (h : Row w v L) (k : Below w.heap.size w w') : Row w' v L := by
  rcases h with h | ⟨d, cap, cs, fz, h1, h2, h3, h4, h5⟩
  · exact .inl h
  · exact .inr ⟨d, cap, cs, fz, h1, h2, h3, by rw [k.block d (Array.getElem?_eq_some_iff.1 h4).1]; exact h4, h5⟩
theorem Row.nil (w : World) : Row w (.slice none 0 0) [] := .inl ⟨rfl, rfl⟩
theorem Row.at {w : World} {v : Value} {L : List Int} (h : Row w v L) : ∃ ao cap, v = .slice ao L.length cap ∧ L.length ≤ cap ∧ cap ≤ maxLen ∧ (ao = none → cap = 0) ∧ (∀ d o p, ao = some ⟨d, o, p⟩ → o = 0 ∧ p = none ∧ d < w.heap.size) ∧ (L.length ≠ 0 → ∃ d, ao = some ⟨d, 0, none⟩) ∧ (∀ d, ao = some ⟨d, 0, none⟩ → ∀ j, j < L.length → w.cell? ⟨d, j, none⟩ = some (.int .u32 (L.getD j 0))) := by
  rcases h with ⟨rfl, rfl⟩ | ⟨d, cap, cs, fz, rfl, h2, h3, h4, h5⟩
  · exact ⟨none, 0, rfl, Nat.le_refl _, Nat.zero_le _, fun _ => rfl, (fun d o p h => by cases h), fun h => absurd rfl h, fun d h => by cases h⟩
  · refine ⟨_, cap, rfl, h2, h3, (fun h => by cases h), ?_, fun _ => ⟨d, rfl⟩, ?_⟩
    · intro d' o p e
      cases e
      exact ⟨rfl, rfl, (Array.getElem?_eq_some_iff.1 h4).1⟩
    · intro d' e j hj
      cases e
      have := h5 j hj
      simp [World.cell?, h4, this]
theorem Row.take {w : World} {ao : Option Addr} {cap : Nat} {L : List Int} (h : Row w (.slice ao L.length cap) L) (n : Nat) (hn : n ≤ L.length) : Row w (.slice ao n cap) (L.take n) := by
  have hl : (L.take n).length = n := by rw [List.length_take]; omega
  rcases h with ⟨h1, rfl⟩ | ⟨d, cap', cs, fz, h1, h2, h3, h4, h5⟩
  · left
    simp at h1 hn
    obtain ⟨rfl, rfl⟩ := h1
    subst hn
    simp
  · cases h1
    refine .inr ⟨d, cap, cs, fz, by rw [hl], by omega, h3, h4, fun j hj => ?_⟩
    rw [h5 j (by omega), List.getD_eq_getElem?_getD, List.getD_eq_getElem?_getD, List.getElem?_take, if_pos (by omega)]
/-- Words of a block of one's own. -/
theorem Row.box {w : World} {d : Nat} {L : List Int} {cs : Array Value} {fz : Nat × Nat} (h : w.heap[d]? = some (.cells cs 83 fz)) (hs : cs.size = L.length) (hc : ∀ j, j < L.length → cs[j]? = some (.int .u32 (L.getD j 0))) (hm : L.length ≤ maxLen) : Row w (.slice (some ⟨d, 0, none⟩) L.length L.length) L :=
  .inr ⟨d, _, cs, fz, rfl, Nat.le_refl _, hm, h, hc⟩

/-- A number by its words. -/
def Dg (w : World) (v : Value) (n : Int) : Prop := ∃ L, Row w v L ∧ Is L n
theorem Dg.step {w w' : World} {v : Value} {n : Int} (h : Dg w v n) (k : Below w.heap.size w w') : Dg w' v n := by
  obtain ⟨L, h1, h2⟩ := h
  exact ⟨L, h1.step k, h2⟩
theorem Dg.nil (w : World) : Dg w (.slice none 0 0) 0 := ⟨[], Row.nil w, is_nil⟩

/-- A row that is being written: a block of one's own, its words. -/
def Own32 (w : World) (d : Nat) (R : List Int) : Prop := ∃ cs, w.heap[d]? = some (.cells cs 83) ∧ cs.size = R.length ∧ ∀ j, j < R.length → cs[j]? = some (.int .u32 (R.getD j 0))
theorem Own32.lt {w : World} {d : Nat} {R : List Int} (h : Own32 w d R) : d < w.heap.size := by
  obtain ⟨cs, h1, _⟩ := h
  exact (Array.getElem?_eq_some_iff.1 h1).1
theorem Own32.cell {w : World} {d : Nat} {R : List Int} (h : Own32 w d R) (j : Nat) (hj : j < R.length) : w.cell? ⟨d, j, none⟩ = some (.int .u32 (R.getD j 0)) := by
  obtain ⟨cs, h1, _, h3⟩ := h
  simp [World.cell?, h1, h3 j hj]
theorem Own32.frozen {w : World} {d : Nat} {R : List Int} (h : Own32 w d R) (j : Nat) : w.frozen? ⟨d, j, none⟩ = false := by
  obtain ⟨cs, h1, _⟩ := h
  simp [World.frozen?, h1]
theorem Own32.step {w w' : World} {d : Nat} {R : List Int} (h : Own32 w d R) (k : Below w.heap.size w w') : Own32 w' d R := by
  have := h.lt
  obtain ⟨cs, h1, h2⟩ := h
  exact ⟨cs, by rw [k.block d this]; exact h1, h2⟩
theorem Own32.row {w : World} {d : Nat} {R : List Int} (h : Own32 w d R) (hm : R.length ≤ maxLen) : Row w (.slice (some ⟨d, 0, none⟩) R.length R.length) R := by
  obtain ⟨cs, h1, h2, h3⟩ := h
  exact Row.box h1 h2 h3 hm
theorem Own32.set {w : World} {d : Nat} {R : List Int} (h : Own32 w d R) (j : Nat) (x : Int) (hj : j < R.length) : Own32 (w.setCell ⟨d, j, none⟩ (.int .u32 x)) d (R.set j x) := by
  obtain ⟨cs, h1, h2, h3⟩ := h
  refine ⟨cs.setIfInBounds j (.int .u32 x), ?_, by simp [h2], fun i hi => ?_⟩
  · simp [World.setCell, Array.getElem?_modify, h1]
  · rw [List.length_set] at hi
    by_cases e : j = i
    · subst e
      rw [getD_set_self hj, Array.getElem?_setIfInBounds_self_of_lt (by omega)]
    · rw [getD_set_ne e, Array.getElem?_setIfInBounds_ne e]; exact h3 i hi
theorem Own32.new (w : World) (n : Nat) : Own32 (w.alloc (.cells (madeCells #[.int .u32 0] n) 83)) w.heap.size (List.replicate n 0) := by
  have hm : madeCells #[.int .u32 0] n = Array.replicate n (.int .u32 0) := by
    apply Array.ext'
    have : (fun x : Nat => ([Value.int IntKind.u32 0][x % 1]?).getD default) = fun _ => Value.int IntKind.u32 0 := by funext x; simp [Nat.mod_one]
    simp [madeCells, this, List.map_const']
  rw [hm]
  refine ⟨Array.replicate n (.int .u32 0), ?_, by simp, fun j hj => ?_⟩
  · show (w.heap.push _)[w.heap.size]? = _
    simp
  simp at hj
  simp [hj]
end Go.Proofs.YtonekpoblgigpaaDoor
