/-
  Units, and what is known while they are put together: plain lists; rows that are written, in memory.
-/
import Derived.Test.YtodfjomglgmffaaGreatDoorAsQ
namespace Go.Proofs.YtodfjomglgmffaaGreatDoor
open Go.RowKit Go.Maps
set_option linter.unusedSimpArgs false
set_option linter.unusedVariables false

structure Un where
  name : ByteArray
  lines : List Ln
/-- What is known of a unit. -/
structure Pt where
  A : Nmd
  n : Int
  put : Bool
  start : Int
/-- Is there a label, and is it not its unit's alone? -/
def fa (s : ByteArray) : Bool := !(emp s) && (byt s 0 != 46)
/-- Whose labels are. -/
def owns : List Ln → Int → Nmd → Option Nmd
  | [], _, O => some O
  | x :: l, n, O => if fa x.lab = true then (if hasA O x.lab.toList = true then none else owns l n (O ++ [(x.lab.toList, n)])) else owns l n O
structure Sv where
  parts : List Pt
  owners : Nmd
/-- All units are looked at. -/
def srv : List Un → Nat → Sv → Sv × Int × Nat
  | [], _, s => (s, 0, 0)
  | u :: l, n, s =>
    if (plcA u.lines).2.2.1 = 0 then
      (match owns u.lines n s.owners with
       | some O => srv l (n + 1) ⟨s.parts ++ [⟨(plcA u.lines).1, (plcA u.lines).2.1, false, 0⟩], O⟩
       | none => (s, 7, n))
    else (s, (plcA u.lines).2.2.1, n)

/-! ### rows that are written -/
def Rw (u : World) (g : Nat) (T : TypeId) (cs : List Value) : Prop := ∃ cur, u.heap[g]? = some (.cells cur T) ∧ cs.length ≤ cur.size ∧ ∀ j, j < cs.length → cur[j]? = cs[j]?
theorem Rw.lt {u : World} {g : Nat} {T : TypeId} {cs : List Value} (h : Rw u g T cs) : g < u.heap.size := by
  obtain ⟨cur, h1, _⟩ := h; exact (Array.getElem?_eq_some_iff.1 h1).1
theorem Rw.cell {u : World} {g : Nat} {T : TypeId} {cs : List Value} (h : Rw u g T cs) {j : Nat} {x : Value} (hx : cs[j]? = some x) : u.cell? ⟨g, j, none⟩ = some x := by
  obtain ⟨cur, h1, h2, h3⟩ := h
  have hj : j < cs.length := (List.getElem?_eq_some_iff.1 hx).1
  simp [World.cell?, h1, h3 j hj, hx]
theorem Rw.frozen {u : World} {g : Nat} {T : TypeId} {cs : List Value} (h : Rw u g T cs) (j : Nat) : u.frozen? ⟨g, j, none⟩ = false := by
  obtain ⟨cur, h1, _⟩ := h; simp [World.frozen?, h1]
theorem Rw.kpt {X : Nat → Prop} {w w' : World} {g : Nat} {T : TypeId} {cs : List Value} (h : Rw w g T cs) (k : Kpt X w w') (hx : ¬ X g) : Rw w' g T cs := by
  have hl := h.lt
  obtain ⟨cur, h1, h2⟩ := h
  exact ⟨cur, by rw [k.block g hl hx]; exact h1, h2⟩
theorem Rw.set {u : World} {g : Nat} {T : TypeId} {cs : List Value} (h : Rw u g T cs) {j : Nat} {x : Value} (hj : j < cs.length) : Rw (u.setCell ⟨g, j, none⟩ x) g T (cs.set j x) := by
  obtain ⟨cur, h1, h2, h3⟩ := h
  refine ⟨cur.setIfInBounds j x, ?_, by simp; exact h2, fun i hi => ?_⟩
  · simp [World.setCell, Array.getElem?_modify, h1]
  · rw [List.length_set] at hi
    by_cases e : j = i
    · subst e
      rw [List.getElem?_set_self hj, Array.getElem?_setIfInBounds_self_of_lt (by omega)]
    · rw [List.getElem?_set_ne e, Array.getElem?_setIfInBounds_ne e]; exact h3 i hi
theorem Rw.own {u : World} {B e s n : Nat} {v : Value} {cs : List Value} (h : u.ownsRow B e s v n cs) (hn : n ≠ 0) : ∃ g cap, v = .slice (some ⟨g, 0, none⟩) n cap ∧ B ≤ g ∧ Rw u g e cs := by
  rcases h.2 with ⟨_, h0⟩ | ⟨g, cap, cur, h1, h2, h3, h4, h5, h6, h7⟩
  · exact absurd h0 hn
  · refine ⟨g, cap, h1, h2, cur, h3, ?_, fun j hj => ?_⟩
    · rw [h.1, h6]; exact Nat.mul_le_mul_right s h4
    · rw [← h7, List.getElem?_take, if_pos (by rw [← h.1]; exact hj)]
      simp

theorem forAll_any (s : ByteArray) (w : World) : Calls Tryz.prog 51 #[.string s] w fun e w' => e = .returned (.bool (fa s)) ∧ w' = w := by
  unfold fa emp
  by_cases h : s.toList.isEmpty = true
  · rw [h]
    go_enter Tryz.func51, Tryz.ntmps51
    go_wp2_with fail
    go_ret
    exact ⟨rfl, rfl⟩
  · replace h : s.toList.isEmpty = false := by simpa using h
    have hz : 0 < s.size := by
      rcases Nat.eq_zero_or_pos s.size with h0 | h0
      · obtain rfl : s = ByteArray.empty := by simpa using h0
        rw [ByteArray.toList_eq] at h; cases h
      · exact h0
    rw [h, byt_at hz]
    go_enter Tryz.func51, Tryz.ntmps51
    go_wp2_with fail
    go_ret
    exact ⟨by simp, rfl⟩
end Go.Proofs.YtodfjomglgmffaaGreatDoor
