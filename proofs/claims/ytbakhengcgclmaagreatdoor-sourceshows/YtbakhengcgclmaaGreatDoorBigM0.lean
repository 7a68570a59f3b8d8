/-
  The long division by a power of two to the thirty-two: what its walk wants.
-/
import Derived.Test.YtbakhengcgclmaaGreatDoorBigDz
import Derived.Test.YtbakhengcgclmaaGreatDoorBigL
import Derived.Test.YtbakhengcgclmaaGreatDoorBig6z
import Derived.Laws.CopyOwn
namespace Go.Proofs.YtbakhengcgclmaaGreatDoor
open Go.RowKit
set_option linter.unusedSimpArgs false
set_option linter.unusedVariables false

theorem Tryz.sizeU32 : (Tryz.prog.info? 148).map (·.size) = some 1 := by kernel_rfl
theorem make32t (n : Nat) (hn : n ≤ 900) (w : World) : (Instr.makeSlice 125 (.int .i64 ((n : Int) + 2)) (.int .i64 ((n : Int) + 2))).run Tryz.prog w = .ok (.slice (some ⟨w.heap.size, 0, none⟩) (n + 2) (n + 2)) (w.alloc (.cells (madeCells #[.int .u32 0] (n + 2)) 148)) :=
  make32 (n + 2) (by omega) w
theorem made_rep (n : Nat) : madeCells #[.int .u32 0] n = (List.replicate n (Value.int .u32 0)).toArray := by
  apply Array.ext'
  have : (fun x : Nat => ([Value.int IntKind.u32 0][x % 1]?).getD default) = fun _ => Value.int IntKind.u32 0 := by funext x; simp [Nat.mod_one]
  simp [madeCells, this, List.map_const']
theorem own_splice {w : World} {d n : Nat} {L : List Int} (h : Hid (w.heap[d]? = some (.cells (splice (List.replicate n (Value.int .u32 0)) 0 (L.map u32v)).toArray 148 (0, 0)))) (hl : L.length ≤ n) : Own32 w d (L ++ List.replicate (n - L.length) 0) := by
  have e : splice (List.replicate n (Value.int .u32 0)) 0 (L.map u32v) = (L ++ List.replicate (n - L.length) 0).map u32v := by
    unfold splice
    simp [List.map_append, List.drop_replicate]
    exact .inr rfl
  refine ⟨_, unhide h, by rw [e]; simp, fun j hj => ?_⟩
  rw [e, List.getElem?_toArray, List.getElem?_map, getD_of_lt hj]
  rfl
theorem hpu_of {w : World} {L : List Int} {ao : Option Addr} {dp : Nat} (h5 : L.length ≠ 0 → ∃ d, ao = some ⟨d, 0, none⟩) (h6 : ∀ d, ao = some ⟨d, 0, none⟩ → ∀ j, j < L.length → w.cell? ⟨d, j, none⟩ = some (.int .u32 (L.getD j 0))) :
    0 < (L.map u32v).length → (some (⟨dp, 0, none⟩ : Addr)) = some ⟨dp, 0, none⟩ ∧ ∃ ad, ao = some ad ∧ ∀ j v, (L.map u32v)[j]? = some v → w.cell? (ad.add j) = some v := by
  intro hp
  rw [List.length_map] at hp
  obtain ⟨d, rfl⟩ := h5 (by omega)
  refine ⟨rfl, _, rfl, fun j v hv => ?_⟩
  have hj : j < L.length := by have := (List.getElem?_eq_some_iff.1 hv).1; simpa using this
  rw [List.getElem?_map, getD_of_lt hj] at hv
  have e : (⟨d, 0, none⟩ : Addr).add j = ⟨d, j, none⟩ := by unfold Addr.add; split <;> simp_all
  rw [e, h6 d rfl j hj]
  exact hv
theorem Own32.other {w : World} {d b j : Nat} {R : List Int} {x : Value} (h : Own32 w d R) (hne : d ≠ b) : Own32 (w.setCell ⟨b, j, none⟩ x) d R := by
  obtain ⟨cs, h1, h2⟩ := h
  refine ⟨cs, ?_, h2⟩
  rw [← h1]
  simp [World.setCell, Array.getElem?_modify, Ne.symm hne]
theorem set_same (L : List Int) (k : Nat) (h : k < L.length) : L.set k (L.getD k 0) = L := by
  apply List.ext_getElem?
  intro i
  by_cases e : k = i
  · subst e
    rw [List.getElem?_set_self h, getD_of_lt h]
  · rw [List.getElem?_set_ne e]
theorem DInv.start {a : Int} {la m : Nat} {L : List Int} (hL : Is L (a * 2 ^ 31)) (hl : L.length ≤ la + 1) (hm : m ≤ la) : DInv a la m (L ++ List.replicate (la + 2 - L.length) 0) (List.replicate (la - m + 1) 0) (la - m + 1) := by
  refine ⟨by simp; omega, hL.1.app (wds_rep _), by simp, wds_rep _, fun j hj => ?_, ?_, fun j _ => getD_rep _ _, ?_⟩
  · rw [List.getD_eq_getElem?_getD, List.getElem?_eq_none (by simp; omega)]; rfl
  · rw [List.getD_eq_getElem?_getD, List.getElem?_append_right (by omega), ← List.getD_eq_getElem?_getD, getD_rep]; decide
  · rw [vl_app, vl_rep, vl_rep, hL.2.2]; simp
theorem make32x (n : Nat) (x : Int) (hx : x = (n : Int)) (hn : n ≤ 900) (w : World) : (Instr.makeSlice 125 (.int .i64 x) (.int .i64 x)).run Tryz.prog w = .ok (.slice (some ⟨w.heap.size, 0, none⟩) n n) (w.alloc (.cells (madeCells #[.int .u32 0] n) 148)) := by
  subst hx; exact make32 n (by omega) w
theorem wrap_wrap (e : Int) : IntKind.u64.wrap (IntKind.u64.wrap e) = e % 18446744073709551616 := by
  have h : ∀ x : Int, IntKind.u64.wrap x = x % 18446744073709551616 := fun x => rfl
  rw [h, h]; omega
end Go.Proofs.YtbakhengcgclmaaGreatDoor
