/-
  What came in, by its reading: bytes, states of the machine.
-/
import Derived.Test.YtjlbenbfmookoaaOpen
import Derived.Test.YtjlbenbfmookoaaEmuW
import Derived.Test.YtjlbenbfmookoaaEmuT
namespace Go.Proofs.Ytjlbenbfmookoaa
open Go.RowKit Go.ChangeShapes Go.WideShapes Go.ChangeAt
set_option linter.unusedSimpArgs false
set_option linter.unusedVariables false

theorem Try.cellsByte : Try.prog.cellsOf 5 = 1 := by kernel_rfl
theorem Try.cellsBool : Try.prog.cellsOf 4 = 1 := by kernel_rfl
theorem Try.cellsState : Try.prog.cellsOf 27 = 14 := by kernel_rfl
theorem Try.cellsRegs : Try.prog.cellsOf 23 = 8 := by kernel_rfl
theorem Try.cellsFlags : Try.prog.cellsOf 25 = 4 := by kernel_rfl
theorem Try.cellsMem : Try.prog.cellsOf 22 = 1 := by kernel_rfl
theorem u8_of {x : Int} (h : (Lit.int .u8 x).wf = true) : 0 ≤ x ∧ x ≤ 255 := by
  have h1 : IntKind.u8.min = 0 := rfl
  have h2 : IntKind.u8.max = 255 := rfl
  simp only [Lit.wf, Bool.and_eq_true, decide_eq_true_eq] at h
  omega
section
variable {H : Type} {enc : TypeId × Value → H} {W : World} {v : Value} {d : DataW H} {ps : List MemPlace} {r : Reach} {base : Nat}
set_option maxRecDepth 100000 in
theorem open_Byts (hv : Value.okWide Try.prog W r base 28 v) (h : DataW.Trod enc Try.prog W 0 (fun _ => true) true 28 v d ps) : ∃ xs : List Int, Byts W v xs ∧ ∀ x ∈ xs, 0 ≤ x ∧ x ≤ 255 := by
  obtain ⟨a0, len, cap, rfl⟩ := okWide_slice Try.underlying28 hv
  obtain ⟨fuel, hf⟩ := h
  rcases open_ints Try.underlying28 Try.underlying5 Try.cellsByte hf with ⟨hcs, _⟩ | ⟨a, len', cap', zs, hcs, _, hl, hm, hz, _, hcell, hwz⟩
  · simp [Value.cells] at hcs
    obtain ⟨rfl, rfl, rfl⟩ := hcs
    exact ⟨[], Lies.nil _ _, by simp⟩
  · simp [Value.cells] at hcs
    obtain ⟨rfl, rfl, rfl⟩ := hcs
    simp only [if_true] at hz
    have hlen : (zs.take len).length = len := by simp; omega
    refine ⟨zs.take len, ⟨by simp, some a, cap, by rw [hlen], by omega, hm, (fun h => by cases h), fun hn => ?_⟩, fun x hx => u8_of (hwz x (List.mem_of_mem_take hx))⟩
    obtain ⟨b, off, spot⟩ := a
    have hspot : spot = none := by simpa [Addr.add] using World.cell?_spot (hcell 0 (by omega))
    subst hspot
    refine ⟨b, off, rfl, ?_, fun j hj => ?_⟩
    · exact World.block_lt_of_cell? W _ (hcell 0 (by omega))
    · have hj' : j < zs.length := by omega
      have := hcell j hj'
      rw [add_plain] at this
      rw [this, List.getElem?_map, List.getElem?_take, if_pos (by omega), List.getElem?_eq_getElem hj']
      simp [byte1, List.getD, hj']

set_option maxRecDepth 100000 in
theorem open_mem {fuel : Nat} {c : Value} {x : DataW H × List MemPlace} (hf : DataW.trod enc Try.prog W 0 (fun _ => true) true fuel 22 [c] = some x) : ∃ xs : List Int, Ints W c xs := by
  rcases open_ints Try.underlying22 Try.underlying3 Try.cellsInt hf with ⟨hcs, _⟩ | ⟨a, len, cap, zs, hcs, _, hl, hm, hz, _, hcell, hwz⟩
  · simp at hcs
    subst hcs
    exact ⟨[], Lies.nil _ _⟩
  · simp at hcs
    subst hcs
    simp only [if_true] at hz
    have hlen : (zs.take len).length = len := by simp; omega
    refine ⟨zs.take len, ⟨by simp, some a, cap, by rw [hlen], by omega, hm, (fun h => by cases h), fun hn => ?_⟩⟩
    obtain ⟨b, off, spot⟩ := a
    have hspot : spot = none := by simpa [Addr.add] using World.cell?_spot (hcell 0 (by omega))
    subst hspot
    refine ⟨b, off, rfl, ?_, fun j hj => ?_⟩
    · exact World.block_lt_of_cell? W _ (hcell 0 (by omega))
    · have hj' : j < zs.length := by omega
      have := hcell j hj'
      rw [add_plain] at this
      rw [this, List.getElem?_map, List.getElem?_take, if_pos (by omega), List.getElem?_eq_getElem hj']
      simp [int1, List.getD, hj']

theorem open_regs {fuel : Nat} {c0 c1 c2 c3 c4 c5 c6 c7 : Value} {x : DataW H × List MemPlace} (h : DataW.trod enc Try.prog W 0 (fun _ => true) true fuel 23 [c0, c1, c2, c3, c4, c5, c6, c7] = some x) :
    ∃ z0 z1 z2 z3 z4 z5 z6 z7 : Int, c0 = .int .i64 z0 ∧ c1 = .int .i64 z1 ∧ c2 = .int .i64 z2 ∧ c3 = .int .i64 z3 ∧ c4 = .int .i64 z4 ∧ c5 = .int .i64 z5 ∧ c6 = .int .i64 z6 ∧ c7 = .int .i64 z7 := by
  obtain ⟨xs, k, _, _, _, hxl, hf⟩ := DataW.trod_array Try.underlying23 h
  match xs, hxl with
  | [y0, y1, y2, y3, y4, y5, y6, y7], _ =>
    have g0 := hf 0 (by decide)
    have g1 := hf 1 (by decide)
    have g2 := hf 2 (by decide)
    have g3 := hf 3 (by decide)
    have g4 := hf 4 (by decide)
    have g5 := hf 5 (by decide)
    have g6 := hf 6 (by decide)
    have g7 := hf 7 (by decide)
    simp [Try.cellsInt] at g0 g1 g2 g3 g4 g5 g6 g7
    obtain ⟨z0, e0, _, _⟩ := DataW.trod_int Try.underlying3 g0
    obtain ⟨z1, e1, _, _⟩ := DataW.trod_int Try.underlying3 g1
    obtain ⟨z2, e2, _, _⟩ := DataW.trod_int Try.underlying3 g2
    obtain ⟨z3, e3, _, _⟩ := DataW.trod_int Try.underlying3 g3
    obtain ⟨z4, e4, _, _⟩ := DataW.trod_int Try.underlying3 g4
    obtain ⟨z5, e5, _, _⟩ := DataW.trod_int Try.underlying3 g5
    obtain ⟨z6, e6, _, _⟩ := DataW.trod_int Try.underlying3 g6
    obtain ⟨z7, e7, _, _⟩ := DataW.trod_int Try.underlying3 g7
    simp at e0 e1 e2 e3 e4 e5 e6 e7
    exact ⟨z0, z1, z2, z3, z4, z5, z6, z7, e0, e1, e2, e3, e4, e5, e6, e7⟩
theorem open_flags {fuel : Nat} {c0 c1 c2 c3 : Value} {x : DataW H × List MemPlace} (h : DataW.trod enc Try.prog W 0 (fun _ => true) true fuel 25 [c0, c1, c2, c3] = some x) :
    ∃ z0 z1 z2 z3 : Bool, c0 = .bool z0 ∧ c1 = .bool z1 ∧ c2 = .bool z2 ∧ c3 = .bool z3 := by
  obtain ⟨xs, k, _, _, _, hxl, hf⟩ := DataW.trod_struct Try.underlying25 h
  match xs, hxl with
  | [y0, y1, y2, y3], _ =>
    have g0 := hf 0 _ rfl
    have g1 := hf 1 _ rfl
    have g2 := hf 2 _ rfl
    have g3 := hf 3 _ rfl
    simp [Try.cellsBool] at g0 g1 g2 g3
    obtain ⟨z0, e0, _⟩ := DataW.trod_bool Try.underlying4 g0
    obtain ⟨z1, e1, _⟩ := DataW.trod_bool Try.underlying4 g1
    obtain ⟨z2, e2, _⟩ := DataW.trod_bool Try.underlying4 g2
    obtain ⟨z3, e3, _⟩ := DataW.trod_bool Try.underlying4 g3
    simp at e0 e1 e2 e3
    exact ⟨z0, z1, z2, z3, e0, e1, e2, e3⟩
def regF (z0 z1 z2 z3 z4 z5 z6 z7 : Int) : Nat → Int
  | 0 => z0
  | 1 => z1
  | 2 => z2
  | 3 => z3
  | 4 => z4
  | 5 => z5
  | 6 => z6
  | _ => z7
set_option maxRecDepth 100000 in
theorem open_State (h : DataW.Trod enc Try.prog W 0 (fun _ => true) true 27 v d ps) : ∃ (s : St) (vm : Value), v = s.val vm ∧ Ints W vm s.mem := by
  obtain ⟨fuel, hf⟩ := h
  obtain ⟨xs, k, _, _, hlen, hxl, hf2⟩ := DataW.trod_struct Try.underlying27 hf
  rw [Try.cellsState] at hlen
  have hv : ∃ cs : Array Value, v = .agg cs := by
    cases v <;> first | exact ⟨_, rfl⟩ | (simp [Value.cells] at hlen)
  obtain ⟨cs, rfl⟩ := hv
  simp only [Value.cells] at hlen hf2
  obtain ⟨l⟩ := cs
  simp only at hlen hf2
  match l, hlen, xs, hxl with
  | [c0, c1, c2, c3, c4, c5, c6, c7, c8, c9, c10, c11, c12, c13], _, [y0, y1, y2, y3], _ =>
    have g0 := hf2 0 _ rfl
    have g1 := hf2 1 _ rfl
    have g2 := hf2 2 _ rfl
    have g3 := hf2 3 _ rfl
    simp [Try.cellsRegs] at g0
    simp [Try.cellsFlags] at g1
    simp [Try.cellsInt] at g2
    simp [Try.cellsMem] at g3
    obtain ⟨z0, z1, z2, z3, z4, z5, z6, z7, rfl, rfl, rfl, rfl, rfl, rfl, rfl, rfl⟩ := open_regs g0
    obtain ⟨b0, b1, b2, b3, rfl, rfl, rfl, rfl⟩ := open_flags g1
    obtain ⟨pc, e, _, _⟩ := DataW.trod_int Try.underlying3 g2
    simp at e
    subst e
    obtain ⟨ms, hm⟩ := open_mem g3
    exact ⟨⟨regF z0 z1 z2 z3 z4 z5 z6 z7, b0, b1, b2, b3, pc, ms⟩, c13, rfl, hm⟩
end
end Go.Proofs.Ytjlbenbfmookoaa
