/-
  What came in, by its reading: slices of ints, instructions, slices of instructions.
-/
import Derived.Test.YtjlbenbfmookoaaInsE
import Derived.ProofKit
import Derived.OpenShut
import Derived.Deep.Slices
namespace Go.Proofs.Ytjlbenbfmookoaa
open Go.RowKit Go.ChangeShapes Go.WideShapes Go.ChangeAt
set_option linter.unusedSimpArgs false
set_option linter.unusedVariables false

theorem Try.cellsInt : Try.prog.cellsOf 3 = 1 := by kernel_rfl
theorem Try.cellsInstr : Try.prog.cellsOf 49 = 4 := by kernel_rfl
def I64 (x : Int) : Prop := -9223372036854775808 ≤ x ∧ x ≤ 9223372036854775807
theorem i64_of {x : Int} (h : (Lit.int .i64 x).wf = true) : I64 x := by
  have h1 : IntKind.i64.min = -9223372036854775808 := rfl
  have h2 : IntKind.i64.max = 9223372036854775807 := rfl
  simp only [Lit.wf, Bool.and_eq_true, decide_eq_true_eq] at h
  unfold I64; omega

section
variable {H : Type} {enc : TypeId × Value → H} {W : World} {v : Value} {d : DataW H} {ps : List MemPlace} {r : Reach} {base : Nat}
set_option maxRecDepth 100000 in
theorem open_Ints (hv : Value.okWide Try.prog W r base 22 v) (h : DataW.Trod enc Try.prog W 0 (fun _ => true) true 22 v d ps) : ∃ xs : List Int, Ints W v xs ∧ ∀ x ∈ xs, I64 x := by
  obtain ⟨a0, len, cap, rfl⟩ := okWide_slice Try.underlying22 hv
  obtain ⟨fuel, hf⟩ := h
  rcases open_ints Try.underlying22 Try.underlying3 Try.cellsInt hf with ⟨hcs, _⟩ | ⟨a, len', cap', zs, hcs, _, hl, hm, hz, _, hcell, hwz⟩
  · simp [Value.cells] at hcs
    obtain ⟨rfl, rfl, rfl⟩ := hcs
    exact ⟨[], Lies.nil _ _, by simp⟩
  · simp [Value.cells] at hcs
    obtain ⟨rfl, rfl, rfl⟩ := hcs
    simp only [if_true] at hz
    have hlen : (zs.take len).length = len := by simp; omega
    refine ⟨zs.take len, ⟨by simp, some a, cap, by rw [hlen], by omega, hm, (fun h => by cases h), fun hn => ?_⟩, fun x hx => i64_of (hwz x (List.mem_of_mem_take hx))⟩
    obtain ⟨b, off, spot⟩ := a
    have hspot : spot = none := by simpa [Addr.add] using World.cell?_spot (hcell 0 (by omega))
    subst hspot
    refine ⟨b, off, rfl, ?_, fun j hj => ?_⟩
    · exact World.block_lt_of_cell? W _ (hcell 0 (by omega))
    · have hj' : j < zs.length := by omega
      have := hcell j hj'
      rw [add_plain] at this
      rw [this, List.getElem?_map, List.getElem?_take, if_pos (by omega), List.getElem?_eq_getElem hj']
      simp [int1, List.getD, hj']

set_option maxRecDepth 100000 in
theorem open_cells4 {fuel : Nat} {cs : List Value} {x : DataW H × List MemPlace} {spare : Nat → Bool} {held : Bool} {b0 : Nat} (h : DataW.trod enc Try.prog W b0 spare held fuel 49 cs = some x) :
    ∃ i : Ins, cs = cells4 i ∧ I64 i.o ∧ I64 i.d ∧ I64 i.s ∧ I64 i.m := by
  obtain ⟨xs, k, _, _, hlen, hxl, hf⟩ := DataW.trod_struct Try.underlying49 h
  rw [Try.cellsInstr] at hlen
  match xs, hxl, cs, hlen with
  | [y0, y1, y2, y3], _, [v0, v1, v2, v3], _ =>
    have g0 := hf 0 _ rfl
    have g1 := hf 1 _ rfl
    have g2 := hf 2 _ rfl
    have g3 := hf 3 _ rfl
    simp [Try.cellsInt] at g0 g1 g2 g3
    obtain ⟨z0, e0, _, w0⟩ := DataW.trod_int Try.underlying3 g0
    obtain ⟨z1, e1, _, w1⟩ := DataW.trod_int Try.underlying3 g1
    obtain ⟨z2, e2, _, w2⟩ := DataW.trod_int Try.underlying3 g2
    obtain ⟨z3, e3, _, w3⟩ := DataW.trod_int Try.underlying3 g3
    simp at e0 e1 e2 e3
    subst e0 e1 e2 e3
    exact ⟨⟨z0, z1, z2, z3⟩, rfl, i64_of w0, i64_of w1, i64_of w2, i64_of w3⟩

theorem flat_cells {n : Nat} (f : Nat → Ins) : ∀ j, j < n * 4 → (((List.range n).map f).flatMap cells4)[j]? = (cells4 (f (j / 4)))[j % 4]? := by
  intro j hj
  have hi : j / 4 < ((List.range n).map f).length := by simp; omega
  have q := flat4 ((List.range n).map f) (j / 4) hi
  have t : ∀ r, j % 4 = r → (((List.range n).map f).flatMap cells4)[j]? = (((List.range n).map f).flatMap cells4)[j / 4 * 4 + r]? := by intro r hr; congr 1; omega
  have c : j % 4 = 0 ∨ j % 4 = 1 ∨ j % 4 = 2 ∨ j % 4 = 3 := by omega
  simp only [List.getElem_map, List.getElem_range] at q
  rcases c with c | c | c | c <;> rw [t _ c, c]
  · exact q.1
  · exact q.2.1
  · exact q.2.2.1
  · exact q.2.2.2
theorem flat_len4 (l : List Ins) : (l.flatMap cells4).length = l.length * 4 := by
  induction l with
  | nil => rfl
  | cons i l ih => rw [List.flatMap_cons, List.length_append, ih]; simp [cells4]; omega

set_option maxRecDepth 100000 in
theorem open_Inss (hv : Value.okWide Try.prog W r base 77 v) (h : DataW.Trod enc Try.prog W 0 (fun _ => true) true 77 v d ps) : ∃ l : List Ins, Inss W v l ∧ ∀ i ∈ l, I64 i.o ∧ I64 i.d ∧ I64 i.s ∧ I64 i.m := by
  obtain ⟨a0, len, cap, rfl⟩ := okWide_slice Try.underlying77 hv
  obtain ⟨fuel, hf⟩ := h
  rcases Go.Deep.open_slice Try.underlying77 hf with ⟨hcs, _⟩ | ⟨a, len', cap', m, n, D, Pl, hcs, _, hl, hm, hmm, _, hx⟩
  · simp [Value.cells] at hcs
    obtain ⟨rfl, rfl, rfl⟩ := hcs
    exact ⟨[], Lies.nil _ _, by simp⟩
  · simp [Value.cells] at hcs
    obtain ⟨rfl, rfl, rfl⟩ := hcs
    simp only [if_true] at hmm
    subst hmm
    have each : ∀ i, i < len → ∃ x : Ins, (∀ j, j < 4 → W.cell? (a.add (i * 4 + j)) = (cells4 x)[j]?) ∧ I64 x.o ∧ I64 x.d ∧ I64 x.s ∧ I64 x.m := by
      intro i hi
      obtain ⟨cs', h1, h2⟩ := hx i (by omega)
      rw [Try.cellsInstr] at h1
      obtain ⟨_, hlen, hcell⟩ := World.cells?_some h1
      obtain ⟨x, rfl, hw⟩ := open_cells4 h2
      exact ⟨x, fun j hj => by rw [← Go.Deep.add_add]; exact hcell j hj, hw⟩
    have : Inhabited Ins := ⟨⟨0, 0, 0, 0⟩⟩
    obtain ⟨f, hf'⟩ := Go.Deep.choose_lt each
    refine ⟨(List.range len).map f, ⟨flat_len4 _, some a, _, by rw [List.length_map, List.length_range], by simpa using hl, hm, (fun h => by cases h), fun hn => ?_⟩, fun i hi => ?_⟩
    · have hpos : 0 < len := by simp at hn; omega
      obtain ⟨b, off, spot⟩ := a
      have c0 : W.cell? ⟨b, off, spot⟩ = some (.int .i64 (f 0).o) := by simpa [Addr.add, cells4] using (hf' 0 hpos).1 0 (by omega)
      have hspot : spot = none := World.cell?_spot c0
      subst hspot
      refine ⟨b, off, rfl, World.block_lt_of_cell? W _ c0, fun j hj => ?_⟩
      simp only [List.length_map, List.length_range] at hj
      rw [flat_cells f j hj, ← add_plain]
      have := (hf' (j / 4) (by omega)).1 (j % 4) (by omega)
      rw [show j / 4 * 4 + j % 4 = j by omega] at this
      exact this
    · obtain ⟨k, hk, rfl⟩ := List.mem_map.1 hi
      exact (hf' k (by simpa using hk)).2
end
end Go.Proofs.Ytjlbenbfmookoaa
