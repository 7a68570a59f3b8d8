/-
  What came in, by its reading: strings, lines, units.
-/
import Derived.Test.YteoifpkbknkpjaaLkO
import Derived.ProofKit
import Derived.OpenShut
import Derived.Deep.Slices
namespace Go.Proofs.Yteoifpkbknkpjaa
open Go.RowKit Go.ChangeShapes Go.WideShapes Go.ChangeAt
set_option linter.unusedSimpArgs false
set_option linter.unusedVariables false

theorem Try.cellsLine : Try.prog.cellsOf 54 = 6 := by kernel_rfl
theorem Try.cellsInsL : Try.prog.cellsOf 52 = 4 := by kernel_rfl
theorem Try.cellsIntL : Try.prog.cellsOf 3 = 1 := by kernel_rfl
theorem Try.cellsStr : Try.prog.cellsOf 9 = 1 := by kernel_rfl
def I64l (x : Int) : Prop := -9223372036854775808 ≤ x ∧ x ≤ 9223372036854775807
theorem i64l_of {x : Int} (h : (Lit.int .i64 x).wf = true) : I64l x := by
  have h1 : IntKind.i64.min = -9223372036854775808 := rfl
  have h2 : IntKind.i64.max = 9223372036854775807 := rfl
  simp only [Lit.wf, Bool.and_eq_true, decide_eq_true_eq] at h
  unfold I64l; omega
/-- A line whose parts Go can have. -/
def LnOk (x : Ln) : Prop := x.lab.size ≤ maxLen ∧ x.ref.size ≤ maxLen ∧ I64l x.i.o ∧ I64l x.i.d ∧ I64l x.i.s ∧ I64l x.i.m

theorem flat_any {α : Type} {n : Nat} {c : α → List Value} (hc : ∀ x, (c x).length = n) : ∀ (l : List α) (i : Nat) (h : i < l.length) (j : Nat), j < n → (l.flatMap c)[i * n + j]? = (c (l[i]'h))[j]?
  | [], i, h, _, _ => by simp at h
  | x :: l, 0, h, j, hj => by
    rw [List.flatMap_cons, List.getElem?_append_left (by rw [hc]; omega)]; simp
  | x :: l, i + 1, h, j, hj => by
    have ih := flat_any hc l i (by simpa using h) j hj
    rw [List.flatMap_cons, List.getElem?_append_right (by rw [hc, Nat.add_mul]; omega)]
    rw [show (i + 1) * n + j - (c x).length = i * n + j by rw [hc, Nat.add_mul]; omega, ih]
    simp
theorem flat_any_len {α : Type} {n : Nat} {c : α → List Value} (hc : ∀ x, (c x).length = n) (l : List α) : (l.flatMap c).length = l.length * n := by
  induction l with
  | nil => simp
  | cons x l ih => rw [List.flatMap_cons, List.length_append, ih, hc, List.length_cons, Nat.add_mul]; omega
section
variable {H : Type} {enc : TypeId × Value → H} {W : World} {v : Value} {d : DataW H} {ps : List MemPlace} {r : Reach} {base : Nat}
set_option maxRecDepth 100000 in
theorem open_Str (hv : Value.okWide Try.prog W r base 9 v) (h : DataW.Trod enc Try.prog W 0 (fun _ => true) true 9 v d ps) : ∃ s, v = .string s ∧ s.size ≤ maxLen := by
  obtain ⟨s, rfl⟩ := okWide_string Try.underlying9 hv
  obtain ⟨fuel, hf⟩ := h
  obtain ⟨s', e, _, hs⟩ := DataW.trod_string Try.underlying9 hf
  simp [Value.cells] at e
  subst e
  exact ⟨s, rfl, hs⟩
theorem open_rowsG {α : Type} [Inhabited α] {n : Nat} (hn : 0 < n) {c : α → List Value} (hcl : ∀ x, (c x).length = n) {T E : TypeId} (hT : Try.prog.underlying T = some (.slice E)) (hE : Try.prog.cellsOf E = n) (Pr : α → Prop) {fuel : Nat} {a0 : Option Addr} {len cap : Nat} {x : DataW H × List MemPlace} {b0 : Nat} (hf : DataW.trod enc Try.prog W b0 (fun _ => true) true fuel T [.slice a0 len cap] = some x)
    (op : ∀ (fuel : Nat) (cs : List Value) (y : DataW H × List MemPlace), DataW.trod enc Try.prog W b0 (fun _ => true) true fuel E cs = some y → ∃ a, cs = c a ∧ Pr a) :
    ∃ l : List α, Lies W n (.slice a0 len cap) l.length (l.flatMap c) ∧ ∀ a ∈ l, Pr a := by
  rcases Go.Deep.open_slice hT hf with ⟨hcs, _⟩ | ⟨a, len', cap', m, k, D, Pl, hcs, _, hl, hm, hmm, _, hx⟩
  · simp at hcs
    obtain ⟨rfl, rfl, rfl⟩ := hcs
    exact ⟨[], Lies.nil _ _, by simp⟩
  · simp at hcs
    obtain ⟨rfl, rfl, rfl⟩ := hcs
    simp only [if_true] at hmm
    subst hmm
    have each : ∀ i, i < len → ∃ z : α, (∀ j, j < n → W.cell? (a.add (i * n + j)) = (c z)[j]?) ∧ Pr z := by
      intro i hi
      obtain ⟨cs', h1, h2⟩ := hx i (by omega)
      rw [hE] at h1
      obtain ⟨_, hlen, hcell⟩ := World.cells?_some h1
      obtain ⟨z, rfl, hw⟩ := op _ _ _ h2
      exact ⟨z, fun j hj => by rw [← Go.Deep.add_add]; exact hcell j hj, hw⟩
    obtain ⟨f, hf'⟩ := Go.Deep.choose_lt each
    refine ⟨(List.range len).map f, ⟨flat_any_len hcl _, some a, _, by rw [List.length_map, List.length_range], by simpa using hl, hm, (fun h => by cases h), fun hn' => ?_⟩, fun i hi => ?_⟩
    · have hpos : 0 < len := by simp at hn'; omega
      obtain ⟨b, off, spot⟩ := a
      have c0 : W.cell? ⟨b, off, spot⟩ = some ((c (f 0))[0]'(by rw [hcl]; exact hn)) := by
        have := (hf' 0 hpos).1 0 hn
        rw [List.getElem?_eq_getElem (by rw [hcl]; exact hn)] at this
        simpa [Addr.add] using this
      have hspot : spot = none := World.cell?_spot c0
      subst hspot
      refine ⟨b, off, rfl, World.block_lt_of_cell? W _ c0, fun j hj => ?_⟩
      simp only [List.length_map, List.length_range] at hj
      have hq : j / n < len := Nat.div_lt_of_lt_mul (by rw [Nat.mul_comm]; exact hj)
      have hr : j % n < n := Nat.mod_lt _ hn
      have e : j / n * n + j % n = j := by rw [Nat.mul_comm]; exact Nat.div_add_mod j n
      have q := flat_any hcl ((List.range len).map f) (j / n) (by simpa using hq) (j % n) hr
      rw [e] at q
      rw [q, ← add_plain]
      have := (hf' (j / n) hq).1 (j % n) hr
      rw [e] at this
      rw [this]
      simp
    · obtain ⟨k, hk, rfl⟩ := List.mem_map.1 hi
      exact (hf' k (by simpa using hk)).2
set_option maxRecDepth 100000 in
theorem open_cellsIL {fuel : Nat} {cs : List Value} {x : DataW H × List MemPlace} {b0 : Nat} (h : DataW.trod enc Try.prog W b0 (fun _ => true) true fuel 52 cs = some x) :
    ∃ i : Ins, cs = cells4 i ∧ I64l i.o ∧ I64l i.d ∧ I64l i.s ∧ I64l i.m := by
  obtain ⟨xs, k, _, _, hlen, hxl, hf⟩ := DataW.trod_struct Try.underlying52 h
  rw [Try.cellsInsL] at hlen
  match xs, hxl, cs, hlen with
  | [y0, y1, y2, y3], _, [v0, v1, v2, v3], _ =>
    have g0 := hf 0 _ rfl
    have g1 := hf 1 _ rfl
    have g2 := hf 2 _ rfl
    have g3 := hf 3 _ rfl
    simp [Try.cellsIntL] at g0 g1 g2 g3
    obtain ⟨z0, e0, _, w0⟩ := DataW.trod_int Try.underlying3 g0
    obtain ⟨z1, e1, _, w1⟩ := DataW.trod_int Try.underlying3 g1
    obtain ⟨z2, e2, _, w2⟩ := DataW.trod_int Try.underlying3 g2
    obtain ⟨z3, e3, _, w3⟩ := DataW.trod_int Try.underlying3 g3
    simp at e0 e1 e2 e3
    subst e0 e1 e2 e3
    exact ⟨⟨z0, z1, z2, z3⟩, rfl, i64l_of w0, i64l_of w1, i64l_of w2, i64l_of w3⟩
set_option maxRecDepth 100000 in
theorem open_cellsL {fuel : Nat} {cs : List Value} {x : DataW H × List MemPlace} {b0 : Nat} (h : DataW.trod enc Try.prog W b0 (fun _ => true) true fuel 54 cs = some x) :
    ∃ z : Ln, cs = cellsL z ∧ LnOk z := by
  obtain ⟨xs, k, _, _, hlen, hxl, hf⟩ := DataW.trod_struct Try.underlying54 h
  rw [Try.cellsLine] at hlen
  match xs, hxl, cs, hlen with
  | [y0, y1, y2], _, [v0, v1, v2, v3, v4, v5], _ =>
    have g0 := hf 0 _ rfl
    have g1 := hf 1 _ rfl
    have g2 := hf 2 _ rfl
    simp [Try.cellsStr, Try.cellsInsL] at g0 g1 g2
    obtain ⟨z0, e0, _, w0⟩ := DataW.trod_string Try.underlying9 g0
    obtain ⟨z1, e1, w1⟩ := open_cellsIL g1
    obtain ⟨z2, e2, _, w2⟩ := DataW.trod_string Try.underlying9 g2
    simp [cells4] at e0 e1 e2
    obtain ⟨rfl, rfl, rfl, rfl⟩ := e1
    subst e0 e2
    exact ⟨⟨z0, z1, z2⟩, rfl, w0, w2, w1⟩
set_option maxRecDepth 100000 in
theorem open_Lns (hv : Value.okWide Try.prog W r base 48 v) (h : DataW.Trod enc Try.prog W 0 (fun _ => true) true 48 v d ps) : ∃ l : List Ln, Lns W v l ∧ ∀ x ∈ l, LnOk x := by
  obtain ⟨a0, len, cap, rfl⟩ := okWide_slice Try.underlying48 hv
  obtain ⟨fuel, hf⟩ := h
  have : Inhabited Ln := ⟨⟨ByteArray.empty, ⟨0, 0, 0, 0⟩, ByteArray.empty⟩⟩
  exact open_rowsG (n := 6) (c := cellsL) (by decide) (fun _ => rfl) Try.underlying48 Try.cellsLine LnOk hf fun _ _ _ h => open_cellsL h
theorem Try.cellsUnit : Try.prog.cellsOf 50 = 2 := by kernel_rfl
theorem Try.cellsLines : Try.prog.cellsOf 48 = 1 := by kernel_rfl
def cellsUV (u : Un × Value) : List Value := [.string u.1.name, u.2]
def UvOk (W : World) (u : Un × Value) : Prop := u.1.name.size ≤ maxLen ∧ Lns W u.2 u.1.lines ∧ ∀ x ∈ u.1.lines, LnOk x
set_option maxRecDepth 100000 in
theorem open_cellsU {fuel : Nat} {cs : List Value} {x : DataW H × List MemPlace} {b0 : Nat} (h : DataW.trod enc Try.prog W b0 (fun _ => true) true fuel 50 cs = some x) :
    ∃ z : Un × Value, cs = cellsUV z ∧ UvOk W z := by
  obtain ⟨xs, k, _, _, hlen, hxl, hf⟩ := DataW.trod_struct Try.underlying50 h
  rw [Try.cellsUnit] at hlen
  match xs, hxl, cs, hlen with
  | [y0, y1], _, [v0, v1], _ =>
    have g0 := hf 0 _ rfl
    have g1 := hf 1 _ rfl
    simp [Try.cellsStr, Try.cellsLines] at g0 g1
    obtain ⟨z0, e0, _, w0⟩ := DataW.trod_string Try.underlying9 g0
    simp at e0
    subst e0
    have hv1 : ∃ a0 len cap, v1 = .slice a0 len cap := by
      rcases Go.Deep.open_slice Try.underlying48 g1 with ⟨hcs, _⟩ | ⟨a, len', cap', m, k, D, Pl, hcs, _⟩
      · simp at hcs; exact ⟨_, _, _, hcs⟩
      · simp at hcs; exact ⟨_, _, _, hcs⟩
    obtain ⟨a0, len, cap, rfl⟩ := hv1
    have : Inhabited Ln := ⟨⟨ByteArray.empty, ⟨0, 0, 0, 0⟩, ByteArray.empty⟩⟩
    obtain ⟨l, h1, h2⟩ := open_rowsG (n := 6) (c := cellsL) (by decide) (fun _ => rfl) Try.underlying48 Try.cellsLine LnOk g1 fun _ _ _ h => open_cellsL h
    exact ⟨(⟨z0, l⟩, .slice a0 len cap), rfl, w0, h1, h2⟩
def UnOk (u : Un) : Prop := u.name.size ≤ maxLen ∧ ∀ x ∈ u.lines, LnOk x
theorem uns_of {l : List (Un × Value)} (h : Lies W 2 v l.length (l.flatMap cellsUV)) (h2 : ∀ a ∈ l, UvOk W a) : Uns W v (l.map (·.1)) := by
  obtain ⟨_, ao, cap, rfl, h3, h4, _, h5⟩ := h
  refine ⟨ao, cap, by rw [List.length_map], by rw [List.length_map]; exact Nat.le_trans h3 h4, fun hn => ?_⟩
  obtain ⟨b, off, rfl, hb, hc⟩ := h5 (by intro h; exact hn (by rw [List.eq_nil_of_length_eq_zero h]; rfl))
  refine ⟨b, off, fun j => ((l[j]?).map (·.2)).getD undef, rfl, hb, fun j hj => ?_⟩
  rw [List.length_map] at hj
  have f := flat_any (n := 2) (c := cellsUV) (fun _ => rfl) l j hj
  have m := h2 _ (List.getElem_mem hj)
  rw [List.getElem_map]
  dsimp only
  rw [List.getElem?_eq_getElem hj]
  refine ⟨?_, ?_, m.2.1⟩
  · rw [hc (j * 2) (by omega)]; exact f 0 (by omega)
  · rw [Nat.add_assoc, hc (j * 2 + 1) (by omega)]; exact f 1 (by omega)
set_option maxRecDepth 100000 in
theorem open_Unl (hv : Value.okWide Try.prog W r base 22 v) (h : DataW.Trod enc Try.prog W 0 (fun _ => true) true 22 v d ps) : ∃ l : List (Un × Value), Lies W 2 v l.length (l.flatMap cellsUV) ∧ ∀ a ∈ l, UvOk W a := by
  obtain ⟨a0, len, cap, rfl⟩ := okWide_slice Try.underlying22 hv
  obtain ⟨fuel, hf⟩ := h
  have : Inhabited (Un × Value) := ⟨(⟨ByteArray.empty, []⟩, undef)⟩
  exact open_rowsG (n := 2) (c := cellsUV) (by decide) (fun _ => rfl) Try.underlying22 Try.cellsUnit (UvOk W) hf fun _ _ _ h => open_cellsU h
set_option maxRecDepth 100000 in
theorem open_Unit (_hv : Value.okWide Try.prog W r base 50 v) (h : DataW.Trod enc Try.prog W 0 (fun _ => true) true 50 v d ps) : ∃ (u : Un) (vl : Value), v = .agg #[.string u.name, vl] ∧ Lns W vl u.lines ∧ UnOk u := by
  obtain ⟨fuel, hf⟩ := h
  obtain ⟨⟨u, vl⟩, hc, hw⟩ := open_cellsU hf
  have hv : ∃ cs : Array Value, v = .agg cs := by
    cases v <;> first | exact ⟨_, rfl⟩ | (simp [Value.cells, cellsUV] at hc)
  obtain ⟨cs, rfl⟩ := hv
  simp only [Value.cells, cellsUV] at hc
  obtain ⟨l⟩ := cs
  simp only at hc
  subst hc
  exact ⟨u, vl, rfl, hw.2.1, hw.1, hw.2.2⟩
set_option maxRecDepth 100000 in
theorem open_Uns (hv : Value.okWide Try.prog W r base 22 v) (h : DataW.Trod enc Try.prog W 0 (fun _ => true) true 22 v d ps) : ∃ us : List Un, Uns W v us ∧ ∀ u ∈ us, UnOk u := by
  obtain ⟨a0, len, cap, rfl⟩ := okWide_slice Try.underlying22 hv
  obtain ⟨fuel, hf⟩ := h
  have : Inhabited (Un × Value) := ⟨(⟨ByteArray.empty, []⟩, undef)⟩
  obtain ⟨l, h1, h2⟩ := open_rowsG (n := 2) (c := cellsUV) (by decide) (fun _ => rfl) Try.underlying22 Try.cellsUnit (UvOk W) hf fun _ _ _ h => open_cellsU h
  refine ⟨l.map (·.1), uns_of h1 h2, fun u hu => ?_⟩
  obtain ⟨a, ha, rfl⟩ := List.mem_map.1 hu
  exact ⟨(h2 a ha).1, (h2 a ha).2.2⟩
end
end Go.Proofs.Yteoifpkbknkpjaa
