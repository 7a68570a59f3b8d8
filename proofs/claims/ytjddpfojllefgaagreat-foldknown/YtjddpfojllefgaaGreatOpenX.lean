/-
  What came in, by its reading: expressions.
-/
import Derived.Test.YtjddpfojllefgaaGreatTrA
import Derived.Test.YtjddpfojllefgaaGreatTyAz
import Derived.Test.YtjddpfojllefgaaGreatMem2z
import Derived.ProofKit
import Derived.OpenShut
import Derived.Deep.Slices
namespace Go.Proofs.YtjddpfojllefgaaGreat
open Go.RowKit Go.ChangeShapes Go.WideShapes Go.ChangeAt
set_option linter.unusedSimpArgs false
set_option linter.unusedVariables false

theorem Tryz.cIntP : Tryz.prog.cellsOf 3 = 1 := by kernel_rfl
theorem Tryz.cU64P : Tryz.prog.cellsOf 22 = 1 := by kernel_rfl
theorem Tryz.cBoolP : Tryz.prog.cellsOf 4 = 1 := by kernel_rfl
theorem Tryz.cStrP : Tryz.prog.cellsOf 9 = 1 := by kernel_rfl
theorem Tryz.cTypeP : Tryz.prog.cellsOf 24 = 2 := by kernel_rfl
theorem Tryz.cExP : Tryz.prog.cellsOf 27 = 6 := by kernel_rfl
theorem Tryz.cExsP : Tryz.prog.cellsOf 25 = 1 := by kernel_rfl
theorem flat_anyP {α : Type} {n : Nat} {c : α → List Value} (hc : ∀ x, (c x).length = n) : ∀ (l : List α) (i : Nat) (h : i < l.length) (j : Nat), j < n → (l.flatMap c)[i * n + j]? = (c (l[i]'h))[j]?
  | [], i, h, _, _ => by simp at h
  | x :: l, 0, h, j, hj => by
    rw [List.flatMap_cons, List.getElem?_append_left (by rw [hc]; omega)]; simp
  | x :: l, i + 1, h, j, hj => by
    have ih := flat_anyP hc l i (by simpa using h) j hj
    rw [List.flatMap_cons, List.getElem?_append_right (by rw [hc, Nat.add_mul]; omega)]
    rw [show (i + 1) * n + j - (c x).length = i * n + j by rw [hc, Nat.add_mul]; omega, ih]
    simp
theorem flat_lenP {α : Type} {n : Nat} {c : α → List Value} (hc : ∀ x, (c x).length = n) (l : List α) : (l.flatMap c).length = l.length * n := by
  induction l with
  | nil => simp
  | cons x l ih => rw [List.flatMap_cons, List.length_append, ih, hc, List.length_cons, Nat.add_mul]; omega
theorem zip_back {α β : Type} (l : List (α × β)) : (l.map (·.1)).zip (l.map (·.2)) = l := by
  induction l with
  | nil => rfl
  | cons p l ih => simp [ih]
section
variable {H : Type} {enc : TypeId × Value → H} {W : World}
/-- A row, whatever its elements are; these are read with less fuel. -/
theorem open_rowsP {α : Type} [Inhabited α] {n : Nat} (hn : 0 < n) {c : α → List Value} (hcl : ∀ x, (c x).length = n) {T E : TypeId} (hT : Tryz.prog.underlying T = some (.slice E)) (hE : Tryz.prog.cellsOf E = n) (Pr : α → Prop) {fuel : Nat} {cs : List Value} {x : DataW H × List MemPlace} (hf : DataW.trod enc Tryz.prog W 0 (fun _ => true) true fuel T cs = some x)
    (op : ∀ f, f < fuel → ∀ (cs : List Value) (y : DataW H × List MemPlace), DataW.trod enc Tryz.prog W 0 (fun _ => true) true f E cs = some y → ∃ a, cs = c a ∧ Pr a) :
    ∃ (v : Value) (l : List α), cs = [v] ∧ Lies W n v l.length (l.flatMap c) ∧ (∀ a ∈ l, Pr a) ∧ (∀ b, v.ownBlock = some b → l ≠ [] → b < W.heap.size) := by
  rcases DataW.trod_slice hT hf with ⟨rfl, _⟩ | ⟨a, len, cap, elems, rest, k, hk, rfl, rfl, hb, hl, hm, hlen, hel, _, _⟩
  · exact ⟨_, [], rfl, Lies.nil _ _, by simp, fun _ _ h => absurd rfl h⟩
  · have each : ∀ i, i < len → ∃ z : α, (∀ j, j < n → W.cell? (a.add (i * n + j)) = (c z)[j]?) ∧ Pr z := by
      intro i hi
      have key := hel i hi
      rw [List.getElem?_eq_getElem (by omega)] at key
      obtain ⟨cs', h1, h2⟩ := Option.bind_eq_some_iff.1 key
      rw [hE] at h1
      obtain ⟨_, _, hcell⟩ := World.cells?_some h1
      obtain ⟨z, rfl, hw⟩ := op k (by omega) _ _ h2
      exact ⟨z, fun j hj => by rw [← Go.Deep.add_add]; exact hcell j hj, hw⟩
    obtain ⟨f, hf'⟩ := Go.Deep.choose_lt each
    obtain ⟨b, off, spot⟩ := a
    have c0 : 0 < len → ∃ u, W.cell? ⟨b, off, spot⟩ = some u := fun hpos => by
      have := (hf' 0 hpos).1 0 hn
      rw [List.getElem?_eq_getElem (by rw [hcl]; exact hn)] at this
      exact ⟨_, by simpa [Addr.add] using this⟩
    refine ⟨_, (List.range len).map f, rfl, ⟨flat_lenP hcl _, some ⟨b, off, spot⟩, _, by rw [List.length_map, List.length_range], by simpa using hl, hm, (fun h => by cases h), fun hn' => ?_⟩, fun z hz => ?_, fun c' hc' hne => ?_⟩
    · have hpos : 0 < len := by simp at hn'; omega
      obtain ⟨u, c0⟩ := c0 hpos
      have hspot : spot = none := World.cell?_spot c0
      subst hspot
      refine ⟨b, off, rfl, World.block_lt_of_cell? W _ c0, fun j hj => ?_⟩
      simp only [List.length_map, List.length_range] at hj
      have hq : j / n < len := Nat.div_lt_of_lt_mul (by rw [Nat.mul_comm]; exact hj)
      have hr : j % n < n := Nat.mod_lt _ hn
      have e : j / n * n + j % n = j := by rw [Nat.mul_comm]; exact Nat.div_add_mod j n
      have q := flat_anyP hcl ((List.range len).map f) (j / n) (by simpa using hq) (j % n) hr
      rw [e] at q
      rw [q, ← add_plain]
      have := (hf' (j / n) hq).1 (j % n) hr
      rw [e] at this
      rw [this]
      simp
    · obtain ⟨k, hk, rfl⟩ := List.mem_map.1 hz
      exact (hf' k (by simpa using hk)).2
    · have hpos : 0 < len := by
        cases len with
        | zero => exact absurd rfl hne
        | succ m => omega
      obtain ⟨u, c0⟩ := c0 hpos
      injection hc' with hc'
      subst hc'
      exact World.block_lt_of_cell? W _ c0
set_option maxRecDepth 100000 in
theorem open_ty {fuel : Nat} {cs : List Value} {x : DataW H × List MemPlace} (h : DataW.trod enc Tryz.prog W 0 (fun _ => true) true fuel 24 cs = some x) :
    ∃ (b : Int) (s : Bool), cs = [.int .i64 b, .bool s] := by
  obtain ⟨xs, k, _, _, hlen, hxl, hf⟩ := DataW.trod_struct Tryz.underlying24 h
  rw [Tryz.cTypeP] at hlen
  match xs, hxl, cs, hlen with
  | [y0, y1], _, [v0, v1], _ =>
    have g0 := hf 0 _ rfl
    have g1 := hf 1 _ rfl
    simp [Tryz.cIntP, Tryz.cBoolP] at g0 g1
    obtain ⟨z0, e0, _, w0⟩ := DataW.trod_int Tryz.underlying3 g0
    obtain ⟨z1, e1, _⟩ := DataW.trod_bool Tryz.underlying4 g1
    simp at e0 e1
    subst e0 e1
    exact ⟨z0, z1, rfl⟩
def ExV (W : World) (p : Ex × Value) : Prop := ExF p.1 ∧ ExL W.heap.size W p.2 p.1.kids
theorem open_exs {fuel : Nat} (IH : ∀ f, f < fuel → ∀ (cs : List Value) (y : DataW H × List MemPlace), DataW.trod enc Tryz.prog W 0 (fun _ => true) true f 27 cs = some y → ∃ p : Ex × Value, cs = exC p.1 p.2 ∧ ExV W p) {cs : List Value} {x : DataW H × List MemPlace} (h : DataW.trod enc Tryz.prog W 0 (fun _ => true) true fuel 25 cs = some x) :
    ∃ (v : Value) (xs : List Ex), cs = [v] ∧ ExL W.heap.size W v xs := by
  have : Inhabited (Ex × Value) := ⟨(.mk 0 0 0 false ByteArray.empty [], undef)⟩
  obtain ⟨v, l, rfl, h1, h2, h3⟩ := open_rowsP (n := 6) (c := fun p : Ex × Value => exC p.1 p.2) (by decide) (fun _ => rfl) Tryz.underlying25 Tryz.cExP (ExV W) h IH
  refine ⟨v, l.map (·.1), rfl, .mk v _ (l.map (·.2)) (by simp) (fun c hc hn => h3 c hc (fun e => hn (by rw [e]; rfl))) (by rw [List.length_map]; unfold exCs; rw [zip_back]; exact h1) (fun y hy => ?_) (fun i hi => ?_)⟩
  · obtain ⟨q, hq, rfl⟩ := List.mem_map.1 hy
    exact (h2 q hq).1
  · have hi' : i < l.length := by simpa using hi
    have := (h2 _ (List.getElem_mem hi')).2
    simpa using this
set_option maxRecDepth 100000 in
theorem open_ex : ∀ (fuel : Nat) (cs : List Value) (x : DataW H × List MemPlace), DataW.trod enc Tryz.prog W 0 (fun _ => true) true fuel 27 cs = some x → ∃ p : Ex × Value, cs = exC p.1 p.2 ∧ ExV W p := by
  intro fuel
  induction fuel using Nat.strongRecOn with
  | _ fuel ih =>
    intro cs x h
    obtain ⟨xs, k, hk, _, hlen, hxl, hf⟩ := DataW.trod_struct Tryz.underlying27 h
    rw [Tryz.cExP] at hlen
    match xs, hxl, cs, hlen with
    | [y0, y1, y2, y3, y4], _, [v0, v1, v2, v3, v4, v5], _ =>
      have g0 := hf 0 _ rfl
      have g1 := hf 1 _ rfl
      have g2 := hf 2 _ rfl
      have g3 := hf 3 _ rfl
      have g4 := hf 4 _ rfl
      simp [Tryz.cIntP, Tryz.cU64P, Tryz.cTypeP, Tryz.cStrP, Tryz.cExsP] at g0 g1 g2 g3 g4
      obtain ⟨z0, e0, _, _⟩ := DataW.trod_int Tryz.underlying3 g0
      obtain ⟨z1, e1, _, w1⟩ := DataW.trod_int Tryz.underlying22 g1
      obtain ⟨z2, z3, e2⟩ := open_ty g2
      obtain ⟨z4, e4, _, w4⟩ := DataW.trod_string Tryz.underlying9 g3
      obtain ⟨z5, kids, e5, w5⟩ := open_exs (fun f hf' => ih f (by omega)) g4
      simp at e0 e1 e2 e4 e5
      obtain ⟨rfl, rfl⟩ := e2
      subst e0 e1 e4 e5
      have hw : 0 ≤ z1 ∧ z1 ≤ 18446744073709551615 := by
        have h1 : IntKind.u64.min = 0 := rfl
        have h2 : IntKind.u64.max = 18446744073709551615 := rfl
        simp only [Lit.wf, Bool.and_eq_true, decide_eq_true_eq] at w1
        omega
      exact ⟨(.mk z0 z1 z2 z3 z4 kids, v5), rfl, ⟨hw, w4⟩, w5⟩
set_option maxRecDepth 100000 in
/-- An expression that came in lies in memory. -/
theorem open_Expr {v : Value} {d : DataW H} {ps : List MemPlace} (h : DataW.Trod enc Tryz.prog W 0 (fun _ => true) true 27 v d ps) : ∃ (x : Ex) (kv : Value), v = .agg #[.int .i64 x.k, .int .u64 x.n, .int .i64 x.b, .bool x.s, .string x.nm, kv] ∧ ExF x ∧ ExL W.heap.size W kv x.kids := by
  obtain ⟨fuel, hf⟩ := h
  obtain ⟨⟨x, kv⟩, hc, hw⟩ := open_ex _ _ _ hf
  have hv : ∃ cs : Array Value, v = .agg cs := by
    cases v <;> first | exact ⟨_, rfl⟩ | (simp [Value.cells, exC] at hc)
  obtain ⟨⟨cs⟩, rfl⟩ := hv
  simp only [Value.cells] at hc
  subst hc
  exact ⟨x, kv, rfl, hw.1, hw.2⟩
end
end Go.Proofs.YtjddpfojllefgaaGreat
