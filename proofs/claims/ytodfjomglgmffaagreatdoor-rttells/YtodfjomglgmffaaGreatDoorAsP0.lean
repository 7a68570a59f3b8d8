/-
  Maps by names, and lists of lines, in memory.
-/
import Derived.Test.YtodfjomglgmffaaGreatDoorAsW
import Derived.Test.YtodfjomglgmffaaGreatDoorInsE2
import Derived.Maps.OwnSet
import Derived.Maps.OwnOps
import Derived.StringKeys
namespace Go.Proofs.YtodfjomglgmffaaGreatDoor
open Go.RowKit Go.Maps
set_option linter.unusedSimpArgs false
set_option linter.unusedVariables false

abbrev Nmd := List (List UInt8 × Int)
def hasA (A : Nmd) (k : List UInt8) : Bool := A.any fun p => p.1 == k
def atA (A : Nmd) (k : List UInt8) : Int := match A.find? (fun p => p.1 == k) with | some p => p.2 | none => 0
theorem hasA_snoc (A : Nmd) (k j : List UInt8) (x : Int) : hasA (A ++ [(k, x)]) j = (hasA A j || (k == j)) := by simp [hasA]
theorem atA_snoc_new {A : Nmd} {k : List UInt8} {x : Int} (h : hasA A k = false) : atA (A ++ [(k, x)]) k = x := by
  unfold atA hasA at *
  have : A.find? (fun p => p.1 == k) = none := by
    rw [List.find?_eq_none]; intro p hp; rw [List.any_eq_false] at h; exact h p hp
  rw [List.find?_append, this]; simp
theorem atA_snoc_other {A : Nmd} {k j : List UInt8} {x : Int} (h : (k == j) = false) : atA (A ++ [(k, x)]) j = atA A j := by
  unfold atA
  rw [List.find?_append]
  cases e : A.find? (fun p => p.1 == j) with
  | some p => simp
  | none => simp [h]
theorem Tryz.keyS : Keyed Tryz.prog 9 := string_keyed Tryz.underlying9
theorem Tryz.zeroI (w : World) : (zeroValue 3).run Tryz.prog w = .ok (.int .i64 0) w := by kernel_rfl
/-- Block b is a map that has just these names and numbers. -/
def Mp (w : World) (b : Nat) (A : Nmd) : Prop := ∃ D : DataW Unit, w.ownsMap Tryz.prog 9 (plainElem Tryz.prog 3) b A.length D ∧ ∀ k : List UInt8, Maps.has D (.string k) = hasA A k ∧ D.atKey (.string k) (.lit (.int .i64 0)) = .lit (.int .i64 (atA A k))
theorem Mp.made (w : World) : Mp (w.alloc (.map #[] 0)) w.heap.size [] := ⟨_, World.ownsMap_made _ _ _ _, fun k => ⟨rfl, rfl⟩⟩
theorem Mp.lt {w : World} {b : Nat} {A : Nmd} (h : Mp w b A) : b < w.heap.size := by obtain ⟨D, h1, _⟩ := h; exact h1.lt
theorem Mp.step {w w' : World} {b : Nat} {A : Nmd} (h : Mp w b A) (k : Below w.heap.size w w') : Mp w' b A := by
  have hl := h.lt
  obtain ⟨D, ⟨es, c, h1, h2⟩, h3⟩ := h
  exact ⟨D, ⟨es, c, by rw [k.block b hl]; exact h1, h2⟩, h3⟩
theorem Mp.setCell {w : World} {b p j : Nat} {A : Nmd} {u : Value} (h : Mp w b A) (hne : b ≠ p) : Mp (w.setCell ⟨p, j, none⟩ u) b A := by
  obtain ⟨D, h1, h2⟩ := h
  exact ⟨D, h1.setCell hne u, h2⟩
theorem Mp.put {w : World} {b : Nat} {A : Nmd} {k : List UInt8} {x : Int} (hn : hasA A k = false) {D : DataW Unit} (hD : IsMap D) (h2 : ∀ k : List UInt8, Maps.has D (.string k) = hasA A k ∧ D.atKey (.string k) (.lit (.int .i64 0)) = .lit (.int .i64 (atA A k))) (h1 : w.ownsMap Tryz.prog 9 (plainElem Tryz.prog 3) b (A.length + 1) (D.put (.string k) (.lit (.int .i64 x)))) : Mp w b (A ++ [(k, x)]) := by
  refine ⟨_, by rw [List.length_append]; exact h1, fun j => ?_⟩
  by_cases e : k = j
  · subst e
    exact ⟨by rw [has_put_same hD (show WideAt.IsKeyLit (.string k) from trivial), hasA_snoc]; simp, by rw [atKey_put_same hD (show WideAt.IsKeyLit (.string k) from trivial), atA_snoc_new hn]⟩
  · have e1 : (k == j) = false := beq_eq_false_iff_ne.2 e
    have e2 : (Lit.string j) ≠ Lit.string k := fun h => e (by injection h with h; exact h.symm)
    exact ⟨by rw [has_put_other e2, hasA_snoc, e1, Bool.or_false]; exact (h2 j).1, by rw [atKey_put_other e2, atA_snoc_other e1]; exact (h2 j).2⟩
section
variable {w : World} {ops : Array Oper} {rest : List Oper} {o : Oper} {a : Act} {Q : Exit → Act → World → Prop}
theorem wpList_look_ok (hg : o.guard = none) (m x : Operand) (hop : o.op = Op.lookup 67 m x true) (b : Nat) (A : Nmd) (hm : a.eval m = .map (some b)) (hM : Mp w b A) (s : ByteArray) (hx : a.eval x = .string s) (hs : s.size ≤ maxLen)
    (hK : wpList Tryz.prog ops Q rest (a.put o.dst (.tuple #[.int .i64 (atA A s.toList), .bool (hasA A s.toList)])) w) : wpList Tryz.prog ops Q (o :: rest) a w := by
  obtain ⟨D, h1, h2⟩ := hM
  refine wpList_lookup_own_ok_int w hg m x _ hop 9 3 .i64 Tryz.keyS Tryz.underlying67 Tryz.underlying3 (Tryz.zeroI _) b _ D hm h1 _ _ hx (Go.WideMaps.keyOf_string_mk Tryz.underlying9 hs) ?_
  intro c hat _
  rw [(h2 _).2] at hat
  rw [(h2 _).1]
  injection hat with hat
  injection hat with _ hat
  subst hat
  rw [← ByteArray.toList_eq]
  exact hK
theorem wpList_look (hg : o.guard = none) (m x : Operand) (hop : o.op = Op.lookup 67 m x false) (b : Nat) (A : Nmd) (hm : a.eval m = .map (some b)) (hM : Mp w b A) (s : ByteArray) (hx : a.eval x = .string s) (hs : s.size ≤ maxLen)
    (hK : wpList Tryz.prog ops Q rest (a.put o.dst (.int .i64 (atA A s.toList))) w) : wpList Tryz.prog ops Q (o :: rest) a w := by
  obtain ⟨D, h1, h2⟩ := hM
  refine wpList_lookup_own_int w hg m x _ hop 9 3 .i64 Tryz.keyS Tryz.underlying67 Tryz.underlying3 (Tryz.zeroI _) b _ D hm h1 _ _ hx (Go.WideMaps.keyOf_string_mk Tryz.underlying9 hs) ?_
  intro c hat _
  rw [(h2 _).2] at hat
  injection hat with hat
  injection hat with _ hat
  subst hat
  rw [← ByteArray.toList_eq]
  exact hK
theorem wpList_put (hg : o.guard = none) (m x v : Operand) (hop : o.op = Op.mapUpdate 67 m x v) (b : Nat) (A : Nmd) (hm : a.eval m = .map (some b)) (hM : Mp w b A) (hl : A.length < maxLen) (s : ByteArray) (hx : a.eval x = .string s) (hs : s.size ≤ maxLen) (y : Int) (hv : a.eval v = .int .i64 y) (hy : (Lit.int .i64 y).wf = true) (hn : hasA A s.toList = false)
    (hK : ∀ w', Mp w' b (A ++ [(s.toList, y)]) → w.grownBy w' (some b) → wpList Tryz.prog ops Q rest (a.put o.dst undef) w') : wpList Tryz.prog ops Q (o :: rest) a w := by
  obtain ⟨D, h1, h2⟩ := hM
  refine wpList_mapUpdate_own w hg m x v _ hop 9 3 Tryz.keyS Tryz.underlying67 _ b _ D hm h1 hl _ _ _ hx hv (Go.WideMaps.keyOf_string_mk Tryz.underlying9 hs) _ [] (plainElem_int Tryz.underlying3 hy) ?_
  intro w' hown hgrow
  refine hK w' ?_ hgrow
  have := Mp.put (k := s.data.toList) (x := y) (by rw [← ByteArray.toList_eq]; exact hn) h1.isMap h2 hown
  rw [← ByteArray.toList_eq] at this
  exact this
end

/-! ### lines -/
def cellsL (x : Ln) : List Value := [.string x.lab, .int .i64 x.i.o, .int .i64 x.i.d, .int .i64 x.i.s, .int .i64 x.i.m, .string x.ref]
def Lns (w : World) (v : Value) (l : List Ln) : Prop := Lies w 6 v l.length (l.flatMap cellsL)
theorem Lns.step {w w' : World} {v : Value} {l : List Ln} (h : Lns w v l) (k : Below w.heap.size w w') : Lns w' v l := Lies.step h k
theorem flat6 : ∀ (l : List Ln) (i : Nat) (h : i < l.length) (j : Nat), j < 6 → (l.flatMap cellsL)[i * 6 + j]? = (cellsL (l[i]'h))[j]?
  | [], i, h, _, _ => by simp at h
  | x :: l, 0, h, j, hj => by
    rw [List.flatMap_cons, List.getElem?_append_left (by simp [cellsL]; omega)]; simp
  | x :: l, i + 1, h, j, hj => by
    have ih := flat6 l i (by simpa using h) j hj
    rw [List.flatMap_cons, List.getElem?_append_right (by simp [cellsL]; omega)]
    rw [show (i + 1) * 6 + j - (cellsL x).length = i * 6 + j by simp [cellsL]; omega, ih]
    simp
theorem Lns.at {w : World} {v : Value} {l : List Ln} (h : Lns w v l) : ∃ ao cap, v = .slice ao l.length cap ∧ l.length ≤ maxLen ∧ (l ≠ [] → ∃ b off, ao = some ⟨b, off, none⟩ ∧ b < w.heap.size ∧ ∀ j (hj : j < l.length), w.cell? ⟨b, off + j * 6, none⟩ = some (.string (l[j]'hj).lab) ∧ w.cell? ⟨b, off + j * 6 + 1, none⟩ = some (.int .i64 (l[j]'hj).i.o) ∧ w.cell? ⟨b, off + j * 6 + 2, none⟩ = some (.int .i64 (l[j]'hj).i.d) ∧ w.cell? ⟨b, off + j * 6 + 3, none⟩ = some (.int .i64 (l[j]'hj).i.s) ∧ w.cell? ⟨b, off + j * 6 + 4, none⟩ = some (.int .i64 (l[j]'hj).i.m) ∧ w.cell? ⟨b, off + j * 6 + 5, none⟩ = some (.string (l[j]'hj).ref)) := by
  obtain ⟨_, ao, cap, rfl, h3, h4, _, h5⟩ := h
  refine ⟨ao, cap, rfl, Nat.le_trans h3 h4, fun hn => ?_⟩
  obtain ⟨b, off, rfl, hb, hc⟩ := h5 (by intro h; exact hn (List.eq_nil_of_length_eq_zero h))
  refine ⟨b, off, rfl, hb, fun j hj => ?_⟩
  have f := flat6 l j hj
  refine ⟨?_, ?_, ?_, ?_, ?_, ?_⟩
  · rw [hc (j * 6) (by omega)]; exact f 0 (by omega)
  · rw [Nat.add_assoc, hc (j * 6 + 1) (by omega)]; exact f 1 (by omega)
  · rw [Nat.add_assoc, hc (j * 6 + 2) (by omega)]; exact f 2 (by omega)
  · rw [Nat.add_assoc, hc (j * 6 + 3) (by omega)]; exact f 3 (by omega)
  · rw [Nat.add_assoc, hc (j * 6 + 4) (by omega)]; exact f 4 (by omega)
  · rw [Nat.add_assoc, hc (j * 6 + 5) (by omega)]; exact f 5 (by omega)

/-! ### what is right -/
theorem nm_size {s : ByteArray} (h : nm s = true) : s.size ≤ 32 ∧ s.toList.isEmpty = false := by
  unfold nm at h
  simp only [Bool.and_eq_true, Bool.not_eq_true', decide_eq_true_eq] at h
  exact ⟨h.1.2, h.1.1.1⟩
theorem wrgL_lab {x : Ln} (h : wrgL x = 0) (hl : emp x.lab = false) : nm x.lab = true ∧ emp x.ref = true ∧ isZ x.i = true := by
  unfold wrgL at h
  rw [if_pos hl] at h
  by_cases h1 : nm x.lab = true
  · rw [if_pos h1] at h
    by_cases h2 : emp x.ref = true ∧ isZ x.i = true
    · exact ⟨h1, h2⟩
    · rw [if_neg h2] at h; omega
  · rw [if_neg h1] at h; omega
theorem wrgL_ins {x : Ln} (h : wrgL x = 0) (hl : emp x.lab = true) : wrg x.i = 0 ∧ (emp x.ref = true ∨ (nm x.ref = true ∧ may x.i.o = true ∧ x.i.m = 0)) := by
  unfold wrgL at h
  rw [if_neg (by simp [hl])] at h
  by_cases h1 : wrg x.i = 0
  · rw [if_neg (by simp [h1])] at h
    refine ⟨h1, ?_⟩
    by_cases h2 : emp x.ref = true
    · exact .inl h2
    · rw [if_neg h2] at h
      by_cases h3 : nm x.ref = true
      · rw [if_pos h3] at h
        by_cases h4 : may x.i.o = true ∧ x.i.m = 0
        · exact .inr ⟨h3, h4⟩
        · rw [if_neg h4] at h; omega
      · rw [if_neg h3] at h; omega
  · rw [if_pos h1] at h; exact absurd h h1

/-! ### Places -/
def plc : List Ln → Nat → Nmd → Int → Nmd × Int × Int × Nat
  | [], _, A, n => (A, n, 0, 0)
  | x :: l, k, A, n =>
    if wrgL x = 0 then
      (if emp x.lab = true then (if n + lng x.i.o ≤ 65536 then plc l (k + 1) A (n + lng x.i.o) else ([], 0, 4, k))
      else if hasA A x.lab.toList = true then ([], 0, 7, k) else plc l (k + 1) (A ++ [(x.lab.toList, n)]) n)
    else ([], 0, wrgL x, k)
def plcA (l : List Ln) : Nmd × Int × Int × Nat := if l.length ≤ 40000 then plc l 0 [] 0 else ([], 0, 5, 0)
end Go.Proofs.YtodfjomglgmffaaGreatDoor
