/-
  Rows in memory: a slice whose cells lie there, one that a call owns, and what a step leaves of them.
-/
import Derived.WalkKit
import Derived.Deep.QuietTactic
import Derived.BigQuiet
namespace Go.Proofs.Ytjlbenbfmookoaa
open Go.RowKit
set_option linter.unusedSimpArgs false
set_option linter.unusedVariables false

/-- A slice of n elements, s cells each, whose cells are cs. -/
def Lies (w : World) (s : Nat) (v : Value) (n : Nat) (cs : List Value) : Prop :=
  cs.length = n * s ∧ ∃ ao cap, v = .slice ao n cap ∧ n ≤ cap ∧ cap ≤ maxLen ∧ (ao = none → cap = 0) ∧ (n ≠ 0 → ∃ b off, ao = some ⟨b, off, none⟩ ∧ b < w.heap.size ∧ ∀ j, j < n * s → w.cell? ⟨b, off + j, none⟩ = cs[j]?)

theorem Lies.step {w w' : World} {s n : Nat} {v : Value} {cs : List Value} (h : Lies w s v n cs) (k : Below w.heap.size w w') : Lies w' s v n cs := by
  obtain ⟨h1, ao, cap, h2, h3, h4, h6, h5⟩ := h
  refine ⟨h1, ao, cap, h2, h3, h4, h6, fun hn => ?_⟩
  obtain ⟨b, off, e, hb, hc⟩ := h5 hn
  exact ⟨b, off, e, Nat.lt_of_lt_of_le hb k.size, fun j hj => by rw [k.cell (p := ⟨b, off + j, none⟩) hb]; exact hc j hj⟩
theorem Lies.nil (w : World) (s : Nat) : Lies w s (.slice none 0 0) 0 [] := ⟨by simp, none, 0, rfl, Nat.le_refl _, Nat.zero_le _, fun _ => rfl, fun h => absurd rfl h⟩
theorem Lies.owned {w : World} {B e s n : Nat} {v : Value} {cs : List Value} (h : w.ownsRow B e s v n cs) : Lies w s v n cs := by
  refine ⟨h.1, ?_⟩
  rcases h.2 with ⟨rfl, rfl⟩ | ⟨g, cap, cur, rfl, _, hg, hn, hm, hs, ht⟩
  · exact ⟨none, 0, rfl, Nat.le_refl _, Nat.zero_le _, fun _ => rfl, fun h => absurd rfl h⟩
  · refine ⟨_, cap, rfl, hn, hm, (fun h => by cases h), fun _ => ⟨g, 0, rfl, ?_, fun j hj => ?_⟩⟩
    · exact (Array.getElem?_eq_some_iff.1 hg).1
    · have := World.ownsRow.cellAt (g := g) h j hj
      rw [Nat.zero_add]; exact this
theorem own_step {w w' : World} {B e s n : Nat} {v : Value} {cs : List Value} (h : w.ownsRow B e s v n cs) (k : Below w.heap.size w w') : w'.ownsRow B e s v n cs := by
  refine ⟨h.1, ?_⟩
  rcases h.2 with hn | ⟨g, cap, cur, rfl, hb, hg, r⟩
  · exact .inl hn
  · exact .inr ⟨g, cap, cur, rfl, hb, by rw [k.block g (Array.getElem?_eq_some_iff.1 hg).1]; exact hg, r⟩
/-- The row lies below the heap's end: what was made since is not it. -/
theorem own_else {w u u' : World} {B e s n : Nat} {v : Value} {cs : List Value} (h : w.ownsRow B e s v n cs) (hg : u.grownBy u' v.ownBlock) :
    (∀ b o, w.heap.size ≤ b → b < u.heap.size → u'.cell? ⟨b, o, none⟩ = u.cell? ⟨b, o, none⟩) ∧ (∀ b o, w.heap.size ≤ b → b < u.heap.size → u'.frozen? ⟨b, o, none⟩ = u.frozen? ⟨b, o, none⟩) := by
  have key : ∀ b, w.heap.size ≤ b → b < u.heap.size → u'.heap[b]? = u.heap[b]? := fun b h1 h2 =>
    hg.block b h2 fun e => by have := (h.lt b e.symm).2; omega
  exact ⟨fun b o h1 h2 => World.cell?_of_block (a := ⟨b, o, none⟩) (key b h1 h2), fun b o h1 h2 => World.frozen?_of_block (a := ⟨b, o, none⟩) (key b h1 h2)⟩
theorem below_own {w u u' : World} {B e s n : Nat} {v : Value} {cs : List Value} (hw : Below B w u) (hB : B ≤ u.heap.size) (h : u.ownsRow B e s v n cs) (hg : u.grownBy u' v.ownBlock) : Below B w u' :=
  hw.grown hg hB fun k e => (h.lt k e).1

/-- One value, laid in a block of its own to be appended. -/
theorem one_c1 (u : World) (q : Value) (T : TypeId) : ∀ j x, [q][j]? = some x → (u.alloc (.cells #[q] T)).cell? ((⟨u.heap.size, 0, none⟩ : Addr).add j) = some x := by
  intro j x hj
  match j, hj with
  | 0, hj => simp at hj; subst hj; simp [Addr.add]
theorem one_c2 (k : IntKind) (q : Int) : ∀ u ∈ [Value.int k q], u.oneCell' = true := by intro u hu; simp at hu; subst hu; rfl

def int1 (x : Int) : Value := .int .i64 x
/-- A slice of ints. -/
def Ints (w : World) (v : Value) (xs : List Int) : Prop := Lies w 1 v xs.length (xs.map int1)
theorem Ints.step {w w' : World} {v : Value} {xs : List Int} (h : Ints w v xs) (k : Below w.heap.size w w') : Ints w' v xs := Lies.step h k
theorem Ints.at {w : World} {v : Value} {xs : List Int} (h : Ints w v xs) : ∃ ao cap, v = .slice ao xs.length cap ∧ xs.length ≤ maxLen ∧ (xs ≠ [] → ∃ b off, ao = some ⟨b, off, none⟩ ∧ b < w.heap.size ∧ ∀ j (hj : j < xs.length), w.cell? ⟨b, off + j, none⟩ = some (.int .i64 (xs[j]'hj))) := by
  obtain ⟨_, ao, cap, rfl, h3, h4, _, h5⟩ := h
  refine ⟨ao, cap, rfl, Nat.le_trans h3 h4, fun hn => ?_⟩
  obtain ⟨b, off, rfl, hb, hc⟩ := h5 (by intro h; exact hn (List.eq_nil_of_length_eq_zero h))
  refine ⟨b, off, rfl, hb, fun j hj => ?_⟩
  rw [hc j (by omega), List.getElem?_map, List.getElem?_eq_getElem hj]; rfl

/-- A block of the call's own, by its cells. -/
def Box (w : World) (b : Nat) (cs : List Value) : Prop := b < w.heap.size ∧ (∀ j u, cs[j]? = some u → w.cell? ⟨b, j, none⟩ = some u) ∧ ∀ j, w.frozen? ⟨b, j, none⟩ = false
theorem Box.step {w w' : World} {b : Nat} {cs : List Value} (h : Box w b cs) (k : Below w.heap.size w w') : Box w' b cs :=
  ⟨Nat.lt_of_lt_of_le h.1 k.size, fun j u hu => by rw [k.cell (p := ⟨b, j, none⟩) h.1]; exact h.2.1 j u hu, fun j => by rw [k.frozen (p := ⟨b, j, none⟩) h.1]; exact h.2.2 j⟩
theorem Box.new (w : World) (cs : Array Value) (T : TypeId) : Box (w.alloc (.cells cs T)) w.heap.size cs.toList := by
  refine ⟨by simp, fun j u hu => ?_, fun j => ?_⟩
  · have : cs[j]? = some u := by rw [← Array.getElem?_toList]; exact hu
    simpa [go_sem] using this
  · simp [go_sem]
theorem Box.at4 {w : World} {b : Nat} {a0 a1 a2 a3 : Value} (h : Box w b [a0, a1, a2, a3]) : w.cell? ⟨b, 0, none⟩ = some a0 ∧ w.cell? ⟨b, 1, none⟩ = some a1 ∧ w.cell? ⟨b, 2, none⟩ = some a2 ∧ w.cell? ⟨b, 3, none⟩ = some a3 :=
  ⟨h.2.1 0 _ rfl, h.2.1 1 _ rfl, h.2.1 2 _ rfl, h.2.1 3 _ rfl⟩
theorem Box.at3 {w : World} {b : Nat} {a0 a1 a2 : Value} (h : Box w b [a0, a1, a2]) : w.cell? ⟨b, 0, none⟩ = some a0 ∧ w.cell? ⟨b, 1, none⟩ = some a1 ∧ w.cell? ⟨b, 2, none⟩ = some a2 :=
  ⟨h.2.1 0 _ rfl, h.2.1 1 _ rfl, h.2.1 2 _ rfl⟩
theorem Box.at2 {w : World} {b : Nat} {a0 a1 : Value} (h : Box w b [a0, a1]) : w.cell? ⟨b, 0, none⟩ = some a0 ∧ w.cell? ⟨b, 1, none⟩ = some a1 :=
  ⟨h.2.1 0 _ rfl, h.2.1 1 _ rfl⟩
theorem Box.other {w : World} {b b' j : Nat} {cs : List Value} {u : Value} (h : Box w b cs) (hne : b ≠ b') : Box (w.setCell ⟨b', j, none⟩ u) b cs := by
  refine ⟨by simpa [World.setCell] using h.1, fun i v hv => ?_, fun i => ?_⟩
  · rw [World.cell?_of_block (w := w) (a := ⟨b, i, none⟩) (Below.heap_setCell _ _ _ _ hne)]; exact h.2.1 i v hv
  · rw [World.frozen?_of_block (w := w) (a := ⟨b, i, none⟩) (Below.heap_setCell _ _ _ _ hne)]; exact h.2.2 i
theorem Box.set {w : World} {b j : Nat} {cs : List Value} {u : Value} (h : Box w b cs) (hj : j < cs.length) : Box (w.setCell ⟨b, j, none⟩ u) b (cs.set j u) := by
  refine ⟨by simpa [World.setCell] using h.1, fun i v hv => ?_, fun i => ?_⟩
  · by_cases e : j = i
    · subst e
      have : v = u := by rw [List.getElem?_set_self hj] at hv; simpa using hv.symm
      rw [this]
      exact World.cell?_setCell_same' _ _ _ (by rw [h.2.1 j _ (List.getElem?_eq_getElem hj)]; rfl)
    · rw [List.getElem?_set_ne e] at hv
      rw [World.cell?_setCell_other _ _ _ _ (by intro h; exact e (congrArg Addr.off h))]
      exact h.2.1 i v hv
  · rw [World.frozen?_setCell]; exact h.2.2 i
/-- Nil, or at an address: as what is appended is asked for. -/
theorem Lies.src {w : World} {s n : Nat} {v : Value} {cs : List Value} (h : Lies w s v n cs) : (v = .slice none 0 0 ∧ n = 0 ∧ cs = []) ∨ ∃ ad cap, v = .slice (some ad) n cap ∧ cs.length = n * s ∧ ∀ j u, cs[j]? = some u → w.cell? (ad.add j) = some u := by
  obtain ⟨h1, ao, cap, rfl, h3, h4, h6, h5⟩ := h
  by_cases hn : n = 0
  · subst hn
    have hc : cs = [] := List.eq_nil_of_length_eq_zero (by simpa using h1)
    cases ao with
    | none => have := h6 rfl; subst this; exact .inl ⟨rfl, rfl, hc⟩
    | some ad => exact .inr ⟨ad, cap, rfl, h1, by rw [hc]; intro j u hu; simp at hu⟩
  · obtain ⟨b, off, rfl, hb, hc⟩ := h5 hn
    refine .inr ⟨_, cap, rfl, h1, fun j u hu => ?_⟩
    have hj : j < n * s := by rw [← h1]; exact (List.getElem?_eq_some_iff.1 hu).1
    have e : (⟨b, off, none⟩ : Addr).add j = ⟨b, off + j, none⟩ := by unfold Addr.add; split <;> simp_all
    rw [e, hc j hj]; exact hu
theorem Lies.other {w : World} {s n b j : Nat} {v u : Value} {cs : List Value} (h : Lies w s v n cs) (hne : ∀ k, v.ownBlock = some k → k ≠ b) : Lies (w.setCell ⟨b, j, none⟩ u) s v n cs := by
  obtain ⟨h1, ao, cap, rfl, h3, h4, h6, h5⟩ := h
  refine ⟨h1, ao, cap, rfl, h3, h4, h6, fun hn => ?_⟩
  obtain ⟨c, off, rfl, hb, hc⟩ := h5 hn
  refine ⟨c, off, rfl, by simpa [World.setCell] using hb, fun i hi => ?_⟩
  rw [World.cell?_of_block (w := w) (a := ⟨c, off + i, none⟩) (Below.heap_setCell _ _ _ _ (hne c rfl))]; exact hc i hi
theorem cell_keep {w w' : World} {b o : Nat} {v : Value} (k : Below w.heap.size w w') (hb : b < w.heap.size) (h : w.cell? ⟨b, o, none⟩ = some v) : w'.cell? ⟨b, o, none⟩ = some v := by
  rw [k.cell (p := ⟨b, o, none⟩) hb]; exact h
theorem below_a (w : World) (o : Obj) : Below w.heap.size w (w.alloc o) := (Below.refl _ _).alloc (Nat.le_refl _) _
theorem below_4 {B b : Nat} {u v : World} (h : Below B u v) (hb : B ≤ b) (a0 a1 a2 a3 : Value) : Below B u ((((v.setCell ⟨b, 0, none⟩ a0).setCell ⟨b, 1, none⟩ a1).setCell ⟨b, 2, none⟩ a2).setCell ⟨b, 3, none⟩ a3) :=
  (((h.setCell hb _).setCell hb _).setCell hb _).setCell hb _
theorem below_2 {B b : Nat} {u v : World} (h : Below B u v) (hb : B ≤ b) (a0 a1 : Value) : Below B u ((v.setCell ⟨b, 0, none⟩ a0).setCell ⟨b, 1, none⟩ a1) :=
  (h.setCell hb _).setCell hb _

/-! ### A region that draws its order, reads, and calls what only makes new memory -/
theorem below_cells {W v : World} (h : Below W.heap.size W v) : (∀ b o, b < W.heap.size → v.cell? ⟨b, o, none⟩ = W.cell? ⟨b, o, none⟩) ∧ (∀ b o, b < W.heap.size → v.frozen? ⟨b, o, none⟩ = W.frozen? ⟨b, o, none⟩) :=
  ⟨fun b o hb => h.cell (p := ⟨b, o, none⟩) hb, fun b o hb => h.frozen (p := ⟨b, o, none⟩) hb⟩
theorem wp_region_later {P : Program} {id : Nat} {Q : Exit → Act → World → Prop} {a : Act} {w : World} {l : List Oper} (hm : P.follows .mixedOrders = true) (hB : Region.lexB .any l.toArray = true)
    (h : ∀ (L : Type) [Nonempty L] (lt : L → World), (∀ x b o, b < w.heap.size → (lt x).cell? ⟨b, o, none⟩ = w.cell? ⟨b, o, none⟩) → (∀ x b o, b < w.heap.size → (lt x).frozen? ⟨b, o, none⟩ = w.frozen? ⟨b, o, none⟩) →
      Hid ((∀ x, Below w.heap.size w (lt x)) ∧ (∀ v, Below w.heap.size w v → ∃ x, v = lt x)) →
      wpQuiet P l.toArray (fun w' => ∃ x, w' = lt x) (fun a' => ∀ w', Below w.heap.size w w' → Q .normal a' w') l a) : (Code.region id l.toArray true).wp P Q a w := by
  refine wp_region_quiet (C := fun w' => ∃ x : {v // Below w.heap.size w v}, w' = x.1) hm hB ⟨⟨_, (Below.refl _ _).drew⟩, rfl⟩ ?_
  have : Nonempty {v // Below w.heap.size w v} := ⟨⟨w, Below.refl _ _⟩⟩
  have := h {v // Below w.heap.size w v} (fun x => x.1) (fun x => (below_cells x.2).1) (fun x => (below_cells x.2).2) ⟨fun x => x.2, fun v hv => ⟨⟨v, hv⟩, rfl⟩⟩
  have e : (fun a' => ∀ w', (∃ x : {v // Below w.heap.size w v}, w' = x.1) → Q .normal a' w') = (fun a' => ∀ w', Below w.heap.size w w' → Q .normal a' w') := by
    funext a'
    exact propext ⟨fun k w' hw => k w' ⟨⟨w', hw⟩, rfl⟩, fun k w' ⟨x, hx⟩ => k w' (hx ▸ x.2)⟩
  rw [e]
  simpa using this
theorem later_call {P : Program} {f : FuncId} {args : Array Value} {w : World} {v : Value} {L : Type} {lt : L → World} {x : L} (hl : Hid ((∀ x, Below w.heap.size w (lt x)) ∧ (∀ v, Below w.heap.size w v → ∃ x, v = lt x)))
    (h : Calls P f args (lt x) fun e w' => e = .returned v ∧ Below (lt x).heap.size (lt x) w') : Calls P f args (lt x) fun e w'' => e = .returned v ∧ ∃ y, w'' = lt y :=
  h.mono fun _ _ ⟨he, hb⟩ => ⟨he, hl.2 _ ((hl.1 x).trans (hb.mono (hl.1 x).size))⟩
theorem later_same {P : Program} {f : FuncId} {args : Array Value} {v : Value} {L : Type} {lt : L → World} {x : L}
    (h : Calls P f args (lt x) fun e w' => e = .returned v ∧ w' = lt x) : Calls P f args (lt x) fun e w'' => e = .returned v ∧ ∃ y, w'' = lt y :=
  h.mono fun _ _ ⟨he, hb⟩ => ⟨he, x, hb⟩
end Go.Proofs.Ytjlbenbfmookoaa
