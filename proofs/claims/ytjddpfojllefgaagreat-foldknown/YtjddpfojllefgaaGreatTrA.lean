/-
  Programs as trees: expressions, statements, functions; how they lie in memory.
-/
import Derived.Test.YtjddpfojllefgaaGreatMem
namespace Go.Proofs.YtjddpfojllefgaaGreat
open Go.RowKit
set_option linter.unusedSimpArgs false
set_option linter.unusedVariables false

/-- An expression: its kind, number, type, name and kids. -/
inductive Ex where
  | mk (k n b : Int) (s : Bool) (nm : ByteArray) (kids : List Ex)
def Ex.k : Ex → Int | .mk k _ _ _ _ _ => k
def Ex.n : Ex → Int | .mk _ n _ _ _ _ => n
def Ex.b : Ex → Int | .mk _ _ b _ _ _ => b
def Ex.s : Ex → Bool | .mk _ _ _ s _ _ => s
def Ex.nm : Ex → ByteArray | .mk _ _ _ _ nm _ => nm
def Ex.kids : Ex → List Ex | .mk _ _ _ _ _ l => l
theorem Ex.ind {P : Ex → Prop} (h : ∀ x : Ex, (∀ y ∈ x.kids, P y) → P x) : ∀ x, P x
  | .mk k n b s nm l => h _ fun y hy => by
    have : SizeOf.sizeOf y < SizeOf.sizeOf l := List.sizeOf_lt_of_mem hy
    exact Ex.ind h y
termination_by x => SizeOf.sizeOf x
decreasing_by simp; omega
/-- The cells of an expression whose kids lie at kv. -/
def exC (x : Ex) (kv : Value) : List Value := [.int .i64 x.k, .int .u64 x.n, .int .i64 x.b, .bool x.s, .string x.nm, kv]
def exCs (xs : List Ex) (ks : List Value) : List Value := (xs.zip ks).flatMap fun p => exC p.1 p.2
/-- What Go can have in an expression's own fields. -/
def ExF (x : Ex) : Prop := (0 ≤ x.n ∧ x.n ≤ 18446744073709551615) ∧ x.nm.size ≤ maxLen
/-- Expressions in memory, in blocks below B. -/
inductive ExL (B : Nat) (w : World) : Value → List Ex → Prop
  | mk (v : Value) (xs : List Ex) (ks : List Value) (hl : ks.length = xs.length) (hv : ∀ c, v.ownBlock = some c → xs ≠ [] → c < B) (lies : Lies w 6 v xs.length (exCs xs ks)) (ok : ∀ x ∈ xs, ExF x) (kids : ∀ i (h : i < xs.length), ExL B w (ks[i]'(by omega)) xs[i].kids) : ExL B w v xs

/-- A statement. -/
inductive Sm where
  | mk (k b : Int) (s : Bool) (nm : ByteArray) (has : Bool) (x i : Ex) (init step body els : List Sm)
def Sm.k : Sm → Int | .mk k _ _ _ _ _ _ _ _ _ _ => k
def Sm.b : Sm → Int | .mk _ b _ _ _ _ _ _ _ _ _ => b
def Sm.s : Sm → Bool | .mk _ _ s _ _ _ _ _ _ _ _ => s
def Sm.nm : Sm → ByteArray | .mk _ _ _ nm _ _ _ _ _ _ _ => nm
def Sm.has : Sm → Bool | .mk _ _ _ _ h _ _ _ _ _ _ => h
def Sm.x : Sm → Ex | .mk _ _ _ _ _ x _ _ _ _ _ => x
def Sm.i : Sm → Ex | .mk _ _ _ _ _ _ i _ _ _ _ => i
def Sm.init : Sm → List Sm | .mk _ _ _ _ _ _ _ l _ _ _ => l
def Sm.step : Sm → List Sm | .mk _ _ _ _ _ _ _ _ l _ _ => l
def Sm.body : Sm → List Sm | .mk _ _ _ _ _ _ _ _ _ l _ => l
def Sm.els : Sm → List Sm | .mk _ _ _ _ _ _ _ _ _ _ l => l
theorem Sm.ind {P : Sm → Prop} (h : ∀ x : Sm, (∀ y ∈ x.init, P y) → (∀ y ∈ x.step, P y) → (∀ y ∈ x.body, P y) → (∀ y ∈ x.els, P y) → P x) : ∀ x, P x
  | .mk k b s nm has x i li ls lb le => h _
    (fun y hy => by have : SizeOf.sizeOf y < SizeOf.sizeOf li := List.sizeOf_lt_of_mem hy; exact Sm.ind h y)
    (fun y hy => by have : SizeOf.sizeOf y < SizeOf.sizeOf ls := List.sizeOf_lt_of_mem hy; exact Sm.ind h y)
    (fun y hy => by have : SizeOf.sizeOf y < SizeOf.sizeOf lb := List.sizeOf_lt_of_mem hy; exact Sm.ind h y)
    (fun y hy => by have : SizeOf.sizeOf y < SizeOf.sizeOf le := List.sizeOf_lt_of_mem hy; exact Sm.ind h y)
termination_by x => SizeOf.sizeOf x
decreasing_by all_goals (simp; omega)
/-- What a statement's lists and its expressions' kids are in memory. -/
structure Sv where
  xk : Value
  ik : Value
  init : Value
  step : Value
  body : Value
  els : Value
def smC (x : Sm) (v : Sv) : List Value := [.int .i64 x.k, .int .i64 x.b, .bool x.s, .string x.nm, .bool x.has] ++ exC x.x v.xk ++ exC x.i v.ik ++ [v.init, v.step, v.body, v.els]
def smCs (xs : List Sm) (ks : List Sv) : List Value := (xs.zip ks).flatMap fun p => smC p.1 p.2
def SmF (x : Sm) : Prop := x.nm.size ≤ maxLen ∧ ExF x.x ∧ ExF x.i
/-- Statements in memory, in blocks below B. -/
inductive SmL (B : Nat) (w : World) : Value → List Sm → Prop
  | mk (v : Value) (xs : List Sm) (ks : List Sv) (hl : ks.length = xs.length) (hv : ∀ c, v.ownBlock = some c → xs ≠ [] → c < B) (lies : Lies w 21 v xs.length (smCs xs ks)) (ok : ∀ x ∈ xs, SmF x)
      (hx : ∀ i (h : i < xs.length), ExL B w (ks[i]'(by omega)).xk xs[i].x.kids) (hi : ∀ i (h : i < xs.length), ExL B w (ks[i]'(by omega)).ik xs[i].i.kids)
      (h1 : ∀ i (h : i < xs.length), SmL B w (ks[i]'(by omega)).init xs[i].init) (h2 : ∀ i (h : i < xs.length), SmL B w (ks[i]'(by omega)).step xs[i].step)
      (h3 : ∀ i (h : i < xs.length), SmL B w (ks[i]'(by omega)).body xs[i].body) (h4 : ∀ i (h : i < xs.length), SmL B w (ks[i]'(by omega)).els xs[i].els) : SmL B w v xs

theorem zip_flat {α β : Type} {n : Nat} {c : α → β → List Value} (hc : ∀ x y, (c x y).length = n) : ∀ (l : List α) (m : List β) (hl : m.length = l.length) (i : Nat) (h : i < l.length) (j : Nat), j < n → ((l.zip m).flatMap fun p => c p.1 p.2)[i * n + j]? = (c (l[i]'h) (m[i]'(by omega)))[j]?
  | [], _, _, i, h, _, _ => by simp at h
  | x :: l, [], hl, _, _, _, _ => by simp at hl
  | x :: l, y :: m, hl, 0, h, j, hj => by
    rw [List.zip_cons_cons, List.flatMap_cons, List.getElem?_append_left (by rw [hc]; omega)]; simp
  | x :: l, y :: m, hl, i + 1, h, j, hj => by
    have ih := zip_flat hc l m (by simpa using hl) i (by simpa using h) j hj
    rw [List.zip_cons_cons, List.flatMap_cons, List.getElem?_append_right (by rw [hc, Nat.add_mul]; omega)]
    rw [show (i + 1) * n + j - (c x y).length = i * n + j by rw [hc, Nat.add_mul]; omega, ih]
    simp
theorem lies_below {B : Nat} {w w' : World} {s n : Nat} {v : Value} {cs : List Value} (h : Lies w s v n cs) (hv : n ≠ 0 → ∀ c, v.ownBlock = some c → c < B) (k : Below B w w') : Lies w' s v n cs := by
  obtain ⟨h1, ao, cap, h2, h3, h4, h6, h5⟩ := h
  refine ⟨h1, ao, cap, h2, h3, h4, h6, fun hn => ?_⟩
  obtain ⟨b, off, e, hb, hc⟩ := h5 hn
  have hbB : b < B := hv hn b (by rw [h2, e]; rfl)
  exact ⟨b, off, e, Nat.lt_of_lt_of_le hb k.size, fun j hj => by rw [k.cell (p := ⟨b, off + j, none⟩) hbB]; exact hc j hj⟩
theorem ExL.step {B : Nat} {w w' : World} {v : Value} {xs : List Ex} (h : ExL B w v xs) (k : Below B w w') : ExL B w' v xs := by
  induction h with
  | mk v xs ks hl hv lies ok kids ih => exact .mk v xs ks hl hv (lies_below lies (fun hn c hc => hv c hc (fun e => hn (by rw [e]; rfl))) k) ok ih
theorem SmL.step {B : Nat} {w w' : World} {v : Value} {xs : List Sm} (h : SmL B w v xs) (k : Below B w w') : SmL B w' v xs := by
  induction h with
  | mk v xs ks hl hv lies ok hx hi h1 h2 h3 h4 i1 i2 i3 i4 => exact .mk v xs ks hl hv (lies_below lies (fun hn c hc => hv c hc (fun e => hn (by rw [e]; rfl))) k) ok (fun i h => (hx i h).step k) (fun i h => (hi i h).step k) i1 i2 i3 i4
/-- What a walk reads of expressions in memory. -/
theorem ExL.at {B : Nat} {w : World} {v : Value} {xs : List Ex} (h : ExL B w v xs) : ∃ ao cap, v = .slice ao xs.length cap ∧ xs.length ≤ maxLen ∧ (xs ≠ [] → ∃ b off, ao = some ⟨b, off, none⟩ ∧ b < B ∧ b < w.heap.size ∧ ∀ j (hj : j < xs.length), ∃ kv, ExL B w kv (xs[j]'hj).kids ∧ ExF (xs[j]'hj) ∧
    w.cell? ⟨b, off + j * 6, none⟩ = some (.int .i64 (xs[j]'hj).k) ∧ w.cell? ⟨b, off + j * 6 + 1, none⟩ = some (.int .u64 (xs[j]'hj).n) ∧ w.cell? ⟨b, off + j * 6 + 2, none⟩ = some (.int .i64 (xs[j]'hj).b) ∧ w.cell? ⟨b, off + j * 6 + 3, none⟩ = some (.bool (xs[j]'hj).s) ∧ w.cell? ⟨b, off + j * 6 + 4, none⟩ = some (.string (xs[j]'hj).nm) ∧ w.cell? ⟨b, off + j * 6 + 5, none⟩ = some kv) := by
  cases h with
  | mk v xs ks hl hv lies ok kids =>
    obtain ⟨h1, ao, cap, rfl, h3, h4, h6, h5⟩ := lies
    refine ⟨ao, cap, rfl, Nat.le_trans h3 h4, fun hn => ?_⟩
    obtain ⟨b, off, rfl, hb, hc⟩ := h5 (by intro e; exact hn (List.eq_nil_of_length_eq_zero e))
    refine ⟨b, off, rfl, hv b rfl hn, hb, fun j hj => ⟨ks[j]'(by omega), kids j hj, ok _ (List.getElem_mem hj), ?_⟩⟩
    have at6 : ∀ t, t < 6 → w.cell? ⟨b, off + (j * 6 + t), none⟩ = (exC (xs[j]'hj) (ks[j]'(by omega)))[t]? := fun t ht => by
      rw [hc (j * 6 + t) (by have : j * 6 + 6 ≤ xs.length * 6 := by omega
                             omega)]
      exact zip_flat (n := 6) (c := exC) (fun _ _ => rfl) xs ks hl j hj t ht
    exact ⟨at6 0 (by decide), by rw [Nat.add_assoc]; exact at6 1 (by decide), by rw [Nat.add_assoc]; exact at6 2 (by decide), by rw [Nat.add_assoc]; exact at6 3 (by decide), by rw [Nat.add_assoc]; exact at6 4 (by decide), by rw [Nat.add_assoc]; exact at6 5 (by decide)⟩
/-- What a walk reads of statements in memory. -/
theorem SmL.at {B : Nat} {w : World} {v : Value} {xs : List Sm} (h : SmL B w v xs) : ∃ ao cap, v = .slice ao xs.length cap ∧ xs.length ≤ maxLen ∧ (xs ≠ [] → ∃ b off, ao = some ⟨b, off, none⟩ ∧ b < B ∧ b < w.heap.size ∧ ∀ j (hj : j < xs.length), ∃ sv : Sv, SmF (xs[j]'hj) ∧ ExL B w sv.xk (xs[j]'hj).x.kids ∧ ExL B w sv.ik (xs[j]'hj).i.kids ∧ SmL B w sv.init (xs[j]'hj).init ∧ SmL B w sv.step (xs[j]'hj).step ∧ SmL B w sv.body (xs[j]'hj).body ∧ SmL B w sv.els (xs[j]'hj).els ∧
    ∀ t, t < 21 → w.cell? ⟨b, off + j * 21 + t, none⟩ = (smC (xs[j]'hj) sv)[t]?) := by
  cases h with
  | mk v xs ks hl hv lies ok hx hi h1' h2' h3' h4' =>
    obtain ⟨h1, ao, cap, rfl, h3, h4, h6, h5⟩ := lies
    refine ⟨ao, cap, rfl, Nat.le_trans h3 h4, fun hn => ?_⟩
    obtain ⟨b, off, rfl, hb, hc⟩ := h5 (by intro e; exact hn (List.eq_nil_of_length_eq_zero e))
    refine ⟨b, off, rfl, hv b rfl hn, hb, fun j hj => ⟨ks[j]'(by omega), ok _ (List.getElem_mem hj), hx j hj, hi j hj, h1' j hj, h2' j hj, h3' j hj, h4' j hj, fun t ht => ?_⟩⟩
    rw [Nat.add_assoc, hc (j * 21 + t) (by have : j * 21 + 21 ≤ xs.length * 21 := by omega
                                           omega)]
    exact zip_flat (n := 21) (c := smC) (fun _ _ => rfl) xs ks hl j hj t ht
end Go.Proofs.YtjddpfojllefgaaGreat
