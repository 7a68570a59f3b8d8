/-
  Blocks that may turn; what Resolve makes of lines, whatever tells where labels lie.
-/
import Derived.Test.YtodfjomglgmffaaGreatDoorAsP
import Derived.Test.YtodfjomglgmffaaGreatDoorFour
namespace Go.Proofs.YtodfjomglgmffaaGreatDoor
open Go.RowKit Go.Maps
set_option linter.unusedSimpArgs false
set_option linter.unusedVariables false

/-- All blocks but those of X are as they were. -/
structure Kpt (X : Nat → Prop) (w w' : World) : Prop where
  os : w'.os = w.os
  tape : w'.tape = w.tape
  output : w'.output = w.output
  size : w.heap.size ≤ w'.heap.size
  block : ∀ k, k < w.heap.size → ¬ X k → w'.heap[k]? = w.heap[k]?
theorem Kpt.refl (X : Nat → Prop) (w : World) : Kpt X w w := ⟨rfl, rfl, rfl, Nat.le_refl _, fun _ _ _ => rfl⟩
theorem Kpt.of {X : Nat → Prop} {w w' : World} (h : Below w.heap.size w w') : Kpt X w w' := ⟨h.os, h.tape, h.output, h.size, fun k hk _ => h.block k hk⟩
theorem Kpt.trans {X Y Z : Nat → Prop} {a b c : World} (h : Kpt X a b) (k : Kpt Y b c) (hX : ∀ n, X n → Z n) (hY : ∀ n, Y n → n < a.heap.size → Z n) : Kpt Z a c :=
  ⟨k.os.trans h.os, k.tape.trans h.tape, k.output.trans h.output, Nat.le_trans h.size k.size, fun n hn hz => by rw [k.block n (Nat.lt_of_lt_of_le hn h.size) (fun y => hz (hY n y hn)), h.block n hn (fun x => hz (hX n x))]⟩
theorem Kpt.below {X : Nat → Prop} {w w' : World} {B : Nat} (h : Kpt X w w') (hB : B ≤ w.heap.size) (hX : ∀ n, X n → B ≤ n) : Below B w w' := ⟨h.os, h.tape, h.output, h.size, fun k hk => h.block k (by omega) (fun x => by have := hX k x; omega)⟩
theorem Kpt.cell {X : Nat → Prop} {w w' : World} (h : Kpt X w w') {b o : Nat} (hb : b < w.heap.size) (hx : ¬ X b) : w'.cell? ⟨b, o, none⟩ = w.cell? ⟨b, o, none⟩ := by
  unfold World.cell?; rw [h.block b hb hx]
theorem Kpt.frozen {X : Nat → Prop} {w w' : World} (h : Kpt X w w') {b o : Nat} (hb : b < w.heap.size) (hx : ¬ X b) : w'.frozen? ⟨b, o, none⟩ = w.frozen? ⟨b, o, none⟩ := by
  unfold World.frozen?; rw [h.block b hb hx]
theorem Box.kpt {X : Nat → Prop} {w w' : World} {b : Nat} {cs : List Value} (h : Box w b cs) (k : Kpt X w w') (hx : ¬ X b) : Box w' b cs :=
  ⟨Nat.lt_of_lt_of_le h.1 k.size, fun j u hu => by rw [k.cell h.1 hx]; exact h.2.1 j u hu, fun j => by rw [k.frozen h.1 hx]; exact h.2.2 j⟩
theorem Mp.kpt {X : Nat → Prop} {w w' : World} {b : Nat} {A : Nmd} (h : Mp w b A) (k : Kpt X w w') (hx : ¬ X b) : Mp w' b A := by
  have hl := h.lt
  obtain ⟨D, ⟨es, c, h1, h2⟩, h3⟩ := h
  exact ⟨D, ⟨es, c, by rw [k.block b hl hx]; exact h1, h2⟩, h3⟩
theorem own_kpt {X : Nat → Prop} {w w' : World} {B e s n : Nat} {v : Value} {cs : List Value} (h : w.ownsRow B e s v n cs) (k : Kpt X w w') (hx : ∀ c, v.ownBlock = some c → ¬ X c) : w'.ownsRow B e s v n cs := by
  refine ⟨h.1, ?_⟩
  rcases h.2 with h0 | ⟨g, cap, row, h1, h2, h3, h4⟩
  · exact .inl h0
  · refine .inr ⟨g, cap, row, h1, h2, ?_, h4⟩
    have hg : g < w.heap.size := (Array.getElem?_eq_some_iff.1 h3).1
    rw [k.block g hg (hx g (by rw [h1]; rfl))]; exact h3
theorem Kpt.setCell {X : Nat → Prop} (w : World) {c j : Nat} (v : Value) (hx : X c) : Kpt X w (w.setCell ⟨c, j, none⟩ v) :=
  ⟨rfl, rfl, rfl, by simp, fun k _ hk => by
    have : c ≠ k := fun e => hk (e ▸ hx)
    simp [World.setCell, Array.getElem?_modify, this]⟩
theorem Kpt.grown {X : Nat → Prop} {w w' : World} {row : Option Nat} (h : w.grownBy w' row) (hx : ∀ k, row = some k → X k) : Kpt X w w' :=
  ⟨h.os, h.tape, h.output, h.size, fun k hk hn => h.block k hk (fun e => hn (hx k e.symm))⟩
theorem Kpt.mono {X Y : Nat → Prop} {w w' : World} (h : Kpt X w w') (hxy : ∀ k, X k → Y k) : Kpt Y w w' := ⟨h.os, h.tape, h.output, h.size, fun k hk hn => h.block k hk (fun x => hn (hxy k x))⟩
/-- Resolve, line by line. -/
def rsv {σ : Type} (fnd : σ → List UInt8 → σ × Int × Bool) : List Ln → Nat → σ → List Ins → (List Ins × Int × Nat) × σ
  | [], _, s, acc => ((acc, 0, 0), s)
  | x :: l, k, s, acc =>
    if emp x.lab = false then rsv fnd l (k + 1) s acc
    else if emp x.ref = true then rsv fnd l (k + 1) s (acc ++ [x.i])
    else if (fnd s x.ref.toList).2.2 = true then rsv fnd l (k + 1) (fnd s x.ref.toList).1 (acc ++ [⟨x.i.o, x.i.d, x.i.s, (fnd s x.ref.toList).2.1 % 65536⟩])
    else (([], 6, k), (fnd s x.ref.toList).1)
section
variable {σ : Type} {fnd : σ → List UInt8 → σ × Int × Bool} {x : Ln} {l : List Ln} {k : Nat} {s : σ} {acc : List Ins}
theorem rsv_lab (h : emp x.lab = false) : rsv fnd (x :: l) k s acc = rsv fnd l (k + 1) s acc := by rw [rsv, if_pos h]
theorem rsv_ins (h : emp x.lab = true) (h2 : emp x.ref = true) : rsv fnd (x :: l) k s acc = rsv fnd l (k + 1) s (acc ++ [x.i]) := by rw [rsv, if_neg (by simp [h]), if_pos h2]
theorem rsv_ref (h : emp x.lab = true) (h2 : emp x.ref = false) (h3 : (fnd s x.ref.toList).2.2 = true) : rsv fnd (x :: l) k s acc = rsv fnd l (k + 1) (fnd s x.ref.toList).1 (acc ++ [⟨x.i.o, x.i.d, x.i.s, (fnd s x.ref.toList).2.1 % 65536⟩]) := by rw [rsv, if_neg (by simp [h]), if_neg (by simp [h2]), if_pos h3]
theorem rsv_none (h : emp x.lab = true) (h2 : emp x.ref = false) (h3 : (fnd s x.ref.toList).2.2 = false) : rsv fnd (x :: l) k s acc = (([], 6, k), (fnd s x.ref.toList).1) := by rw [rsv, if_neg (by simp [h]), if_neg (by simp [h2]), if_neg (by simp [h3])]
end
/-- What Resolve hands back, and what the finder has come to. -/
def RsvRet {σ γ : Type} (Inv : σ → γ → World → Prop) (Foot : γ → Nat → Prop) (w : World) (gh0 : γ) (R : (List Ins × Int × Nat) × σ) (e : Ending) (w' : World) : Prop :=
  ∃ vi gh, e = .returned (.tuple #[vi, .agg #[.int .i64 R.1.2.1, .int .i64 R.1.2.2]]) ∧ Inss w' vi R.1.1 ∧ (∀ k, vi.ownBlock = some k → w.heap.size ≤ k ∧ ¬ Foot gh k) ∧ Inv R.2 gh w' ∧ Kpt (Foot gh0) w w' ∧ ∀ k, Foot gh k → Foot gh0 k ∨ w.heap.size ≤ k
end Go.Proofs.YtodfjomglgmffaaGreatDoor
