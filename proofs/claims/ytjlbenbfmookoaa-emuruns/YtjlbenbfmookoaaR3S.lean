/-
  The document's machine: what every step begins with.
-/
import Derived.Test.YtjlbenbfmookoaaR3C
import Derived.Test.YtjlbenbfmookoaaFourz
import Derived.Test.YtjlbenbfmookoaaR1S
import Derived.Test.YtjlbenbfmookoaaReg
import Derived.Test.YtjlbenbfmookoaaEmuS
import Derived.Test.YtjlbenbfmookoaaEmuT
namespace Go.Proofs.Ytjlbenbfmookoaa
open Go.RowKit
set_option linter.unusedSimpArgs false
set_option linter.unusedVariables false

/-- One has been asked, and a place for what it tells may be made. -/
structure OneS (w : World) (f : Bool) (pi : Nat) (W : World) : Prop where
  kw : Below w.heap.size w W
  bx : f = true → Box W pi [.int .i64 0, .int .i64 0, .int .i64 0, .int .i64 0] ∧ w.heap.size ≤ pi
theorem OneS.start (w : World) : OneS w false 0 w.drew := ⟨(Below.refl _ _).drew, fun h => by cases h⟩
theorem OneS.call {w W W' : World} {f : Bool} {pi : Nat} (h : OneS w f pi W) (k : Below W.heap.size W W') : OneS w f pi W' := ⟨h.kw.trans (k.mono h.kw.size), fun e => ⟨(h.bx e).1.step k, (h.bx e).2⟩⟩
theorem OneS.al {w W : World} {pi : Nat} {T : TypeId} (h : OneS w false pi W) : OneS w true W.heap.size (W.alloc (.cells #[.int .i64 0, .int .i64 0, .int .i64 0, .int .i64 0] T)) :=
  ⟨h.kw.trans ((below_a W _).mono h.kw.size), fun _ => ⟨Box.new W #[.int .i64 0, .int .i64 0, .int .i64 0, .int .i64 0] T, h.kw.size⟩⟩
theorem reg_meet1 {G R : Nat → World → Prop} {p : Prop} (h1 : (∀ a W, R a W → G a W) → p) (h2 : ∀ a W, R a W → G a W) : p := h1 h2
theorem Box.four {w : World} {b : Nat} {a0 a1 a2 a3 : Value} (h : Box w b [a0, a1, a2, a3]) (b0 b1 b2 b3 : Value) : Box ((((w.setCell ⟨b, 0, none⟩ b0).setCell ⟨b, 1, none⟩ b1).setCell ⟨b, 2, none⟩ b2).setCell ⟨b, 3, none⟩ b3) b [b0, b1, b2, b3] :=
  (((h.set (j := 0) (u := b0) (by simp)).set (j := 1) (u := b1) (by simp)).set (j := 2) (u := b2) (by simp)).set (j := 3) (u := b3) (by simp)
/-- What stands beside the machine while it does a step: the instruction, and the flags as they were. -/
structure SX (w0 w W : World) (p q n : Nat) (vc vm vi vo : Value) (m : Ma) (ms xs bs : List Int) (pi pf : Nat) (o d s mm : Int) (c z nn v : Bool) : Prop where
  bx : BX w0 W p q n vc vm vi vo m ms xs bs
  I : Box W pi [.int .i64 o, .int .i64 d, .int .i64 s, .int .i64 mm]
  F : Box W pf [.bool c, .bool z, .bool nn, .bool v]
  li : w.heap.size ≤ pi
  lf : w.heap.size ≤ pf
  lp : p < w.heap.size
  lq : q < w.heap.size
section
variable {w0 w W W' : World} {p q n : Nat} {vc vm vi vo : Value} {m m' : Ma} {ms xs bs : List Int} {pi pf : Nat} {o d s mm : Int} {c z nn v : Bool}
theorem SX.step (h : SX w0 w W p q n vc vm vi vo m ms xs bs pi pf o d s mm c z nn v) (k : Below W.heap.size W W') : SX w0 w W' p q n vc vm vi vo m ms xs bs pi pf o d s mm c z nn v := ⟨h.bx.step k, h.I.step k, h.F.step k, h.li, h.lf, h.lp, h.lq⟩
theorem SX.kept {n' : Nat} {vo' : Value} (h : SX w0 w W p q n vc vm vi vo m ms xs bs pi pf o d s mm c z nn v) (k : Kept W W' p q) (b : BX w0 W' p q n' vc vm vi vo' m' ms xs bs) : SX w0 w W' p q n' vc vm vi vo' m' ms xs bs pi pf o d s mm c z nn v :=
  ⟨b, h.I.kept k (by have := h.li; have := h.lp; omega) (by have := h.li; have := h.lq; omega), h.F.kept k (by have := h.lf; have := h.lp; omega) (by have := h.lf; have := h.lq; omega), h.li, h.lf, h.lp, h.lq⟩
end
theorem Bits.kept {w w' : World} {b p q : Nat} {f : Nat → Bool} (h : Bits w b f) (k : Kept w w' p q) (h1 : b ≠ p) (h2 : b ≠ q) : Bits w' b f := by unfold Bits; rw [k.2 b h.lt h1 h2]; exact h
theorem BX.qw {w0 w : World} {p q n : Nat} {vc vm vi vo : Value} {m : Ma} {ms xs bs : List Int} (h : BX w0 w p q n vc vm vi vo m ms xs bs) : q < w.heap.size := by obtain ⟨f, h1, _⟩ := h.map; exact h1.lt
theorem BX.grow {w0 w w3 : World} {p q n : Nat} {vc vm vi vo v3 : Value} {m : Ma} {ms xs bs : List Int} {x : Int} (h : BX w0 w p q n vc vm vi vo m ms xs bs)
    (own3 : w3.ownsRow w0.heap.size 5 1 v3 (m.out.length + 1) (m.out.map byte1 ++ [byte1 x])) (g : w.grownBy w3 vo.ownBlock) (hat : v3.ownBlock = vo.ownBlock ∨ v3.ownBlock = some w.heap.size)
    (hx : 0 ≤ x ∧ x ≤ 255) (hl : m.out.length < 65536) : BX w0 (w3.setCell ⟨p, 18, none⟩ v3) p q n vc vm vi v3 { m with out := m.out ++ [x] } ms xs bs := by
  have hqw := h.qw
  have bp : w3.heap[p]? = w.heap[p]? := g.block p h.box.1 fun e => (h.ho p e.symm).1 rfl
  have bq : w3.heap[q]? = w.heap[q]? := g.block q hqw fun e => (h.ho q e.symm).2 rfl
  have hne : ∀ k, v3.ownBlock = some k → k ≠ p ∧ k ≠ q := fun k hk => by
    rcases hat with e | e
    · exact h.ho k (by rw [← e]; exact hk)
    · rw [e] at hk
      have e1 : w.heap.size = k := by simpa using hk
      have := h.box.1
      omega
  have bx : Box w3 p (cellsX m vc vm (.map (some q)) vi vo) :=
    ⟨Nat.lt_of_lt_of_le h.box.1 g.size, fun j u hu => by rw [World.cell?_of_block (w := w) (a := ⟨p, j, none⟩) bp]; exact h.box.2.1 j u hu, fun j => by rw [World.frozen?_of_block (w := w) (a := ⟨p, j, none⟩) bp]; exact h.box.2.2 j⟩
  exact {
    box := bx.set (j := 18) (u := v3) (by simp [cellsX])
    hp := h.hp
    hq := h.hq
    hpq := h.hpq
    map := by obtain ⟨f, h1, h2⟩ := h.map; exact ⟨f, (h1.blk bq).setCell (Ne.symm h.hpq), h2⟩
    code := h.code
    mem0 := h.mem0
    inp := h.inp
    low := (below_own h.low h.low.size h.own g).setCell h.hp _
    own := by
      have := own_set (b := p) (j := 18) (x := v3) own3 fun k hk => (hne k hk).1
      simpa [byte1] using this
    ho := hne
    fine := { h.fine with
      out := by simp; omega
      told := fun y hy => by
        rcases List.mem_append.1 hy with e | e
        · exact h.fine.told y e
        · simp at e; subst e; exact hx } }
/-- What a step tells. -/
def SRet (w0 : World) (p q n : Nat) (vc vm vi : Value) (ms xs bs : List Int) (how : Int) (m : Ma) (e : Ending) (w' : World) : Prop := ∃ vo' n', e = .returned (.int .i64 how) ∧ n' ≤ n + 1 ∧ BX w0 w' p q n' vc vm vi vo' m ms xs bs
theorem reg_said {P : Program} {md : Region.Mode} {ops : Array Oper} {Q : Exit → Act → World → Prop} {C : World → Prop} {f : Nat} {l : Array Bool} {a : Act} {w : World} (l' : Array Bool) (h : l = l') (k : wpAnyC P md ops Q C f l' a w) : wpAnyC P md ops Q C f l a w := by subst h; exact k
end Go.Proofs.Ytjlbenbfmookoaa
