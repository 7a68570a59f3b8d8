/-
  The document's answer on rows of words: Words, walked.
-/
import Derived.Test.YtmjnihepgglbdaaWcW
import Derived.Test.YtmjnihepgglbdaaReg
import Derived.Deep.DeepCutAuto
import Derived.Laws.AppendOwnNone
namespace Go.Proofs.Ytmjnihepgglbdaa
open Go.RowKit
set_option linter.unusedSimpArgs false
set_option linter.unusedVariables false

theorem pow_big {n : Nat} (h : n ≤ 64) : (0 : Int) < 2 ^ n ∧ (2 : Int) ^ n ≤ 18446744073709551616 := p64 h
theorem sgw_abs {n : Nat} {z : Int} (h : n ≤ 64) (hz : 0 ≤ z ∧ z < 2 ^ n) : (sgw n z).natAbs ≤ 18446744073709551616 := by
  obtain ⟨a, b⟩ := p64 h
  unfold sgw
  split <;> omega
theorem dok {m : Nat} {z : Int} (h1 : 1 ≤ m) (h4 : m ≤ 4) (hz0 : -18446744073709551616 < z) (hz : z < 2 * 2 ^ (16 * m)) : DivOk z.natAbs ((2 : Int) ^ (16 * m)).natAbs := by
  have hm : m = 1 ∨ m = 2 ∨ m = 3 ∨ m = 4 := by omega
  have b8 : (2 * 18446744073709551616 : Int) < 4294967296 ^ 6 := by decide
  have b9 : (2 * 18446744073709551616 : Int) < 4294967296 ^ 8 := by decide
  rcases hm with rfl | rfl | rfl | rfl
  · exact divOk_short (by omega) (by decide) (by decide) (.inr (.inr (by decide)))
  · exact divOk_short (by omega) (by decide) (by decide) (.inr (.inl (by omega)))
  · exact divOk_short (by omega) (by decide) (by decide) (.inr (.inl (by omega)))
  · have := divOk_w (n := 64) (x := z.natAbs) (by unfold IsW; omega) (by omega) (by omega)
    rw [md_64] at this
    exact this

theorem own_tn {w w' : World} {B n p : Nat} {v : Value} {cs : List Value} (h : w.ownsRow B 3 1 v n cs) (k : Tn p w w') (hp : IntAt w p) : w'.ownsRow B 3 1 v n cs := by
  refine ⟨h.1, ?_⟩
  rcases h.2 with hn | ⟨g, cap, cur, rfl, hb, hg, q⟩
  · exact .inl hn
  · refine .inr ⟨g, cap, cur, rfl, hb, ?_, q⟩
    rw [k.block g (Array.getElem?_eq_some_iff.1 hg).1 ?_]; exact hg
    rintro rfl
    obtain ⟨s, u, e⟩ := hp
    rw [hg] at e
    simp at e
theorem own_ty {w : World} {B n : Nat} {v : Value} {cs : List Value} (h : w.ownsRow B 3 1 v n cs) (g : Nat) (hg : v.ownBlock = some g) : ∃ c, w.heap[g]? = some (.cells c 3 (0, 0)) := by
  rcases h.2 with ⟨rfl, _⟩ | ⟨g', cap, cur, rfl, hb, hh, q⟩
  · cases hg
  · cases hg
    exact ⟨cur, hh⟩
theorem Big.grown {w w' : World} {B n p : Nat} {v : Value} {cs : List Value} {z : Int} (h : Big w p z) (ho : w.ownsRow B 3 1 v n cs) (k : w.grownBy w' v.ownBlock) : Big w' p z := by
  have hl := h.lt
  obtain ⟨u, e1, L, hR, hI⟩ := h
  have ne : ∀ b T c f, T ≠ 3 → w.heap[b]? = some (.cells c T f) → some b ≠ v.ownBlock := by
    intro b T c f hT hb he
    obtain ⟨c', e⟩ := own_ty ho b he.symm
    rw [hb] at e
    injection e with e
    injection e with _ e _
    exact hT e
  refine ⟨u, by rw [k.block p hl (ne p _ _ _ (by decide) e1)]; exact e1, L, ?_, hI⟩
  rcases hR with hR | ⟨d, cap, cs, fz, g1, g2, g3, g4, g5⟩
  · exact .inl hR
  · exact .inr ⟨d, cap, cs, fz, g1, g2, g3, by rw [k.block d (Array.getElem?_eq_some_iff.1 g4).1 (ne d _ _ _ (by decide) g4)]; exact g4, g5⟩
theorem Box.tn {w w' : World} {b p : Nat} {cs : List Value} (h : Box w b cs) (k : Tn p w w') (hb : b ≠ p) : Box w' b cs :=
  ⟨Nat.lt_of_lt_of_le h.1 k.size, fun j u hu => by rw [World.cell?_of_block (w := w) (a := ⟨b, j, none⟩) (k.block b h.1 hb)]; exact h.2.1 j u hu, fun j => by rw [World.frozen?_of_block (w := w) (a := ⟨b, j, none⟩) (k.block b h.1 hb)]; exact h.2.2 j⟩
/-- The words of a number. -/
def rdl (r : Int) (k : Nat) : List Int := (List.range k).map fun i => r / 65536 ^ i % 65536
theorem rdl_succ (r : Int) (k : Nat) : (rdl r (k + 1)).map int1 = (rdl r k).map int1 ++ [.int .i64 (r / 65536 ^ k % 65536)] := by
  unfold rdl
  rw [List.range_succ, List.map_append, List.map_append]
  rfl
theorem rdl_len (r : Int) (k : Nat) : (rdl r k).length = k := by simp [rdl]
/-- What comes back. -/
def RwRet (m : Nat) (z s : Int) (w : World) (e : Ending) (w' : World) : Prop := ∃ v, e = .returned (.tuple #[v, .agg #[(.bool (decide (z < 0) || decide (2 ^ (16 * m) ≤ z))), .bool (decide (z % 2 ^ (16 * m) = 0)), .bool (decide (2 ^ (16 * m - 1) ≤ z % 2 ^ (16 * m))), .bool (sgw (16 * m) (z % 2 ^ (16 * m)) != s)], .int .i64 0]) ∧ Below w.heap.size w w' ∧ Ints w' v (rdl (z % 2 ^ (16 * m)) m)
theorem cm_ge (x y : Int) : decide (0 ≤ cm x y) = decide (y ≤ x) := by unfold cm; rw [decide_eq_decide]; repeat' split <;> omega
theorem cm_ne (x y : Int) : (cm x y != 0) = (x != y) := by
  rw [Bool.eq_iff_iff, bne_iff_ne, bne_iff_ne]
  unfold cm
  split
  · constructor <;> intro _ <;> omega
  · split
    · constructor <;> intro _ <;> omega
    · constructor <;> intro _ <;> omega
theorem sign_z (x : Int) : (x.sign == 0) = decide (x = 0) := by
  rw [Bool.eq_iff_iff, beq_iff_eq, decide_eq_true_eq, Int.sign_eq_zero_iff_zero]
/-- On the way through the flags: the place for them may be made. -/
structure Wst (W0 : World) (f : Bool) (pf : Nat) (W : World) : Prop where
  kw : Below W0.heap.size W0 W
  bx : f = true → Box W pf [.bool false, .bool false, .bool false, .bool false] ∧ W0.heap.size ≤ pf
section
variable {W0 W W' : World} {f : Bool} {pf : Nat}
theorem Wst.call (h : Wst W0 f pf W) (k : Below W.heap.size W W') : Wst W0 f pf W' := ⟨h.kw.trans (k.mono h.kw.size), fun e => ⟨(h.bx e).1.step k, (h.bx e).2⟩⟩
theorem Wst.al {T : TypeId} (h : Wst W0 false pf W) : Wst W0 true W.heap.size (W.alloc (.cells #[.bool false, .bool false, .bool false, .bool false] T)) :=
  ⟨h.kw.trans ((below_a W _).mono h.kw.size), fun _ => ⟨Box.new W #[.bool false, .bool false, .bool false, .bool false] T, h.kw.size⟩⟩
end
theorem wst_start (W0 : World) : Wst W0 false 0 W0.drew := ⟨bdw (Below.refl _ _) 1, fun h => by cases h⟩
theorem reg_meetW {G R : Nat → Nat → Nat → Nat → World → Prop} {p : Prop} (h1 : (∀ a b c d W, R a b c d W → G a b c d W) → p) (h2 : ∀ a b c d W, R a b c d W → G a b c d W) : p := h1 h2
theorem reg_meetV {G R : Nat → Nat → Nat → World → Prop} {p : Prop} (h1 : (∀ a b c W, R a b c W → G a b c W) → p) (h2 : ∀ a b c W, R a b c W → G a b c W) : p := h1 h2
theorem reg_said {P : Program} {md : Region.Mode} {ops : Array Oper} {Q : Exit → Act → World → Prop} {C : World → Prop} {f : Nat} {l : Array Bool} {a : Act} {w : World} (l' : Array Bool) (h : l = l') (k : wpAnyC P md ops Q C f l' a w) : wpAnyC P md ops Q C f l a w := by subst h; exact k
theorem drewB {w w' : World} (h : ∃ k, w' = w.drewN k) : Below w.heap.size w w' := by obtain ⟨k, rfl⟩ := h; exact bdw (Below.refl _ _) k
theorem rs_split (i : Nat) (h : i < 4) : i / 2 ≤ 1 ∧ (16 * (i % 2) = 0 ∨ 16 * (i % 2) = 16) ∧ 32 * (i / 2) + 16 * (i % 2) = 16 * i := by omega
end Go.Proofs.Ytmjnihepgglbdaa
