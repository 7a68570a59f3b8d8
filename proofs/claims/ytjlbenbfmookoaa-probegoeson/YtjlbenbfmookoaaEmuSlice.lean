/-
  A region that draws its order: bytes from a place on; a call beside a block that is made.
-/
import Derived.Test.YtjlbenbfmookoaaAlive3
import Derived.Test.YtjlbenbfmookoaaReg
namespace Go.Proofs.Ytjlbenbfmookoaa
open Go.RowKit
set_option linter.unusedSimpArgs false
set_option linter.unusedVariables false

/-- Bytes from a place on. -/
def sliceV (io : Option Addr) (n cap r : Nat) : Value := match io with
  | none => .slice none (n - r) (cap - r)
  | some ad => if cap = r then .slice (some ad) (n - r) 0 else .slice (some (ad.add r)) (n - r) (cap - r)
set_option maxRecDepth 100000 in
theorem steady_slice {ops : Array Oper} {C : World → Prop} {R : Act → Prop} {rest : List Oper} {o : Oper} {a : Act} (hw : Region.wanted o (yielded ops a.tmps) = true) (x y : Operand) (ho : o.op = .slice 28 x (some y) none none) (io : Option Addr) (n cap r : Nat)
    (hx : a.eval x = .slice io n cap) (hy : a.eval y = .int .i64 r) (hr : r ≤ n) (hn : n ≤ cap) (hnil : io = none → cap = 0) (hmax : cap ≤ 2 ^ 63 - 1)
    (h : wpSteady Try.prog ops C R rest (a.put o.dst (sliceV io n cap r))) : wpSteady Try.prog ops C R (o :: rest) a := by
  unfold wpSteady
  rw [if_pos hw]
  refine ⟨_, fun w _ => ?_, h⟩
  have hr2 : (r : Int) ≤ n := by omega
  have hr3 : (n : Int) ≤ cap := by omega
  cases io with
  | none =>
    have hc := hnil rfl
    subst hc
    have hn0 : n = 0 := by omega
    subst hn0
    have hr0 : r = 0 := by omega
    subst hr0
    unfold execOp sliceV
    simp only [ho, Option.map_some, Option.map_none, hx, hy]
    go_simp
  | some ad =>
    unfold execOp sliceV
    simp only [ho, Option.map_some, Option.map_none, hx, hy]
    by_cases hc : cap = r
    · subst hc
      go_simp
    · go_simp
theorem byts_from {w : World} {io : Option Addr} {cap : Nat} {bs : List Int} {r : Nat} (h : Byts w (.slice io bs.length cap) bs) (hr : r ≤ bs.length) : Byts w (sliceV io bs.length cap r) (bs.drop r) := by
  obtain ⟨h1, ao, cap', e, h3, h4, h6, h5⟩ := h
  simp only [Value.slice.injEq] at e
  obtain ⟨rfl, _, rfl⟩ := e
  unfold Byts
  rw [List.length_drop]
  cases io with
  | none =>
    have hc := h6 rfl
    unfold sliceV
    dsimp only
    refine ⟨by simp, none, _, rfl, by omega, by omega, (fun _ => by omega), fun hn => (by exfalso; omega)⟩
  | some ad =>
    unfold sliceV
    dsimp only
    by_cases hc : cap = r
    · rw [if_pos hc]
      refine ⟨by simp, some ad, 0, rfl, by omega, by omega, (fun h => by cases h), fun hn => (by exfalso; omega)⟩
    · rw [if_neg hc]
      refine ⟨by simp, _, _, rfl, by omega, by omega, (fun h => by cases h), fun hn => ?_⟩
      obtain ⟨b, off, e2, hb, hcell⟩ := h5 (by omega)
      have e3 : ad = ⟨b, off, none⟩ := by simpa using e2
      subst e3
      refine ⟨b, off + r, by unfold Addr.add; split <;> simp_all, hb, fun j hj => ?_⟩
      rw [Nat.add_assoc, hcell (r + j) (by omega), List.getElem?_map, List.getElem?_map, List.getElem?_drop]

/-- An operation whose guard holds. -/
theorem one_wanted {P : Program} {ops : Array Oper} {Q : Exit → Act → World → Prop} {o : Oper} {a : Act} {w : World} (hw : Region.wanted o (yielded ops a.tmps) = true) (h : o.wp P a w (fun a' w' => Q .normal a' w') Q) : wpList P ops Q [o] a w := by
  unfold wpList
  rw [if_pos hw]
  exact .inl h
end Go.Proofs.Ytjlbenbfmookoaa
