/-
  Texts: all tokens of a text.
-/
import Derived.Test.YtonekpoblgigpaaDoorSoF
import Derived.Test.YtonekpoblgigpaaDoorMem2
namespace Go.Proofs.YtonekpoblgigpaaDoor
open Go.RowKit
set_option linter.unusedSimpArgs false
set_option linter.unusedVariables false

/-- A text's tokens, what is wrong, and where. -/
def tks : Nat → List UInt8 → Nat → List Tk → List Tk × Int × Int
  | 0, _, _, acc => (acc, 0, 0)
  | _ + 1, [], _, acc => (acc, 0, 0)
  | f + 1, x :: l, a, acc => if blk x = true then tks f l (a + 1) acc else if isR (x :: l) = true then tks f ((x :: l).drop (rmk (x :: l))) (a + rmk (x :: l)) acc else if (tok1 (x :: l)).1 = 0 then tks f ((x :: l).drop (tok1 (x :: l)).2.2) (a + (tok1 (x :: l)).2.2) (acc ++ [{ (tok1 (x :: l)).2.1 with at_ := (a : Int) }]) else ([], (tok1 (x :: l)).1, (a : Int))
theorem num1_len {l : List UInt8} (h : (num1 l).1 = 0) : dlen l ≤ (num1 l).2.2 ∧ (num1 l).2.2 ≤ l.length := by
  have hd := dlen_le l
  unfold num1 at h ⊢
  cases hp : Lib.parseUint10 0 (l.take (dlen l)) with
  | ok n =>
    simp only [hp] at h ⊢
    by_cases hz : (lit n (Lib.hasPrefix (l.drop (dlen l)) [117])).2.2 = 0
    · rw [if_pos hz]
      dsimp only
      by_cases hu : Lib.hasPrefix (l.drop (dlen l)) [117] = true
      · rw [if_pos hu]
        refine ⟨by omega, ?_⟩
        by_cases hq : dlen l < l.length
        · omega
        · rw [List.drop_eq_nil_of_le (by omega)] at hu; simp [Lib.hasPrefix] at hu
      · rw [if_neg hu]; omega
    · rw [if_neg hz] at h; exact absurd h hz
  | «syntax» => simp only [hp] at h; omega
  | range => simp only [hp] at h; omega
theorem tok1_len {x : UInt8} {r : List UInt8} (h : (tok1 (x :: r)).1 = 0) : 1 ≤ (tok1 (x :: r)).2.2 ∧ (tok1 (x :: r)).2.2 ≤ (x :: r).length := by
  rw [tok1_cons] at h ⊢
  by_cases h1 : ltr (ch x) = true
  · rw [if_pos h1]
    dsimp only
    refine ⟨?_, wlen_le _⟩
    rw [wlen, if_pos (by unfold wch; rw [h1]; rfl)]; omega
  · rw [if_neg h1] at h ⊢
    by_cases h2 : dgt (ch x) = true
    · rw [if_pos h2] at h ⊢
      have := num1_len h
      rw [dlen, if_pos h2] at this
      omega
    · rw [if_neg h2] at h ⊢
      unfold sgn1 at h ⊢
      cases hf : sgP.find? (fun p => Lib.hasPrefix (x :: r) p) with
      | none => simp only [hf] at h; omega
      | some p =>
        simp only [hf]
        have hm := List.mem_of_find?_eq_some hf
        have hp := List.find?_some hf
        have h1 : ∀ p ∈ sgP, 1 ≤ p.length := by decide
        refine ⟨h1 p hm, ?_⟩
        simp only [Lib.hasPrefix] at hp
        exact (List.isPrefixOf_iff_prefix.1 hp).length_le
theorem tks_fuel : ∀ f r a acc, r.length ≤ f → tks (f + 1) r a acc = tks f r a acc
  | 0, r, a, acc, h => by
    have : r = [] := List.eq_nil_of_length_eq_zero (by omega)
    subst this; rfl
  | f + 1, [], a, acc, _ => rfl
  | f + 1, x :: l, a, acc, h => by
    have hl : l.length ≤ f := by simpa using h
    rw [tks, tks]
    by_cases h1 : blk x = true
    · rw [if_pos h1, if_pos h1]; exact tks_fuel f l _ _ hl
    · rw [if_neg h1, if_neg h1]
      by_cases h2 : isR (x :: l) = true
      · rw [if_pos h2, if_pos h2]
        have := rmk_pos h2
        exact tks_fuel f _ _ _ (by rw [List.length_drop]; simp; omega)
      · rw [if_neg h2, if_neg h2]
        by_cases h3 : (tok1 (x :: l)).1 = 0
        · rw [if_pos h3, if_pos h3]
          have := (tok1_len h3).1
          exact tks_fuel f _ _ _ (by rw [List.length_drop]; simp; omega)
        · rw [if_neg h3, if_neg h3]
theorem tks_skip : ∀ g r a acc f, r.length ≤ g → r.length ≤ f → tks f r a acc = tks f (r.drop (skp g r)) (a + skp g r) acc
  | 0, r, a, acc, f, h, _ => by rw [skp]; rfl
  | g + 1, [], a, acc, f, _, _ => by rw [skp]; rfl
  | g + 1, x :: l, a, acc, 0, _, hf => by simp at hf
  | g + 1, x :: l, a, acc, f + 1, hg, hf => by
    have hl : l.length ≤ f := by simpa using hf
    have hlg : l.length ≤ g := by simpa using hg
    rw [skp]
    by_cases h1 : blk x = true
    · rw [if_pos h1, tks, if_pos h1, tks_skip g l _ _ f hlg hl, List.drop_succ_cons, tks_fuel f _ _ _ (by rw [List.length_drop]; omega)]
      congr 1; omega
    · rw [if_neg h1]
      by_cases h2 : isR (x :: l) = true
      · have hp := rmk_pos h2
        have e1 : ((x :: l).drop (rmk (x :: l))).length ≤ g := by rw [List.length_drop]; simp; omega
        have e2 : ((x :: l).drop (rmk (x :: l))).length ≤ f := by rw [List.length_drop]; simp; omega
        rw [if_pos h2, tks, if_neg h1, if_pos h2, tks_skip g _ _ _ f e1 e2, List.drop_drop, tks_fuel f _ _ _ (by rw [List.length_drop]; simp; omega), Nat.add_assoc]
      · rw [if_neg h2]; rfl
/-- Nothing to pass by. -/
def stp (r : List UInt8) : Prop := match r with | [] => True | x :: l => blk x = false ∧ isR (x :: l) = false
theorem skp_stp : ∀ (g : Nat) (r : List UInt8), r.length ≤ g → stp (r.drop (skp g r))
  | 0, r, h => by
    have : r = [] := List.eq_nil_of_length_eq_zero (by omega)
    subst this; trivial
  | g + 1, [], _ => trivial
  | g + 1, x :: l, h => by
    have hl : l.length ≤ g := by simpa using h
    rw [skp]
    by_cases h1 : blk x = true
    · rw [if_pos h1, List.drop_succ_cons]; exact skp_stp g l hl
    · rw [if_neg h1]
      by_cases h2 : isR (x :: l) = true
      · have hp := rmk_pos h2
        rw [if_pos h2, ← List.drop_drop]
        exact skp_stp g _ (by rw [List.length_drop]; simp; omega)
      · rw [if_neg h2]; exact ⟨by simpa using h1, by simpa using h2⟩
def tksA (l : List UInt8) : List Tk × Int × Int := if 65536 < l.length then ([], 4, 0) else tks l.length l 0 []
def Tks (w : World) (v : Value) (ts : List Tk) : Prop := Lies w 6 v ts.length (ts.flatMap cT)
def TokRet (w : World) (R : List Tk × Int × Int) (e : Ending) (w' : World) : Prop := ∃ v, e = .returned (.tuple #[v, .agg #[.int .i64 R.2.1, .int .i64 R.2.2]]) ∧ Tks w' v R.1 ∧ Below w.heap.size w w'
theorem cT_one (t : Tk) : ∀ u ∈ cT t, u.oneCell' = true := by intro u hu; simp [cT] at hu; rcases hu with rfl | rfl | rfl | rfl | rfl | rfl <;> rfl
theorem Tryd.infoTok : (Tryd.prog.info? 33).map (fun i => (i.zero, i.size, i.bytes)) = some (some (.agg #[.int .i64 0, .string ⟨#[]⟩, .int .u64 0, .int .i64 0, .bool false, .int .i64 0]), 6, 56) := by kernel_rfl
theorem own_tok {u : World} {B : Nat} {v : Value} {P : List Tk} {p : Tk} {n : Nat} {cs : List Value} (h : u.ownsRow B 33 6 v n cs) (e : cs = P.flatMap cT ++ cT p) (hn : n = P.length + 1) : u.ownsRow B 33 6 v (P ++ [p]).length ((P ++ [p]).flatMap cT) := by
  have h1 : (P ++ [p]).length = n := by rw [hn]; simp
  rw [h1, List.flatMap_append]
  rw [e] at h
  simpa using h
end Go.Proofs.YtonekpoblgigpaaDoor
