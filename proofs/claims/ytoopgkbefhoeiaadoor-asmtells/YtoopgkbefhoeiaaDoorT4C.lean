/-
  The document's answer on lines: Show. (Where 9 is it.)
-/
import Derived.Test.YtoopgkbefhoeiaaDoorT4A
import Derived.Test.YtoopgkbefhoeiaaDoorT4B
import Derived.Test.YtoopgkbefhoeiaaDoorShL
import Derived.Lib.AppendStr
import Derived.Lib.SlBytesConst
import Derived.Laws.IdiomStrings
import Derived.Laws.BytesArg
namespace Go.Proofs.YtoopgkbefhoeiaaDoor
open Go.RowKit
set_option linter.unusedSimpArgs false
set_option linter.unusedVariables false

theorem Tryd.infoByte4 : (Tryd.prog.info? 5).map (fun i => (i.zero, i.size, i.bytes)) = some (some (.int .u8 0), 1, 1) := by kernel_rfl
theorem join_cons4 (t t2 : List UInt8) (ts : List (List UInt8)) : Lib.join (t :: t2 :: ts) [44, 32] = t ++ 44 :: 32 :: Lib.join (t2 :: ts) [44, 32] := by
  unfold Lib.join
  simp [List.intercalate]
theorem join_one4 (t : List UInt8) : Lib.join [t] [44, 32] = t := by unfold Lib.join; simp [List.intercalate]
theorem join_snoc4 : ∀ (F : List (List UInt8)) (t : List UInt8), F ≠ [] → Lib.join (F ++ [t]) [44, 32] = Lib.join F [44, 32] ++ 44 :: 32 :: t
  | [], _, h => absurd rfl h
  | [a], t, _ => by show Lib.join (a :: t :: []) [44, 32] = _; rw [join_cons4, join_one4, join_one4]
  | a :: b :: F, t, _ => by
    show Lib.join (a :: b :: (F ++ [t])) [44, 32] = _
    rw [join_cons4, join_cons4, show b :: (F ++ [t]) = (b :: F) ++ [t] from rfl, join_snoc4 (b :: F) t (by simp)]
    simp
/-- A line's text, ahead of its end, with these fields. -/
def lnS (kw : List UInt8) (F : List (List UInt8)) : List UInt8 := 9 :: (kw ++ (if F = [] then [] else 32 :: Lib.join F [44, 32]))
def spS (F : List (List UInt8)) : List UInt8 := if F = [] then [32] else [44, 32]
theorem lnS_snoc (kw : List UInt8) (F : List (List UInt8)) (t : List UInt8) : lnS kw (F ++ [t]) = lnS kw F ++ spS F ++ t := by
  unfold lnS spS
  rw [if_neg (by simp)]
  by_cases h : F = []
  · subst h
    rw [if_pos rfl, if_pos rfl, List.nil_append, join_one4]; simp
  · rw [if_neg h, if_neg h, join_snoc4 F t h]; simp
theorem spS_snoc (F : List (List UInt8)) (t : List UInt8) : spS (F ++ [t]) = [44, 32] := by unfold spS; rw [if_neg (by simp)]
theorem spS_len (F : List (List UInt8)) : (spS F).length ≤ 2 := by unfold spS; split <;> simp
/-- The fields among the first so many letters. -/
def tF (x : Ln) : Nat → List (List UInt8)
  | 0 => []
  | 1 => if hD x.i.o = true then [rgT x.i.d] else []
  | 2 => (if hD x.i.o = true then [rgT x.i.d] else []) ++ (if hS x.i.o = true then [rgT x.i.s] else [])
  | _ => shF x
theorem shL_S (x : Ln) (h : emp x.lab = true) : shL x = lnS (kwO x.i.o) (shF x) ++ [10] := by
  unfold shL lnS
  rw [if_neg (by rw [h]; simp)]
  simp
theorem cat3 {S P D : List UInt8} (hS : S.length ≤ 1000) (hP : P.length ≤ 1000) (hD : D.length ≤ 1000) : ∃ S2 S3 S4 : ByteArray, ba S ++ ba P = S2 ∧ S2 ++ ⟨#[114]⟩ = S3 ∧ S3 ++ ba D = S4 ∧ (¬ 9223372036854775807 < (ba S).size + (ba P).size) ∧ (¬ 9223372036854775807 < S2.size + 1) ∧ (¬ 9223372036854775807 < S3.size + (ba D).size) ∧ Hid (S4 = ba (S ++ P ++ 114 :: D)) := by
  refine ⟨_, _, _, rfl, rfl, rfl, ?_, ?_, ?_, hideI ?_⟩
  · rw [ba_size, ba_size]; omega
  · rw [ba_cat, ba_size, List.length_append]; omega
  · rw [ba_cat, show (⟨#[114]⟩ : ByteArray) = ba [114] from rfl, ba_cat, ba_size, ba_size, List.length_append, List.length_append]; simp; omega
  · rw [ba_cat, show (⟨#[114]⟩ : ByteArray) = ba [114] from rfl, ba_cat, ba_cat]; simp
theorem cat2 {S P D : List UInt8} (hS : S.length ≤ 1000) (hP : P.length ≤ 1000) (hD : D.length ≤ 1000) : ∃ S2 S4 : ByteArray, ba S ++ ba P = S2 ∧ S2 ++ ba D = S4 ∧ (¬ 9223372036854775807 < (ba S).size + (ba P).size) ∧ (¬ 9223372036854775807 < S2.size + (ba D).size) ∧ Hid (S4 = ba (S ++ P ++ D)) := by
  refine ⟨_, _, rfl, rfl, ?_, ?_, hideI ?_⟩
  · rw [ba_size, ba_size]; omega
  · rw [ba_cat, ba_size, ba_size, List.length_append]; omega
  · rw [ba_cat, ba_cat]
theorem lnS_len {x : Ln} {j : Nat} (h0 : 0 ≤ x.i.o) (h1 : x.i.o ≤ 32) (hf : fits4 x) (hr : x.ref.size ≤ 32) : (lnS (kwO x.i.o) (tF x j)).length ≤ 200 := by
  have hk := kwO_len x.i.o h0 h1
  have hj := (shF_len hf hr).2
  have e1 : hD x.i.o = true → (rgT x.i.d).length ≤ 6 := fun e => by have := itoa_len (hf.1 e); unfold rgT; simp; omega
  have e2 : hS x.i.o = true → (rgT x.i.s).length ≤ 6 := fun e => by have := itoa_len (hf.2.1 e); unfold rgT; simp; omega
  have hj2 : (Lib.join (tF x j) [44, 32]).length ≤ 100 := by
    match j with
    | 0 => exact Nat.zero_le _
    | 1 =>
      show (Lib.join (if hD x.i.o = true then [rgT x.i.d] else []) [44, 32]).length ≤ 100
      by_cases a : hD x.i.o = true
      · rw [if_pos a, join_one4]; have := e1 a; omega
      · rw [if_neg a]; exact Nat.zero_le _
    | 2 =>
      show (Lib.join ((if hD x.i.o = true then [rgT x.i.d] else []) ++ (if hS x.i.o = true then [rgT x.i.s] else [])) [44, 32]).length ≤ 100
      by_cases a : hD x.i.o = true
      · rw [if_pos a]
        have a1 := e1 a
        by_cases b : hS x.i.o = true
        · rw [if_pos b, join_snoc4 _ _ (by simp), join_one4]; have := e2 b; simp; omega
        · rw [if_neg b, List.append_nil, join_one4]; omega
      · rw [if_neg a, List.nil_append]
        by_cases b : hS x.i.o = true
        · rw [if_pos b, join_one4]; have := e2 b; omega
        · rw [if_neg b]; exact Nat.zero_le _
    | n + 3 => exact hj
  unfold lnS
  split
  · simp; omega
  · simp; omega
theorem back4 (w : World) (l : List UInt8) (v : Value) (h : Lies w 1 v l.length (Lib.byteCells l)) : (convert 40 9 v).run Tryd.prog w = .ok (.string (ba l)) w := by
  obtain ⟨-, ao, cap, rfl, -, -, -, h5⟩ := h
  cases ao with
  | none =>
    have hl : l = [] := by
      by_cases e : l.length = 0
      · exact List.eq_nil_of_length_eq_zero e
      · obtain ⟨b, off, h6, -⟩ := h5 e; cases h6
    subst hl
    exact run_convert_bytes_nil w _ 5 Tryd.underlying40 Tryd.underlying5 _ _ _ Tryd.underlying9
  | some a =>
    refine run_convert_bytes_back w _ _ 5 a cap l Tryd.underlying40 Tryd.underlying5 Tryd.underlying9 (fun j hj => ?_)
    obtain ⟨b, off, h6, -, h7⟩ := h5 (by omega)
    injection h6 with h6
    subst h6
    have := h7 j (by omega)
    have hp : (⟨b, off, none⟩ : Addr).add j = ⟨b, off + j, none⟩ := by unfold Addr.add; split <;> simp_all
    rw [hp, this]
    simp [Lib.byteCells, hj]
end Go.Proofs.YtoopgkbefhoeiaaDoor
