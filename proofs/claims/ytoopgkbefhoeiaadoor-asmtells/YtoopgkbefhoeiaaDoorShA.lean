/-
  The library's Itoa and the builder's WriteString, as the walks want them.
-/
import Derived.Test.YtoopgkbefhoeiaaDoorShG
namespace Go.Proofs.YtoopgkbefhoeiaaDoor
open Go.RowKit
set_option linter.unusedSimpArgs false
set_option linter.unusedVariables false

theorem itoa_any (n : Int) (h0 : -9223372036854775808 ≤ n) (h1 : n ≤ 9223372036854775807) (w : World) (G : Gl w) : Calls Tryd.prog 44 #[.int .i64 n] w fun e w' => e = .returned (.string (ba (Lib.itoa n))) ∧ Below w.heap.size w w' := by
  refine (Tryd.strconv_Itoa n h0 h1 w G.tab).mono ?_
  rintro e w2 ⟨rfl, q, os, rfl⟩
  exact ⟨rfl, Lib.below_grow w.heap.size w (Nat.le_refl _) q os⟩
theorem write_any (B b : Nat) (bs : List Value) (s : ByteArray) (w : World) (h : Lib.IsBuilder 45 5 B b bs w) (hlen : bs.length + s.size ≤ 140737488355328) (hBw : B ≤ w.heap.size) : Calls Tryd.prog 19 #[.pointer (some ⟨b, 0, none⟩), .string s] w fun e w' => e = .returned (.tuple #[.int .i64 s.size, .nilIface]) ∧ Lib.IsBuilder 45 5 B b (bs ++ Lib.strCells s) w' ∧ Below B w w' := by
  refine (Any.Builder_WriteString (P := Tryd.prog) (ρ := Tryd.lays156_ren) { Tryd.lays156 with } Tryd.Builder_Extra_156 B b bs s w h hlen hBw).mono ?_
  rintro e w2 ⟨rfl, h1, h2⟩
  exact ⟨rfl, .inr h1, h2⟩
theorem builder_step {T e : TypeId} {B b : Nat} {bs : List Value} {w w' : World} (h : Lib.IsBuilder T e B b bs w) (k : Below w.heap.size w w') : Lib.IsBuilder T e B b bs w' := by
  have key : ∀ p, Lib.BuilderAt T e B b p bs w → Lib.BuilderAt T e B b p bs w' := fun p h => by
    have hlt := h.lt
    obtain ⟨hB, v, hb, ho, hne⟩ := h
    exact ⟨hB, v, by rw [k.block b hlt]; exact hb, own_step ho k, hne⟩
  exact h.imp (key _) (key _)
/-- A field that is a register. -/
def rgT (n : Int) : List UInt8 := 114 :: Lib.itoa n
/-- The fields of a line as they are written. -/
def shF (x : Ln) : List (List UInt8) := (if hD x.i.o = true then [rgT x.i.d] else []) ++ (if hS x.i.o = true then [rgT x.i.s] else []) ++ (if hI x.i.o = true then [if emp x.ref = true then Lib.itoa x.i.m else x.ref.toList] else [])
/-- Fields that are used are numbers of 16 bits. -/
def fits4 (x : Ln) : Prop := (hD x.i.o = true → 0 ≤ x.i.d ∧ x.i.d ≤ 65535) ∧ (hS x.i.o = true → 0 ≤ x.i.s ∧ x.i.s ≤ 65535) ∧ (hI x.i.o = true → 0 ≤ x.i.m ∧ x.i.m ≤ 65535)
theorem ba_cat (a b : List UInt8) : ba a ++ ba b = ba (a ++ b) := by
  have h : ∀ a b : ByteArray, a.data = b.data → a = b := fun a b h => by cases a; cases b; exact congrArg _ h
  apply h
  rw [ByteArray.data_append]
  simp [ba]
theorem itoa_len {n : Int} (h : 0 ≤ n ∧ n ≤ 65535) : (Lib.itoa n).length ≤ 5 := by
  obtain ⟨k, rfl⟩ : ∃ k : Nat, n = k := ⟨n.toNat, by omega⟩
  rw [Lib.itoa_nonneg, Lib.decDigits_length]
  exact nDig5 (by omega)
theorem itoa_size {n : Int} (h : 0 ≤ n ∧ n ≤ 65535) : ¬ (9223372036854775807 < 1 + (ba (Lib.itoa n)).size) := by
  have := itoa_len h
  rw [ba_size]
  omega
theorem ba_toList (s : ByteArray) : ba s.toList = s := by rw [ByteArray.toList_eq]; exact ba_of s
end Go.Proofs.YtoopgkbefhoeiaaDoor
