/-
  Numbers of any size by words of thirty-two bits: no program in sight.
-/
import Derived.WalkKit
namespace Go.Proofs.YtjddpfojllefgaaGreat
open Go.RowKit
set_option linter.unusedSimpArgs false
set_option linter.unusedVariables false

/-- The number that words make, the least first. -/
def vl : List Int → Int
  | [] => 0
  | x :: r => x + 4294967296 * vl r
def Wds (L : List Int) : Prop := ∀ x ∈ L, 0 ≤ x ∧ x ≤ 4294967295
/-- No nought at the end. -/
def Norm (L : List Int) : Prop := ∀ i, L.length = i + 1 → L.getD i 0 ≠ 0

theorem bp_pos (k : Nat) : (0 : Int) < 4294967296 ^ k := Int.pow_pos (by decide)
theorem vl_app : ∀ (L M : List Int), vl (L ++ M) = vl L + 4294967296 ^ L.length * vl M
  | [], M => by simp [vl]
  | x :: r, M => by
    simp only [List.cons_append, vl, vl_app r M, List.length_cons]
    grind
theorem vl_snoc (L : List Int) (x : Int) : vl (L ++ [x]) = vl L + 4294967296 ^ L.length * x := by
  rw [vl_app]; simp [vl]
theorem vl_lo : ∀ {L : List Int}, Wds L → 0 ≤ vl L
  | [], _ => by simp [vl]
  | x :: r, h => by
    have h1 := h x (by simp)
    have h2 := vl_lo (L := r) (fun y hy => h y (by simp [hy]))
    simp only [vl]; omega
theorem vl_hi : ∀ {L : List Int}, Wds L → vl L < 4294967296 ^ L.length
  | [], _ => by simp [vl]
  | x :: r, h => by
    have h1 := h x (by simp)
    have h2 := vl_hi (L := r) (fun y hy => h y (by simp [hy]))
    simp only [vl, List.length_cons, Int.pow_succ]; omega
theorem vl_take (L : List Int) : ∀ i, vl (L.take (i + 1)) = vl (L.take i) + 4294967296 ^ i * L.getD i 0 := by
  induction L with
  | nil => intro i; simp [vl]
  | cons x r ih =>
    intro i
    cases i with
    | zero => simp [vl]
    | succ i =>
      have := ih i
      simp only [List.take_succ_cons, vl, List.getD_cons_succ, Int.pow_succ, this]
      grind
theorem vl_set : ∀ (L : List Int) (k : Nat) (x : Int), k < L.length → vl (L.set k x) = vl L + 4294967296 ^ k * (x - L.getD k 0)
  | [], k, x, h => by simp at h
  | y :: r, 0, x, _ => by simp [vl]; omega
  | y :: r, k + 1, x, h => by
    have := vl_set r k x (by simpa using h)
    simp only [List.set_cons_succ, vl, List.getD_cons_succ, Int.pow_succ, this]
    grind
theorem vl_zero : ∀ (L : List Int), (∀ j, L.getD j 0 = 0) → vl L = 0
  | [], _ => rfl
  | x :: r, h => by
    have h0 := h 0
    have := vl_zero r (fun j => h (j + 1))
    simp at h0
    simp only [vl, h0, this]; omega
theorem vl_rep (n : Nat) : vl (List.replicate n 0) = 0 := by
  refine vl_zero _ fun j => ?_
  rw [List.getD_eq_getElem?_getD, List.getElem?_replicate]
  split <;> rfl
theorem wds_rep (n : Nat) : Wds (List.replicate n 0) := fun x hx => by
  have := List.eq_of_mem_replicate hx
  omega
theorem Wds.set {L : List Int} (h : Wds L) (k : Nat) {x : Int} (hx : 0 ≤ x ∧ x ≤ 4294967295) : Wds (L.set k x) := fun y hy => by
  rcases List.mem_or_eq_of_mem_set hy with h1 | h1
  · exact h y h1
  · rw [h1]; exact hx
theorem Wds.take {L : List Int} (h : Wds L) (k : Nat) : Wds (L.take k) := fun y hy => h y (List.mem_of_mem_take hy)
theorem Wds.drop {L : List Int} (h : Wds L) (k : Nat) : Wds (L.drop k) := fun y hy => h y (List.mem_of_mem_drop hy)
theorem Wds.app {L M : List Int} (h : Wds L) (k : Wds M) : Wds (L ++ M) := fun y hy => by
  rcases List.mem_append.1 hy with h1 | h1
  · exact h y h1
  · exact k y h1
theorem Wds.get {L : List Int} (h : Wds L) (j : Nat) : 0 ≤ L.getD j 0 ∧ L.getD j 0 ≤ 4294967295 := by
  rw [List.getD_eq_getElem?_getD]
  cases e : L[j]? with
  | none => simp
  | some x => exact h x (List.mem_of_getElem? e)
theorem getD_set_ne {L : List Int} {k j : Nat} {x : Int} (h : k ≠ j) : (L.set k x).getD j 0 = L.getD j 0 := by
  rw [List.getD_eq_getElem?_getD, List.getElem?_set_ne h, ← List.getD_eq_getElem?_getD]
theorem getD_set_self {L : List Int} {k : Nat} {x : Int} (h : k < L.length) : (L.set k x).getD k 0 = x := by
  rw [List.getD_eq_getElem?_getD, List.getElem?_set_self h]; rfl
theorem getD_of_lt {L : List Int} {k : Nat} (h : k < L.length) : L[k]? = some (L.getD k 0) := by
  rw [List.getD_eq_getElem?_getD, List.getElem?_eq_getElem h]; rfl
theorem getD_rep (n j : Nat) : (List.replicate n (0 : Int)).getD j 0 = 0 := by
  rw [List.getD_eq_getElem?_getD, List.getElem?_replicate]
  split <;> rfl
/-- Words that make a number, without a nought at the end. -/
def Is (L : List Int) (n : Int) : Prop := Wds L ∧ Norm L ∧ vl L = n
theorem take_norm {L : List Int} (h : Wds L) (n : Nat) (hn : n ≤ L.length) (hz : ∀ j, n ≤ j → L.getD j 0 = 0) (hl : n = 0 ∨ L.getD (n - 1) 0 ≠ 0) : Is (L.take n) (vl L) := by
  refine ⟨h.take n, fun i hi => ?_, ?_⟩
  · rw [List.length_take, Nat.min_eq_left hn] at hi
    subst hi
    rcases hl with e | e
    · omega
    · rw [List.getD_eq_getElem?_getD, List.getElem?_take, if_pos (by omega), ← List.getD_eq_getElem?_getD]; exact e
  · have e := vl_app (L.take n) (L.drop n)
    rw [List.take_append_drop] at e
    have z : vl (L.drop n) = 0 := vl_zero _ fun j => by
      rw [List.getD_eq_getElem?_getD, List.getElem?_drop, ← List.getD_eq_getElem?_getD]; exact hz _ (by omega)
    rw [e, z]; omega
theorem Is.lo {L : List Int} {n : Int} (h : Is L n) : 0 ≤ n := h.2.2 ▸ vl_lo h.1
theorem Is.hi {L : List Int} {n : Int} (h : Is L n) : n < 4294967296 ^ L.length := h.2.2 ▸ vl_hi h.1
theorem is_top {L : List Int} {n : Int} (h : Is L n) {k : Nat} (hk : L.length = k + 1) : 4294967296 ^ k ≤ n := by
  obtain ⟨h1, h2, h3⟩ := h
  have e := vl_take L k
  rw [List.take_of_length_le (by omega), h3] at e
  have a := vl_lo (h1.take k)
  have b := (h1.get k).1
  have c := h2 k hk
  have d : (4294967296 : Int) ^ k * 1 ≤ 4294967296 ^ k * L.getD k 0 := Int.mul_le_mul_of_nonneg_left (by omega) (Int.le_of_lt (bp_pos k))
  omega
theorem bp_le {a b : Nat} (h : a ≤ b) : (4294967296 : Int) ^ a ≤ 4294967296 ^ b := by
  have e : (4294967296 : Int) ^ b = 4294967296 ^ a * 4294967296 ^ (b - a) := by rw [← Int.pow_add]; congr 1; omega
  have := bp_pos (b - a)
  have g := Int.mul_le_mul_of_nonneg_left (show (1 : Int) ≤ 4294967296 ^ (b - a) by omega) (Int.le_of_lt (bp_pos a))
  omega
/-- A number has as many words as it wants. -/
theorem Is.len {L : List Int} {n : Int} (h : Is L n) (k : Nat) (hn : n < 4294967296 ^ k) : L.length ≤ k := by
  apply Nat.le_of_not_lt
  intro hl
  have a := is_top h (k := L.length - 1) (by omega)
  have b := bp_le (a := k) (b := L.length - 1) (by omega)
  omega
theorem Is.nil {n : Int} (h : Is [] n) : n = 0 := h.2.2.symm
theorem is_nil : Is [] 0 := ⟨fun _ h => by simp at h, fun i hi => by simp at hi, rfl⟩
theorem Is.zero {L : List Int} {n : Int} (h : Is L n) : L.length = 0 ↔ n = 0 := by
  constructor
  · intro e
    have := List.eq_nil_of_length_eq_zero e
    subst this
    exact h.nil
  · intro e
    have := h.len 0 (by rw [e]; decide)
    omega
end Go.Proofs.YtjddpfojllefgaaGreat
