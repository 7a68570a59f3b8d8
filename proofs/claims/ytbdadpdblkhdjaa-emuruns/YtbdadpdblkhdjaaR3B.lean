/-
  The document's machine: a word's bits, and the word of sixteen bits.
-/
import Derived.Test.YtbdadpdblkhdjaaR3A
import Derived.Test.YtbdadpdblkhdjaaEmuZ
import Derived.Test.YtbdadpdblkhdjaaEmuD2
import Derived.Laws.Rows
namespace Go.Proofs.Ytbdadpdblkhdjaa
open Go.RowKit
set_option linter.unusedSimpArgs false
set_option linter.unusedVariables false

/-- Sixteen bits in memory. -/
def bA (f : Nat → Bool) : Array Value := #[.bool (f 0), .bool (f 1), .bool (f 2), .bool (f 3), .bool (f 4), .bool (f 5), .bool (f 6), .bool (f 7), .bool (f 8), .bool (f 9), .bool (f 10), .bool (f 11), .bool (f 12), .bool (f 13), .bool (f 14), .bool (f 15)]
def updB (f : Nat → Bool) (i : Nat) (b : Bool) : Nat → Bool := fun j => if j = i then b else f j
theorem bA_at (f : Nat → Bool) (i : Nat) (h : i < 16) : (bA f)[i]? = some (.bool (f i)) := by
  have : i = 0 ∨ i = 1 ∨ i = 2 ∨ i = 3 ∨ i = 4 ∨ i = 5 ∨ i = 6 ∨ i = 7 ∨ i = 8 ∨ i = 9 ∨ i = 10 ∨ i = 11 ∨ i = 12 ∨ i = 13 ∨ i = 14 ∨ i = 15 := by omega
  rcases this with rfl | rfl | rfl | rfl | rfl | rfl | rfl | rfl | rfl | rfl | rfl | rfl | rfl | rfl | rfl | rfl <;> rfl
theorem bA_set (f : Nat → Bool) (i : Nat) (b : Bool) (h : i < 16) : (bA f).setIfInBounds i (.bool b) = bA (updB f i b) := by
  have : i = 0 ∨ i = 1 ∨ i = 2 ∨ i = 3 ∨ i = 4 ∨ i = 5 ∨ i = 6 ∨ i = 7 ∨ i = 8 ∨ i = 9 ∨ i = 10 ∨ i = 11 ∨ i = 12 ∨ i = 13 ∨ i = 14 ∨ i = 15 := by omega
  rcases this with rfl | rfl | rfl | rfl | rfl | rfl | rfl | rfl | rfl | rfl | rfl | rfl | rfl | rfl | rfl | rfl <;> rfl
theorem bA_congr {f g : Nat → Bool} (h : ∀ j, j < 16 → f j = g j) : bA f = bA g := by
  unfold bA
  rw [h 0 (by decide), h 1 (by decide), h 2 (by decide), h 3 (by decide), h 4 (by decide), h 5 (by decide), h 6 (by decide), h 7 (by decide), h 8 (by decide), h 9 (by decide), h 10 (by decide), h 11 (by decide), h 12 (by decide), h 13 (by decide), h 14 (by decide), h 15 (by decide)]
theorem Try.sizeBits : (Try.prog.info? 99).map (·.size) = some 16 := by kernel_rfl
theorem bA_one (f : Nat → Bool) : (bA f).all (·.oneCell') = true := by simp [bA, Value.oneCell']
/-- A word's bit. -/
def bq (x : Int) (k : Nat) : Bool := decide (x / 2 ^ k % 2 = 1)
/-- The word of bits, from bit k up. -/
def nbF (f : Nat → Bool) : Nat → Nat → Int
  | _, 0 => 0
  | k, n + 1 => oi (f k) + 2 * nbF f (k + 1) n
def nb (f : Nat → Bool) : Int := nbF f 0 16
theorem nbF_b (f : Nat → Bool) : ∀ n k, 0 ≤ nbF f k n ∧ nbF f k n < 2 ^ n
  | 0, k => by simp [nbF]
  | n + 1, k => by
    have ih := nbF_b f n (k + 1)
    have := oi_b (f k)
    rw [nbF, Int.pow_succ]; omega
theorem nb_wd (f : Nat → Bool) : wd (nb f) := by have := nbF_b f 16 0; unfold wd nb; omega
theorem nbF_congr {f g : Nat → Bool} : ∀ n k, (∀ j, j < n → f (k + j) = g (k + j)) → nbF f k n = nbF g k n
  | 0, _, _ => rfl
  | n + 1, k, h => by
    rw [nbF, nbF, show f k = g k from h 0 (by omega), @nbF_congr f g n (k + 1) (fun j hj => by have := h (j + 1) (by omega); rw [← Nat.add_assoc, Nat.add_right_comm] at this; exact this)]
theorem nbF_shift (f : Nat → Bool) (s : Nat) : ∀ n k, nbF (fun j => f (j + s)) k n = nbF f (k + s) n
  | 0, _ => rfl
  | n + 1, k => by rw [nbF, nbF, nbF_shift f s n (k + 1), show k + 1 + s = k + s + 1 by omega]
theorem nbF_split (f : Nat → Bool) : ∀ n k, nbF f k (n + 1) = nbF f k n + 2 ^ n * oi (f (k + n))
  | 0, k => by simp [nbF]
  | n + 1, k => by
    rw [nbF, nbF_split f n (k + 1), nbF, show k + 1 + n = k + (n + 1) by omega, Int.pow_succ]
    grind
theorem nbF_nat (a : Nat) : ∀ n k, nbF (fun j => a.testBit j) k n = ((a / 2 ^ k % 2 ^ n : Nat) : Int)
  | 0, k => by simp [nbF, Nat.mod_one]
  | n + 1, k => by
    rw [nbF, nbF_nat a n (k + 1), Nat.pow_succ' (n := n), Nat.mod_mul, Nat.div_div_eq_div_mul, ← Nat.pow_succ, Nat.testBit_eq_decide_div_mod_eq]
    unfold oi
    have := Nat.mod_two_eq_zero_or_one (a / 2 ^ k)
    rcases this with h | h <;> rw [h] <;> simp
theorem bq_nat (a k : Nat) : bq (a : Int) k = a.testBit k := by
  unfold bq
  rw [Nat.testBit_eq_decide_div_mod_eq, decide_eq_decide]
  rw [show ((a : Int) / 2 ^ k % 2) = ((a / 2 ^ k % 2 : Nat) : Int) by simp]
  omega
/-- The word that has these bits. -/
theorem nb_of {f : Nat → Bool} {a : Nat} (ha : a < 65536) (h : ∀ j, j < 16 → f j = a.testBit j) : nb f = a := by
  unfold nb
  rw [nbF_congr (g := fun j => a.testBit j) 16 0 (fun j hj => by simpa using h j hj), nbF_nat]
  omega
theorem nbF_bq {x : Int} (hx : wd x) (n k : Nat) : nbF (bq x) k n = x / 2 ^ k % 2 ^ n := by
  unfold wd at hx
  obtain ⟨a, rfl⟩ : ∃ a : Nat, x = a := ⟨x.toNat, by omega⟩
  rw [nbF_congr (g := fun j => a.testBit j) n k (fun j _ => bq_nat a _), nbF_nat]
  simp
theorem nb_and {x y : Int} (hx : wd x) (hy : wd y) : nb (fun k => bq x k && bq y k) = andI x y := by
  unfold wd at *
  have e : andI x y = IntKind.i64.wrap (((BitVec.ofInt 64 x &&& BitVec.ofInt 64 y).toNat : Nat) : Int) := rfl
  obtain ⟨a, rfl⟩ : ∃ a : Nat, x = a := ⟨x.toNat, by omega⟩
  obtain ⟨b, rfl⟩ : ∃ b : Nat, y = b := ⟨y.toNat, by omega⟩
  have f1 : (BitVec.ofInt 64 (a : Int)).toNat = a := by rw [BitVec.toNat_ofInt]; omega
  have f2 : (BitVec.ofInt 64 (b : Int)).toNat = b := by rw [BitVec.toNat_ofInt]; omega
  have hb : a &&& b < 2 ^ 16 := Nat.and_lt_two_pow _ (by omega)
  rw [e, BitVec.toNat_and, f1, f2, IntKind.wrap_i64, nb_of hb (fun j _ => by rw [bq_nat, bq_nat, Nat.testBit_and])]
  generalize a &&& b = z at *
  omega
theorem nb_or {x y : Int} (hx : wd x) (hy : wd y) : nb (fun k => bq x k || bq y k) = orI x y := by
  unfold wd at *
  have e : orI x y = IntKind.i64.wrap (((BitVec.ofInt 64 x ||| BitVec.ofInt 64 y).toNat : Nat) : Int) := rfl
  obtain ⟨a, rfl⟩ : ∃ a : Nat, x = a := ⟨x.toNat, by omega⟩
  obtain ⟨b, rfl⟩ : ∃ b : Nat, y = b := ⟨y.toNat, by omega⟩
  have f1 : (BitVec.ofInt 64 (a : Int)).toNat = a := by rw [BitVec.toNat_ofInt]; omega
  have f2 : (BitVec.ofInt 64 (b : Int)).toNat = b := by rw [BitVec.toNat_ofInt]; omega
  have hb : a ||| b < 2 ^ 16 := Nat.or_lt_two_pow (by omega) (by omega)
  rw [e, BitVec.toNat_or, f1, f2, IntKind.wrap_i64, nb_of hb (fun j _ => by rw [bq_nat, bq_nat, Nat.testBit_or])]
  generalize a ||| b = z at *
  omega
theorem nb_xor {x y : Int} (hx : wd x) (hy : wd y) : nb (fun k => bq x k != bq y k) = xorI x y := by
  unfold wd at *
  have e : xorI x y = IntKind.i64.wrap (((BitVec.ofInt 64 x ^^^ BitVec.ofInt 64 y).toNat : Nat) : Int) := rfl
  obtain ⟨a, rfl⟩ : ∃ a : Nat, x = a := ⟨x.toNat, by omega⟩
  obtain ⟨b, rfl⟩ : ∃ b : Nat, y = b := ⟨y.toNat, by omega⟩
  have f1 : (BitVec.ofInt 64 (a : Int)).toNat = a := by rw [BitVec.toNat_ofInt]; omega
  have f2 : (BitVec.ofInt 64 (b : Int)).toNat = b := by rw [BitVec.toNat_ofInt]; omega
  have hb : a ^^^ b < 2 ^ 16 := Nat.xor_lt_two_pow (by omega) (by omega)
  rw [e, BitVec.toNat_xor, f1, f2, IntKind.wrap_i64, nb_of hb (fun j _ => by rw [bq_nat, bq_nat, Nat.testBit_xor])]
  generalize a ^^^ b = z at *
  omega
theorem nb_up {x : Int} (hx : wd x) (c : Bool) {f : Nat → Bool} (h0 : f 0 = c) (h : ∀ j, j < 15 → f (j + 1) = bq x j) : nb f = upb x (oi c) := by
  have e : nb f = oi (f 0) + 2 * nbF f 1 15 := rfl
  rw [e, h0, ← nbF_shift f 1 15 0, nbF_congr (g := bq x) 15 0 (fun j hj => by rw [Nat.zero_add]; exact h j hj), nbF_bq hx]
  unfold upb wd at *
  have := oi_b c
  omega
theorem nb_dn {x : Int} (hx : wd x) (c : Bool) {f : Nat → Bool} (h0 : f 15 = c) (h : ∀ j, j < 15 → f j = bq x (j + 1)) : nb f = dnb x (oi c) := by
  have e : nb f = nbF f 0 15 + 2 ^ 15 * oi (f (0 + 15)) := nbF_split f 15 0
  rw [e, Nat.zero_add, h0, nbF_congr (g := fun j => bq x (j + 1)) 15 0 (fun j hj => by rw [Nat.zero_add]; exact h j hj), nbF_shift (bq x) 1 15 0, nbF_bq hx]
  unfold dnb wd at *
  have := oi_b c
  omega
theorem bq_15 {x : Int} (hx : wd x) : bq x 15 = (x / 32768 == 1) ∧ oi (bq x 15) = x / 32768 := by
  unfold bq oi wd at *
  have e : x / 2 ^ 15 % 2 = x / 32768 := by omega
  rw [e]
  refine ⟨by rw [Bool.eq_iff_iff]; simp, ?_⟩
  by_cases h : x / 32768 = 1
  · rw [if_pos (by simpa using h)]; exact h.symm
  · rw [if_neg (by simpa using h)]; omega
theorem bq_0 (x : Int) : bq x 0 = (x % 2 == 1) := by
  unfold bq
  rw [Bool.eq_iff_iff]; simp
/-- A block of sixteen bits. -/
def Bits (w : World) (b : Nat) (f : Nat → Bool) : Prop := w.heap[b]? = some (.cells (bA f) 99 (0, 0))
section
variable {w w' : World} {b : Nat} {f : Nat → Bool}
theorem Bits.at (h : Bits w b f) (i : Nat) (hi : i < 16) : w.cell? ⟨b, i, none⟩ = some (.bool (f i)) := by rw [cell_of_row w b i _ _ _ h, bA_at f i hi]
theorem Bits.frz (h : Bits w b f) (i : Nat) : w.frozen? ⟨b, i, none⟩ = false := frozen_of_row w b i _ _ h
theorem Bits.lt (h : Bits w b f) : b < w.heap.size := (Array.getElem?_eq_some_iff.1 h).1
theorem Bits.set (h : Bits w b f) (i : Nat) (hi : i < 16) (x : Bool) : Bits (w.setCell ⟨b, i, none⟩ (.bool x)) b (updB f i x) := by
  unfold Bits
  rw [heap_setCell_same w b i _ _ _ h, bA_set f i x hi]
theorem Bits.other {p j : Nat} {u : Value} (h : Bits w b f) (hne : b ≠ p) : Bits (w.setCell ⟨p, j, none⟩ u) b f := by
  unfold Bits
  rw [heap_setCell_other w ⟨p, j, none⟩ b u hne]; exact h
theorem Bits.step (h : Bits w b f) (k : Below w.heap.size w w') : Bits w' b f := by unfold Bits; rw [k.block b h.lt]; exact h
theorem Bits.congr {g : Nat → Bool} (h : Bits w b f) (e : ∀ j, j < 16 → f j = g j) : Bits w b g := by unfold Bits; rw [← bA_congr e]; exact h
end
theorem bits_new (w : World) (f : Nat → Bool) : Bits (w.alloc (.cells (bA f) 99)) w.heap.size f := heap_new _ _
theorem div_pow (x : Int) (i : Nat) : x / 2 ^ i / 2 = x / 2 ^ (i + 1) := by rw [Int.ediv_ediv_of_nonneg (Int.pow_nonneg (by decide)), ← Int.pow_succ]
set_option maxHeartbeats 1000000 in
theorem bits_any (x : Int) (w : World) (hx : wd x) : Calls Try.prog 42 #[.int .i64 x] w fun e w' => e = .returned (.agg (bA (bq x))) ∧ Below w.heap.size w w' := by
  unfold wd at hx
  have B0 := hide (show Bits ((w.alloc (.cells (bA fun _ => false) 99)).alloc (.cells (bA fun _ => false) 99)) (w.heap.size + 1) (fun _ => false) by have := bits_new (w.alloc (.cells (bA fun _ => false) 99)) (fun _ => false); simpa using this)
  have R0 := hide (Bits.step (bits_new w (fun _ => false)) (below_a _ (.cells (bA fun _ => false) 99)))
  have K0 := hide (((Below.refl w.heap.size w).alloc (Nat.le_refl _) (.cells (bA fun _ => false) 99)).alloc (by simp) (.cells (bA fun _ => false) 99))
  have e0 : bA (fun _ => false) = #[.bool false, .bool false, .bool false, .bool false, .bool false, .bool false, .bool false, .bool false, .bool false, .bool false, .bool false, .bool false, .bool false, .bool false, .bool false, .bool false] := rfl
  rw [e0] at B0 R0 K0
  clear e0
  go_enter Try.func42, Try.ntmps42
  go_wp2_with fail
  generalize (w.alloc (.cells #[.bool false, .bool false, .bool false, .bool false, .bool false, .bool false, .bool false, .bool false, .bool false, .bool false, .bool false, .bool false, .bool false, .bool false, .bool false, .bool false] 99)).alloc (.cells #[.bool false, .bool false, .bool false, .bool false, .bool false, .bool false, .bool false, .bool false, .bool false, .bool false, .bool false, .bool false, .bool false, .bool false, .bool false, .bool false] 99) = w1 at *
  go_loopg [0, 5] 16 (fun g y t wr => ∃ i : Nat, i ≤ 16 ∧ g = 16 - i ∧ t = .int .i64 i ∧ y = .int .i64 (x / 2 ^ i) ∧ Hid (Bits wr (w.heap.size + 1) (fun k => decide (k < i) && bq x k)) ∧ Hid (Bits wr w.heap.size (fun _ => false)) ∧ Hid (Below w.heap.size w wr))
  case atStart => exact ⟨0, Nat.zero_le _, rfl, rfl, by simp, hide ((unhide B0).congr (fun j _ => by simp)), R0, K0⟩
  case round =>
    obtain ⟨i, hi, hg, rfl, rfl, hB, hR, hK⟩ := hrel
    clear B0 R0 K0
    by_cases hlt : i < 16
    · have hil : (i : Int) < 16 := by omega
      have c0 := (unhide hB).at i hlt
      have f0 := (unhide hB).frz
      have hpos : (0 : Int) ≤ x / 2 ^ i := Int.ediv_nonneg (by omega) (Int.pow_nonneg (by decide))
      have hle : x / 2 ^ i ≤ x := Int.ediv_le_self _ (by omega)
      have dp := div_pow x i
      have eb : bq x i = (x / 2 ^ i % 2 == 1) := by unfold bq; rw [Bool.eq_iff_iff]; simp
      have B1 := hide (((unhide hB).set i hlt (bq x i)).congr (g := fun k => decide (k < i + 1) && bq x k) (fun j hj => by
        unfold updB
        by_cases e : j = i
        · subst e; simp
        · rw [if_neg e, show decide (j < i + 1) = decide (j < i) from decide_eq_decide.2 (by omega)]))
      have R1 := hide ((unhide hR).other (p := w.heap.size + 1) (j := i) (u := .bool (bq x i)) (by omega))
      have K1 := hide ((unhide hK).setCell (p := ⟨w.heap.size + 1, i, none⟩) (by simp) (.bool (bq x i)))
      rw [eb] at B1 R1 K1
      generalize hz9 : x / 2 ^ (i + 1) = z at *
      have HZ := hide hz9
      clear hz9
      generalize x / 2 ^ i = y at *
      have hz0 : 0 ≤ z ∧ z ≤ 65535 := by omega
      obtain ⟨hz1, hz2⟩ := hz0
      have t1 : y.tmod 2 = y % 2 := Int.tmod_eq_emod_of_nonneg hpos
      have t2 : y.tdiv 2 = z := by rw [Int.tdiv_eq_ediv_of_nonneg hpos]; exact dp
      clear eb hB hR hK
      go_wp2_with fail
      go_roundg (16 - (i + 1))
      case measure => omega
      case rel => exact ⟨i + 1, by omega, rfl, by go_num, by rw [unhide HZ], B1, R1, K1⟩
    · have hil : ¬ (i : Int) < 16 := by omega
      obtain rfl : i = 16 := by omega
      have B1 := hide ((unhide hB).congr (g := bq x) (fun j hj => by simp [hj]))
      clear hB
      go_wp2_with (first | (refine wpList_load_row rfl 99 (.tmp 3) rfl (w.heap.size + 1) rfl _ _ _ _ (unhide B1) Try.underlying99 rfl Try.sizeBits ?_) | (refine wpList_store_row rfl 99 (.tmp 2) (.tmp 16) rfl w.heap.size (bA (bq x)) rfl rfl 99 _ (unhide hR) Try.sizeBits rfl (bA_one _) ?_))
      exact bodyPost_ret (v := .agg (bA (bq x))) (results_cell_row (p := 2) rfl _ _ w.heap.size 99 _ _ _ rfl (setRow_heap _ _ _ _ _ _ (unhide hR)) Try.underlying99 rfl Try.sizeBits) rfl ⟨rfl, Below.row (unhide hK) (Nat.le_refl _) _⟩
set_option maxHeartbeats 1000000 in
theorem number_any (f : Nat → Bool) (w : World) : Calls Try.prog 43 #[.agg (bA f)] w fun e w' => e = .returned (.int .i64 (nb f)) ∧ Below w.heap.size w w' := by
  have B0 := hide (bits_new w f)
  have K0 := hide (below_a w (.cells (bA f) 99))
  go_enter Try.func43, Try.ntmps43
  go_wp2_with fail
  generalize w.alloc (.cells (bA f) 99) = w1 at *
  have s1 := (unhide K0).size
  go_loopg [3, 4] 16 (fun g y t wr => ∃ i : Nat, i ≤ 16 ∧ g = i ∧ t = .int .i64 ((i : Int) - 1) ∧ y = .int .i64 (nbF f i (16 - i)) ∧ wr = w1)
  case atStart => exact ⟨16, Nat.le_refl _, rfl, rfl, rfl, rfl⟩
  case round =>
    obtain ⟨i, hi, hg, rfl, rfl, rfl⟩ := hrel
    by_cases hlt : 0 < i
    · obtain ⟨k, rfl⟩ : ∃ k, i = k + 1 := ⟨i - 1, by omega⟩
      have c0 := (unhide B0).at k (by omega)
      have e1 : ((k + 1 : Nat) : Int) - 1 = (k : Int) := by omega
      have hk0 : (0 : Int) ≤ (k : Int) := by omega
      have hk1 : (k : Int) < 16 := by omega
      have en : nbF f k (16 - k) = oi (f k) + 2 * nbF f (k + 1) (16 - (k + 1)) := by
        rw [show 16 - k = (16 - (k + 1)) + 1 by omega, nbF]
      have bb := nbF_b f (16 - (k + 1)) (k + 1)
      have pp : (2 : Int) ^ (16 - (k + 1)) ≤ 2 ^ 15 := by
        have : (2 : Nat) ^ (16 - (k + 1)) ≤ 2 ^ 15 := Nat.pow_le_pow_right (by decide) (by omega)
        exact_mod_cast this
      have bb1 : nbF f (k + 1) (16 - (k + 1)) < 32768 := by omega
      obtain ⟨bb0, -⟩ := bb
      clear pp
      rw [e1]
      generalize hy : nbF f (k + 1) (16 - (k + 1)) = y at *
      have HY := hide hy
      clear hy e1
      cases hf : f k
      · rw [hf] at c0 en
        have en1 : nbF f k (16 - k) = 2 * y := by rw [en]; unfold oi; simp
        have EN := hide en1
        clear en en1
        go_wp2_with fail
        go_roundg k
        case measure => omega
        case rel => exact ⟨k, by omega, rfl, by go_num, by rw [unhide EN], rfl⟩
      · rw [hf] at c0 en
        have en1 : nbF f k (16 - k) = 2 * y + 1 := by rw [en]; unfold oi; simp; omega
        have EN := hide en1
        clear en en1
        go_wp2_with fail
        go_roundg k
        case measure => omega
        case rel => exact ⟨k, by omega, rfl, by go_num, by rw [unhide EN], rfl⟩
    · obtain rfl : i = 0 := by omega
      go_wp2_with fail
      go_ret
      exact ⟨rfl, unhide K0⟩
end Go.Proofs.Ytbdadpdblkhdjaa
