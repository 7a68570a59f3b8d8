/-
  Numbers of any size: words of two's complement, of numbers that are not below 0.
-/
import Derived.Test.YtdmniecdfakbcaaGreatBigLz
import Derived.Test.YtdmniecdfakbcaaGreatBigDz
import Derived.Laws.Bits64
import Derived.Laws.Bits64b
namespace Go.Proofs.YtdmniecdfakbcaaGreat
open Go.RowKit
set_option linter.unusedSimpArgs false
set_option linter.unusedVariables false

theorem made_new (w : World) (n : Nat) : (w.alloc (.cells (madeCells #[.int .u32 0] n) 96)).heap[w.heap.size]? = some (.cells (List.replicate n (Value.int .u32 0)).toArray 96 (0, 0)) := by
  have hm : madeCells #[.int .u32 0] n = (List.replicate n (Value.int .u32 0)).toArray := by
    apply Array.ext'
    have : (fun x : Nat => ([Value.int IntKind.u32 0][x % 1]?).getD default) = fun _ => Value.int IntKind.u32 0 := by funext x; simp [Nat.mod_one]
    simp [madeCells, this, List.map_const']
  rw [hm]
  show (w.heap.push _)[w.heap.size]? = _
  simp
set_option maxHeartbeats 1000000 in
theorem low_any (q : Nat) (w : World) (ao : Option Addr) (cap n : Nat) (L : List Int) (c0 : w.cell? ⟨q, 0, none⟩ = some (.bool false)) (c1 : w.cell? ⟨q, 1, none⟩ = some (.slice ao L.length cap)) (hq : q < w.heap.size) (hr : Row w (.slice ao L.length cap) L) (hn : L.length ≤ n) (hn2 : n ≤ 900) :
    Calls Tryz.prog 65 #[.pointer (some ⟨q, 0, none⟩), .int .i64 n] w fun e w' => e = .returned (.slice (some ⟨w.heap.size, 0, none⟩) n n) ∧ Below w.heap.size w w' ∧ Own32 w' w.heap.size (L ++ List.replicate (n - L.length) 0) := by
  obtain ⟨ao', cap', he, -, -, -, hU4, hU5, hU6⟩ := hr.at
  obtain ⟨rfl, rfl⟩ : ao' = ao ∧ cap' = cap := by cases he; exact ⟨rfl, rfl⟩
  clear he
  have k0 := below_a w (.cells (madeCells #[.int .u32 0] n) 96)
  have g0 := hide (made_new w n)
  have HU5 := hide hU5
  have HU6 := hide (fun d (e : ao' = some ⟨d, 0, none⟩) j (hj : j < L.length) => cell_keep k0 (hU4 d 0 none e).2.2 (hU6 d e j hj))
  have d0 := cell_keep k0 hq c0
  have d1 := cell_keep k0 hq c1
  have K0 := hide k0
  have hmk := make32 n (by omega)
  clear k0 hU4 hU5 hU6 hr
  go_enter Tryz.func65, Tryz.ntmps65
  go_wp2_with (refine wpList_copy_splice rfl (.tmp 10) (.tmp 14) 67 67 rfl 96 Tryz.underlying67 Tryz.sizeU32 (some ⟨w.heap.size, 0, none⟩) ao' n n L.length cap' rfl rfl w.heap.size 0 (List.replicate n (Value.int .u32 0)) 96 (unhide g0) (L.map u32v) (by rw [List.length_map]; exact (Nat.min_eq_left (by omega)).symm) (hpu_of (unhide HU5) (unhide HU6)) (by rw [List.length_map, List.length_replicate]; omega) (u32_one _) w.heap.size w (unhide K0) (Nat.le_refl _) ?_; intro w5 g5 k5; have K5 := hide k5; have O5 := hide (own_splice g5 (by omega)); have e0 := k5.cell (p := ⟨q, 0, none⟩) hq; rw [c0] at e0; clear g5 k5)
  go_ret
  exact ⟨rfl, unhide K5, unhide O5⟩
end Go.Proofs.YtdmniecdfakbcaaGreat

/-
  Numbers of any size: And, Or and Xor, of numbers that are not below 0. (Written by mkBits.py.)
-/
namespace Go.Proofs.YtdmniecdfakbcaaGreat
open Go.RowKit
set_option linter.unusedSimpArgs false
set_option linter.unusedVariables false

set_option maxHeartbeats 1000000 in
theorem of_any (p d : Nat) (R : List Int) (w : World) (hp : IntAt w p) (O : Own32 w d R) (hW : Wds R) (hl : 1 ≤ R.length) (hl2 : R.length ≤ 8) (ht : R.getD (R.length - 1) 0 < 2147483648) :
    Calls Tryz.prog 66 #[.pointer (some ⟨p, 0, none⟩), .slice (some ⟨d, 0, none⟩) R.length R.length] w fun e w' => e = .returned (.pointer (some ⟨p, 0, none⟩)) ∧ Tn p w w' ∧ Big w' p (vl R) := by
  have hR := O.row (by unfold maxLen; omega)
  have TR := hide (trim_any w _ R hR hW (by omega))
  have hv : vl R < 4294967296 ^ 8 := Int.lt_of_lt_of_le (vl_hi hW) (bp_le hl2)
  have hc := O.cell (R.length - 1) (by omega)
  have hg := (hW.get (R.length - 1)).1
  obtain ⟨m, hm⟩ : ∃ m, R.length = m + 1 := ⟨R.length - 1, by omega⟩
  rw [hm] at hc ht hg hl2 TR ⊢
  rw [show m + 1 - 1 = m by omega] at hc ht hg
  have HP := hide hp
  have b0 : decide ((0 : Int) < ((m + 1 : Nat) : Int)) = true := by simp
  have e1 : (((m + 1 : Nat) : Int) - 1) = (m : Int) := by omega
  have hd : R.getD m 0 / 2147483648 = 0 := by omega
  generalize R.getD m 0 = z at *
  have hmi : (m : Int) < ((m + 1 : Nat) : Int) := by omega
  clear O hR hW hp
  go_enter Tryz.func66, Tryz.ntmps66
  go_wp2_with fail
  refine (unhide TR).mono ?_
  rintro e w' ⟨hw, v', rfl, D⟩
  subst w'
  go_wp2_with fail
  refine (give_any p false v' _ w (unhide HP) D hv).mono ?_
  rintro e w2 ⟨rfl, k2, B2⟩
  go_wp2_with fail
  go_ret
  exact ⟨rfl, k2, B2⟩
theorem vl3 {R : List Int} (h : R.length ≤ 3) : vl R = R.getD 0 0 + 4294967296 * R.getD 1 0 + 18446744073709551616 * R.getD 2 0 := by
  match R, h with
  | [], _ => simp [vl]
  | [a], _ => simp [vl]
  | [a, b], _ => simp [vl]
  | [a, b, c], _ => simp [vl]; omega
theorem app_getD (L : List Int) (n j : Nat) : (L ++ List.replicate n 0).getD j 0 = L.getD j 0 := by
  rw [List.getD_eq_getElem?_getD, List.getD_eq_getElem?_getD, List.getElem?_append]
  split
  · rfl
  · rw [List.getElem?_replicate, List.getElem?_eq_none (l := L) (by omega)]
    split <;> rfl
theorem u_two {L : List Int} {n : Int} (h : Is L n) (hn : n < 18446744073709551616) : n = L.getD 0 0 + 4294967296 * L.getD 1 0 ∧ L.length ≤ 2 := ⟨(is_two h hn).1, (is_two h hn).2.2.2⟩
/-- On the way: the words ahead of i are done. -/
structure BitInv (op : BinOp) (A B R : List Int) (i : Nat) : Prop where
  len : R.length = A.length
  old : ∀ j, i ≤ j → R.getD j 0 = A.getD j 0
  new : ∀ j, j < i → R.getD j 0 = bits op .u32 (A.getD j 0) (B.getD j 0)
theorem BitInv.start (op : BinOp) (A B : List Int) : BitInv op A B A 0 := ⟨rfl, fun _ _ => rfl, fun j h => by omega⟩
theorem BitInv.next {op : BinOp} {A B R : List Int} {i : Nat} (h : BitInv op A B R i) (hi : i < A.length) : BitInv op A B (R.set i (bits op .u32 (A.getD i 0) (B.getD i 0))) (i + 1) := by
  refine ⟨by rw [List.length_set]; exact h.len, fun j hj => ?_, fun j hj => ?_⟩
  · rw [getD_set_ne (by omega)]; exact h.old j (by omega)
  · by_cases e : i = j
    · subst e
      rw [getD_set_self (by rw [h.len]; exact hi)]
    · rw [getD_set_ne e]; exact h.new j (by omega)
theorem u32_in (op : BinOp) (a b : Int) : 0 ≤ bits op .u32 a b ∧ bits op .u32 a b ≤ 4294967295 := by
  have h := bits_within op .u32 a b
  have h1 : IntKind.u32.min = 0 := rfl
  have h2 : IntKind.u32.max = 4294967295 := rfl
  omega
theorem w_nat32 {a : Int} (h : 0 ≤ a ∧ a ≤ 4294967295) : ∃ m : Nat, a = m ∧ m < 4294967296 := ⟨a.toNat, by omega, by omega⟩
theorem n32_and (a b : Nat) (ha : a < 4294967296) (hb : b < 4294967296) : bits .and .u32 (a : Int) (b : Int) = ((a &&& b : Nat) : Int) := by
  have hx : a &&& b < 2 ^ 32 := Nat.and_lt_two_pow _ (by omega)
  have h1 : (BitVec.ofInt 32 (a : Int)).toNat = a := by
    rw [BitVec.ofInt_natCast, BitVec.toNat_ofNat]; exact Nat.mod_eq_of_lt (by omega)
  have h2 : (BitVec.ofInt 32 (b : Int)).toNat = b := by
    rw [BitVec.ofInt_natCast, BitVec.toNat_ofNat]; exact Nat.mod_eq_of_lt (by omega)
  have hw : ∀ z : Int, IntKind.u32.wrap z = z % 4294967296 := fun z => by simp [IntKind.wrap, IntKind.bits, IntKind.signed]
  show IntKind.u32.wrap ((BitVec.ofInt 32 (a : Int) &&& BitVec.ofInt 32 (b : Int)).toNat : Int) = _
  rw [BitVec.toNat_and, h1, h2, hw]
  omega
theorem split_and {a0 a1 b0 b1 : Int} (h1 : 0 ≤ a0 ∧ a0 ≤ 4294967295) (h2 : 0 ≤ a1 ∧ a1 ≤ 4294967295) (h3 : 0 ≤ b0 ∧ b0 ≤ 4294967295) (h4 : 0 ≤ b1 ∧ b1 ≤ 4294967295) :
    bits .and .u64 (a0 + 4294967296 * a1) (b0 + 4294967296 * b1) = bits .and .u32 a0 b0 + 4294967296 * bits .and .u32 a1 b1 := by
  obtain ⟨m0, rfl, l0⟩ := w_nat32 h1
  obtain ⟨m1, rfl, l1⟩ := w_nat32 h2
  obtain ⟨n0, rfl, l2⟩ := w_nat32 h3
  obtain ⟨n1, rfl, l3⟩ := w_nat32 h4
  rw [n32_and m0 n0 l0 l2, n32_and m1 n1 l1 l3]
  rw [show (m0 : Int) + 4294967296 * (m1 : Int) = ((m0 + 4294967296 * m1 : Nat) : Int) by omega, show (n0 : Int) + 4294967296 * (n1 : Int) = ((n0 + 4294967296 * n1 : Nat) : Int) by omega]
  rw [bits_and_u64_nat _ _ (by omega) (by omega)]
  have d := Nat.mod_add_div ((m0 + 4294967296 * m1) &&& (n0 + 4294967296 * n1)) (2 ^ 32)
  rw [Nat.and_mod_two_pow, Nat.and_div_two_pow] at d
  rw [show (m0 + 4294967296 * m1) % 2 ^ 32 = m0 by omega, show (n0 + 4294967296 * n1) % 2 ^ 32 = n0 by omega, show (m0 + 4294967296 * m1) / 2 ^ 32 = m1 by omega, show (n0 + 4294967296 * n1) / 2 ^ 32 = n1 by omega] at d
  omega
theorem n32_or (a b : Nat) (ha : a < 4294967296) (hb : b < 4294967296) : bits .or .u32 (a : Int) (b : Int) = ((a ||| b : Nat) : Int) := by
  have hx : a ||| b < 2 ^ 32 := Nat.or_lt_two_pow (by omega) (by omega)
  have h1 : (BitVec.ofInt 32 (a : Int)).toNat = a := by
    rw [BitVec.ofInt_natCast, BitVec.toNat_ofNat]; exact Nat.mod_eq_of_lt (by omega)
  have h2 : (BitVec.ofInt 32 (b : Int)).toNat = b := by
    rw [BitVec.ofInt_natCast, BitVec.toNat_ofNat]; exact Nat.mod_eq_of_lt (by omega)
  have hw : ∀ z : Int, IntKind.u32.wrap z = z % 4294967296 := fun z => by simp [IntKind.wrap, IntKind.bits, IntKind.signed]
  show IntKind.u32.wrap ((BitVec.ofInt 32 (a : Int) ||| BitVec.ofInt 32 (b : Int)).toNat : Int) = _
  rw [BitVec.toNat_or, h1, h2, hw]
  omega
theorem split_or {a0 a1 b0 b1 : Int} (h1 : 0 ≤ a0 ∧ a0 ≤ 4294967295) (h2 : 0 ≤ a1 ∧ a1 ≤ 4294967295) (h3 : 0 ≤ b0 ∧ b0 ≤ 4294967295) (h4 : 0 ≤ b1 ∧ b1 ≤ 4294967295) :
    bits .or .u64 (a0 + 4294967296 * a1) (b0 + 4294967296 * b1) = bits .or .u32 a0 b0 + 4294967296 * bits .or .u32 a1 b1 := by
  obtain ⟨m0, rfl, l0⟩ := w_nat32 h1
  obtain ⟨m1, rfl, l1⟩ := w_nat32 h2
  obtain ⟨n0, rfl, l2⟩ := w_nat32 h3
  obtain ⟨n1, rfl, l3⟩ := w_nat32 h4
  rw [n32_or m0 n0 l0 l2, n32_or m1 n1 l1 l3]
  rw [show (m0 : Int) + 4294967296 * (m1 : Int) = ((m0 + 4294967296 * m1 : Nat) : Int) by omega, show (n0 : Int) + 4294967296 * (n1 : Int) = ((n0 + 4294967296 * n1 : Nat) : Int) by omega]
  rw [bits_or_u64_nat _ _ (by omega) (by omega)]
  have d := Nat.mod_add_div ((m0 + 4294967296 * m1) ||| (n0 + 4294967296 * n1)) (2 ^ 32)
  rw [Nat.or_mod_two_pow, Nat.or_div_two_pow] at d
  rw [show (m0 + 4294967296 * m1) % 2 ^ 32 = m0 by omega, show (n0 + 4294967296 * n1) % 2 ^ 32 = n0 by omega, show (m0 + 4294967296 * m1) / 2 ^ 32 = m1 by omega, show (n0 + 4294967296 * n1) / 2 ^ 32 = n1 by omega] at d
  omega
theorem n32_xor (a b : Nat) (ha : a < 4294967296) (hb : b < 4294967296) : bits .xor .u32 (a : Int) (b : Int) = ((a ^^^ b : Nat) : Int) := by
  have hx : a ^^^ b < 2 ^ 32 := Nat.xor_lt_two_pow (by omega) (by omega)
  have h1 : (BitVec.ofInt 32 (a : Int)).toNat = a := by
    rw [BitVec.ofInt_natCast, BitVec.toNat_ofNat]; exact Nat.mod_eq_of_lt (by omega)
  have h2 : (BitVec.ofInt 32 (b : Int)).toNat = b := by
    rw [BitVec.ofInt_natCast, BitVec.toNat_ofNat]; exact Nat.mod_eq_of_lt (by omega)
  have hw : ∀ z : Int, IntKind.u32.wrap z = z % 4294967296 := fun z => by simp [IntKind.wrap, IntKind.bits, IntKind.signed]
  show IntKind.u32.wrap ((BitVec.ofInt 32 (a : Int) ^^^ BitVec.ofInt 32 (b : Int)).toNat : Int) = _
  rw [BitVec.toNat_xor, h1, h2, hw]
  omega
theorem split_xor {a0 a1 b0 b1 : Int} (h1 : 0 ≤ a0 ∧ a0 ≤ 4294967295) (h2 : 0 ≤ a1 ∧ a1 ≤ 4294967295) (h3 : 0 ≤ b0 ∧ b0 ≤ 4294967295) (h4 : 0 ≤ b1 ∧ b1 ≤ 4294967295) :
    bits .xor .u64 (a0 + 4294967296 * a1) (b0 + 4294967296 * b1) = bits .xor .u32 a0 b0 + 4294967296 * bits .xor .u32 a1 b1 := by
  obtain ⟨m0, rfl, l0⟩ := w_nat32 h1
  obtain ⟨m1, rfl, l1⟩ := w_nat32 h2
  obtain ⟨n0, rfl, l2⟩ := w_nat32 h3
  obtain ⟨n1, rfl, l3⟩ := w_nat32 h4
  rw [n32_xor m0 n0 l0 l2, n32_xor m1 n1 l1 l3]
  rw [show (m0 : Int) + 4294967296 * (m1 : Int) = ((m0 + 4294967296 * m1 : Nat) : Int) by omega, show (n0 : Int) + 4294967296 * (n1 : Int) = ((n0 + 4294967296 * n1 : Nat) : Int) by omega]
  rw [bits_xor_u64_nat _ _ (by omega) (by omega)]
  have d := Nat.mod_add_div ((m0 + 4294967296 * m1) ^^^ (n0 + 4294967296 * n1)) (2 ^ 32)
  rw [Nat.xor_mod_two_pow, Nat.xor_div_two_pow] at d
  rw [show (m0 + 4294967296 * m1) % 2 ^ 32 = m0 by omega, show (n0 + 4294967296 * n1) % 2 ^ 32 = n0 by omega, show (m0 + 4294967296 * m1) / 2 ^ 32 = m1 by omega, show (n0 + 4294967296 * n1) / 2 ^ 32 = n1 by omega] at d
  omega
end Go.Proofs.YtdmniecdfakbcaaGreat
