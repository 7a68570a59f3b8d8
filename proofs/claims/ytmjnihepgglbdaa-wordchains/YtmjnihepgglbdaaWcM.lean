/-
  Words added, or taken away, one by one are the sum's words, or the difference's; and the flags are theirs: plain numbers, no program in sight.
-/
import Derived.Test.YtmjnihepgglbdaaWords
namespace Go.Proofs.Ytmjnihepgglbdaa
open Go.RowKit
set_option linter.unusedSimpArgs false
set_option linter.unusedVariables false

/-- What the first i words tell. -/
def nd (d : Nat → Int) : Nat → Int
  | 0 => 0
  | i + 1 => nd d i + 65536 ^ i * d i
theorem b16 (i : Nat) : (0 : Int) < 65536 ^ i := Int.pow_pos (by decide)
theorem nd_b {d : Nat → Int} (h : ∀ i, 0 ≤ d i ∧ d i ≤ 65535) : ∀ i, 0 ≤ nd d i ∧ nd d i < 65536 ^ i
  | 0 => by simp [nd]
  | i + 1 => by
    obtain ⟨a, b⟩ := nd_b h i
    have p := b16 i
    have m0 := Int.mul_nonneg (Int.le_of_lt p) (h i).1
    have m1 : (65536 : Int) ^ i * d i ≤ 65536 ^ i * 65535 := Int.mul_le_mul_of_nonneg_left (h i).2 (Int.le_of_lt p)
    rw [nd, Int.pow_succ]
    omega
/-- The words of what they tell. -/
theorem nd_dig {d : Nat → Int} (h : ∀ i, 0 ≤ d i ∧ d i ≤ 65535) (i : Nat) : ∀ k, nd d (i + 1 + k) / 65536 ^ i % 65536 = d i := by
  have key : ∀ k, ∃ q, nd d (i + 1 + k) = nd d i + 65536 ^ i * (d i + 65536 * q) := by
    intro k
    induction k with
    | zero => exact ⟨0, by rw [Nat.add_zero, nd, Int.mul_zero, Int.add_zero]⟩
    | succ k ih =>
      obtain ⟨q, hq⟩ := ih
      refine ⟨q + 65536 ^ k * d (i + 1 + k), ?_⟩
      rw [← Nat.add_assoc, nd, hq, Int.pow_add, Int.pow_succ]
      grind
  intro k
  obtain ⟨q, hq⟩ := key k
  have b := nd_b h i
  have p := b16 i
  rw [hq, Int.add_mul_ediv_left _ _ (Int.ne_of_gt p), Int.ediv_eq_zero_of_lt b.1 b.2]
  have := h i
  omega
theorem stp_sum (x y : Int) (c : Bool) : lw x + lw y + oi c = lw (sumt x y c) + 65536 * oi (sumt x y c != lw (sumt x y c)) := by
  have hx := lw_b x
  have hy := lw_b y
  have hc := oi_b c
  have e : sumt x y c = lw x + lw y + oi c := rfl
  rw [← e]
  have h1 : 0 ≤ sumt x y c ∧ sumt x y c ≤ 131071 := by omega
  generalize sumt x y c = t at *
  unfold oi lw
  by_cases h : t = t % 65536
  · rw [if_neg (by rw [← h]; simp)]; omega
  · rw [if_pos (by simpa using h)]; omega
theorem stp_dif (x y : Int) (c : Bool) : lw x - lw y - oi c = lw (dift x y c) - 65536 * oi (dift x y c != lw (dift x y c)) := by
  have hx := lw_b x
  have hy := lw_b y
  have hc := oi_b c
  have e : dift x y c = lw x - lw y - oi c := rfl
  rw [← e]
  have h1 : -65536 ≤ dift x y c ∧ dift x y c ≤ 65535 := by omega
  generalize dift x y c = t at *
  unfold oi lw
  by_cases h : t = t % 65536
  · rw [if_neg (by rw [← h]; simp)]; omega
  · rw [if_pos (by simpa using h)]; omega
def lws (xs : Nat → Int) (i : Nat) : Int := lw (xs i)
theorem lws_in (xs : Nat → Int) (i : Nat) : 0 ≤ lws xs i ∧ lws xs i ≤ 65535 := lw_b _
theorem sumw_in (xs ys : Nat → Int) (i : Nat) : 0 ≤ sumw xs ys i ∧ sumw xs ys i ≤ 65535 := lw_b _
theorem difw_in (xs ys : Nat → Int) (i : Nat) : 0 ≤ difw xs ys i ∧ difw xs ys i ≤ 65535 := lw_b _
theorem nd_sum (xs ys : Nat → Int) : ∀ i, nd (lws xs) i + nd (lws ys) i = nd (sumw xs ys) i + 65536 ^ i * oi (sumcy xs ys i)
  | 0 => by simp [nd, sumcy, oi]
  | i + 1 => by
    have ih := nd_sum xs ys i
    have st := stp_sum (xs i) (ys i) (sumcy xs ys i)
    have e1 : sumw xs ys i = lw (sumt (xs i) (ys i) (sumcy xs ys i)) := rfl
    have e2 : sumcy xs ys (i + 1) = (sumt (xs i) (ys i) (sumcy xs ys i) != lw (sumt (xs i) (ys i) (sumcy xs ys i))) := rfl
    rw [← e2, ← e1] at st
    rw [nd, nd, nd, Int.pow_succ]
    unfold lws at ih ⊢
    generalize (65536 : Int) ^ i = P at *
    generalize oi (sumcy xs ys i) = o at *
    generalize oi (sumcy xs ys (i + 1)) = o' at *
    generalize lw (xs i) = a at *
    generalize lw (ys i) = b at *
    generalize sumw xs ys i = s at *
    grind
theorem nd_dif (xs ys : Nat → Int) : ∀ i, nd (lws xs) i - nd (lws ys) i = nd (difw xs ys) i - 65536 ^ i * oi (difcy xs ys i)
  | 0 => by simp [nd, difcy, oi]
  | i + 1 => by
    have ih := nd_dif xs ys i
    have st := stp_dif (xs i) (ys i) (difcy xs ys i)
    have e1 : difw xs ys i = lw (dift (xs i) (ys i) (difcy xs ys i)) := rfl
    have e2 : difcy xs ys (i + 1) = (dift (xs i) (ys i) (difcy xs ys i) != lw (dift (xs i) (ys i) (difcy xs ys i))) := rfl
    rw [← e2, ← e1] at st
    rw [nd, nd, nd, Int.pow_succ]
    unfold lws at ih ⊢
    generalize (65536 : Int) ^ i = P at *
    generalize oi (difcy xs ys i) = o at *
    generalize oi (difcy xs ys (i + 1)) = o' at *
    generalize lw (xs i) = a at *
    generalize lw (ys i) = b at *
    generalize difw xs ys i = s at *
    grind
theorem nd_zero {d : Nat → Int} (h : ∀ i, 0 ≤ d i ∧ d i ≤ 65535) (i : Nat) : nd d (i + 1) = 0 ↔ nd d i = 0 ∧ d i = 0 := by
  have b := nd_b h i
  have p := b16 i
  have m0 := Int.mul_nonneg (Int.le_of_lt p) (h i).1
  rw [nd]
  constructor
  · intro e
    have e2 : (65536 : Int) ^ i * d i = 0 := by omega
    rcases Int.mul_eq_zero.1 e2 with e3 | e3
    · omega
    · exact ⟨by omega, e3⟩
  · rintro ⟨e1, e2⟩
    rw [e1, e2]; simp
theorem sumz_nd (xs ys : Nat → Int) : ∀ i, sumz xs ys i = decide (nd (sumw xs ys) i = 0)
  | 0 => rfl
  | i + 1 => by
    rw [sumz, sumz_nd xs ys i, Bool.eq_iff_iff]
    simp only [Bool.and_eq_true, decide_eq_true_eq, beq_iff_eq]
    exact (nd_zero (sumw_in xs ys) i).symm
theorem difz_nd (xs ys : Nat → Int) : ∀ i, difz xs ys i = decide (nd (difw xs ys) i = 0)
  | 0 => rfl
  | i + 1 => by
    rw [difz, difz_nd xs ys i, Bool.eq_iff_iff]
    simp only [Bool.and_eq_true, decide_eq_true_eq, beq_iff_eq]
    exact (nd_zero (difw_in xs ys) i).symm
/-- With a sign. -/
def sgd (i : Nat) (z : Int) : Int := if 32768 * 65536 ^ i ≤ z then z - 65536 ^ (i + 1) else z
theorem sgd_nd {d : Nat → Int} (h : ∀ i, 0 ≤ d i ∧ d i ≤ 65535) (i : Nat) : (32768 * 65536 ^ i ≤ nd d (i + 1) ↔ 32768 ≤ d i) ∧ sgd i (nd d (i + 1)) = nd d i + 65536 ^ i * sw (d i) := by
  have b := nd_b h i
  have p := b16 i
  have hd := h i
  have k : 32768 * 65536 ^ i ≤ nd d (i + 1) ↔ 32768 ≤ d i := by
    rw [nd]
    constructor
    · intro e
      by_cases hl : 32768 ≤ d i
      · exact hl
      · exfalso
        have m : (65536 : Int) ^ i * d i ≤ 65536 ^ i * 32767 := Int.mul_le_mul_of_nonneg_left (by omega) (Int.le_of_lt p)
        omega
    · intro e
      have m : (65536 : Int) ^ i * 32768 ≤ 65536 ^ i * d i := Int.mul_le_mul_of_nonneg_left e (Int.le_of_lt p)
      omega
  refine ⟨k, ?_⟩
  unfold sgd
  by_cases e : 32768 ≤ d i
  · rw [if_pos (k.2 e), nd, Int.pow_succ]
    have : sw (d i) = d i - 65536 := by unfold sw; omega
    rw [this]
    generalize (65536 : Int) ^ i = P at *
    grind
  · rw [if_neg (fun h => e (k.1 h)), nd]
    have : sw (d i) = d i := by unfold sw; omega
    rw [this]
/-- The sum of i + 1 words: its words, and all flags. -/
theorem wc_sum (xs ys : Nat → Int) (i : Nat) :
    (nd (lws xs) (i + 1) + nd (lws ys) (i + 1)) % 65536 ^ (i + 1) = nd (sumw xs ys) (i + 1)
    ∧ (sumf xs ys (i + 1)).1 = decide (nd (lws xs) (i + 1) + nd (lws ys) (i + 1) < 0 ∨ 65536 ^ (i + 1) ≤ nd (lws xs) (i + 1) + nd (lws ys) (i + 1))
    ∧ sumz xs ys (i + 1) = decide (nd (sumw xs ys) (i + 1) = 0)
    ∧ (sumf xs ys (i + 1)).2.2.1 = decide (32768 * 65536 ^ i ≤ nd (sumw xs ys) (i + 1))
    ∧ (sumf xs ys (i + 1)).2.2.2 = (sgd i (nd (sumw xs ys) (i + 1)) != sgd i (nd (lws xs) (i + 1)) + sgd i (nd (lws ys) (i + 1))) := by
  have e := nd_sum xs ys (i + 1)
  have b := nd_b (sumw_in xs ys) (i + 1)
  have bx := nd_b (lws_in xs) (i + 1)
  have by' := nd_b (lws_in ys) (i + 1)
  have p := b16 (i + 1)
  have p' := b16 i
  have o := oi_b (sumcy xs ys (i + 1))
  have oc : sumcy xs ys (i + 1) = decide (oi (sumcy xs ys (i + 1)) = 1) := by cases sumcy xs ys (i + 1) <;> rfl
  have ho : oi (sumcy xs ys (i + 1)) = 0 ∨ oi (sumcy xs ys (i + 1)) = 1 := by omega
  refine ⟨?_, ?_, sumz_nd xs ys (i + 1), ?_, ?_⟩
  · rw [e, Int.add_mul_emod_self_left]
    exact Int.emod_eq_of_lt b.1 b.2
  · show sumcy xs ys (i + 1) = _
    rw [oc, decide_eq_decide, e]
    rcases ho with h | h <;> rw [h] <;> simp <;> omega
  · show decide (sw (sumw xs ys i) < 0) = _
    rw [decide_eq_decide, (sgd_nd (sumw_in xs ys) i).1]
    have := sumw_in xs ys i
    unfold sw
    omega
  · show (sums (xs i) (ys i) (sumcy xs ys i) != sw (sumw xs ys i)) = _
    rw [(sgd_nd (sumw_in xs ys) i).2, (sgd_nd (lws_in xs) i).2, (sgd_nd (lws_in ys) i).2, Bool.eq_iff_iff]
    simp only [bne_iff_ne]
    have e0 := nd_sum xs ys i
    have es : sums (xs i) (ys i) (sumcy xs ys i) = sw (lws xs i) + sw (lws ys i) + oi (sumcy xs ys i) := by unfold sums lws; rw [sw_lw, sw_lw]
    rw [es]
    have k : (nd (sumw xs ys) i + 65536 ^ i * sw (sumw xs ys i) = nd (lws xs) i + 65536 ^ i * sw (lws xs i) + (nd (lws ys) i + 65536 ^ i * sw (lws ys i))) ↔ (65536 : Int) ^ i * sw (sumw xs ys i) = 65536 ^ i * (sw (lws xs i) + sw (lws ys i) + oi (sumcy xs ys i)) := by
      rw [Int.mul_add, Int.mul_add]
      omega
    rw [ne_eq, ne_eq, k, Int.mul_eq_mul_left_iff (Int.ne_of_gt p')]
    exact not_congr eq_comm
/-- The difference of i + 1 words: its words, and all flags. -/
theorem wc_dif (xs ys : Nat → Int) (i : Nat) :
    (nd (lws xs) (i + 1) - nd (lws ys) (i + 1)) % 65536 ^ (i + 1) = nd (difw xs ys) (i + 1)
    ∧ (diff xs ys (i + 1)).1 = decide (nd (lws xs) (i + 1) - nd (lws ys) (i + 1) < 0 ∨ 65536 ^ (i + 1) ≤ nd (lws xs) (i + 1) - nd (lws ys) (i + 1))
    ∧ difz xs ys (i + 1) = decide (nd (difw xs ys) (i + 1) = 0)
    ∧ (diff xs ys (i + 1)).2.2.1 = decide (32768 * 65536 ^ i ≤ nd (difw xs ys) (i + 1))
    ∧ (diff xs ys (i + 1)).2.2.2 = (sgd i (nd (difw xs ys) (i + 1)) != sgd i (nd (lws xs) (i + 1)) - sgd i (nd (lws ys) (i + 1))) := by
  have e := nd_dif xs ys (i + 1)
  have b := nd_b (difw_in xs ys) (i + 1)
  have bx := nd_b (lws_in xs) (i + 1)
  have by' := nd_b (lws_in ys) (i + 1)
  have p := b16 (i + 1)
  have p' := b16 i
  have o := oi_b (difcy xs ys (i + 1))
  have oc : difcy xs ys (i + 1) = decide (oi (difcy xs ys (i + 1)) = 1) := by cases difcy xs ys (i + 1) <;> rfl
  have ho : oi (difcy xs ys (i + 1)) = 0 ∨ oi (difcy xs ys (i + 1)) = 1 := by omega
  refine ⟨?_, ?_, difz_nd xs ys (i + 1), ?_, ?_⟩
  · rw [e, Int.sub_eq_add_neg, ← Int.mul_neg, Int.add_mul_emod_self_left]
    exact Int.emod_eq_of_lt b.1 b.2
  · show difcy xs ys (i + 1) = _
    rw [oc, decide_eq_decide, e]
    rcases ho with h | h <;> rw [h] <;> simp <;> omega
  · show decide (sw (difw xs ys i) < 0) = _
    rw [decide_eq_decide, (sgd_nd (difw_in xs ys) i).1]
    have := difw_in xs ys i
    unfold sw
    omega
  · show (difs (xs i) (ys i) (difcy xs ys i) != sw (difw xs ys i)) = _
    rw [(sgd_nd (difw_in xs ys) i).2, (sgd_nd (lws_in xs) i).2, (sgd_nd (lws_in ys) i).2, Bool.eq_iff_iff]
    simp only [bne_iff_ne]
    have e0 := nd_dif xs ys i
    have es : difs (xs i) (ys i) (difcy xs ys i) = sw (lws xs i) - sw (lws ys i) - oi (difcy xs ys i) := by unfold difs lws; rw [sw_lw, sw_lw]
    rw [es]
    have k : (nd (difw xs ys) i + 65536 ^ i * sw (difw xs ys i) = nd (lws xs) i + 65536 ^ i * sw (lws xs i) - (nd (lws ys) i + 65536 ^ i * sw (lws ys i))) ↔ (65536 : Int) ^ i * sw (difw xs ys i) = 65536 ^ i * (sw (lws xs i) - sw (lws ys i) - oi (difcy xs ys i)) := by
      rw [Int.mul_sub, Int.mul_sub]
      omega
    rw [ne_eq, ne_eq, k, Int.mul_eq_mul_left_iff (Int.ne_of_gt p')]
    exact not_congr eq_comm
end Go.Proofs.Ytmjnihepgglbdaa
