/-
  How many bits are 1, counted at once: mathematics.
-/
import Derived.WalkKit
namespace Go.Proofs.Ythoemilflefniaa
open Go.RowKit
set_option linter.unusedSimpArgs false
set_option linter.unusedVariables false

/-- The lowest f bits that are 1. -/
def pop : Nat → Nat → Nat
  | 0, _ => 0
  | f + 1, x => x % 2 + pop f (x / 2)
theorem pop_app : ∀ (f g x : Nat), pop (f + g) x = pop f x + pop g (x / 2 ^ f)
  | 0, g, x => by simp [pop]
  | f + 1, g, x => by
    rw [show f + 1 + g = (f + g) + 1 by omega]
    simp only [pop]
    rw [pop_app f g (x / 2), Nat.div_div_eq_div_mul, Nat.pow_succ', Nat.add_assoc]
theorem pop_mod : ∀ (f x : Nat), pop f (x % 2 ^ f) = pop f x
  | 0, x => by simp [pop]
  | f + 1, x => by
    simp only [pop]
    have e1 : x % 2 ^ (f + 1) % 2 = x % 2 := by rw [Nat.pow_succ']; exact Nat.mod_mul_right_mod _ _ _
    have e2 : x % 2 ^ (f + 1) / 2 = x / 2 % 2 ^ f := by rw [Nat.pow_succ', Nat.mod_mul_right_div_self]
    rw [e1, e2, pop_mod f (x / 2)]
theorem pop_zero : ∀ (f : Nat), pop f 0 = 0
  | 0 => rfl
  | f + 1 => by simp [pop, pop_zero f]
/-- Bits above do not count where there are none. -/
theorem pop_more (f g x : Nat) (h : x < 2 ^ f) : pop (f + g) x = pop f x := by
  rw [pop_app, Nat.div_eq_of_lt h, pop_zero]; rfl
theorem pop_step (f x : Nat) : pop (f + 1) x = pop f x + x / 2 ^ f % 2 := by
  rw [pop_app f 1 x]; simp [pop]

/-- A mask of k bytes. -/
def mask (c : Nat) : Nat → Nat
  | 0 => 0
  | k + 1 => 256 * mask c k + c
theorem land_split (h b M m : Nat) (hb : b < 256) (hm : m < 256) : (256 * h + b) &&& (256 * M + m) = 256 * (h &&& M) + (b &&& m) := by
  have e := Nat.two_pow_add_eq_or_of_lt (i := 8) (b := b) (by simpa using hb) h
  have e2 := Nat.two_pow_add_eq_or_of_lt (i := 8) (b := m) (by simpa using hm) M
  have hbm : (b &&& m) < 256 := Nat.lt_of_le_of_lt Nat.and_le_left hb
  have e3 := Nat.two_pow_add_eq_or_of_lt (i := 8) (b := b &&& m) (by simpa using hbm) (h &&& M)
  simp only [show (2 : Nat) ^ 8 = 256 from rfl] at e e2 e3
  rw [e, e2, e3]
  apply Nat.eq_of_testBit_eq
  intro i
  simp only [Nat.testBit_and, Nat.testBit_or]
  by_cases hi : i < 8
  · have z : ∀ y, (256 * y).testBit i = false := by
      intro y
      rw [show 256 * y = 2 ^ 8 * y from rfl, Nat.testBit_two_pow_mul]
      simp; omega
    simp [z]
  · have t : ∀ y, y < 256 → y.testBit i = false := by
      intro y hy
      exact Nat.testBit_lt_two_pow (Nat.lt_of_lt_of_le hy (by rw [show 256 = 2 ^ 8 from rfl]; exact Nat.pow_le_pow_right (by decide) (by omega)))
    simp [t b hb, t m hm]
    rw [show 256 * h = 2 ^ 8 * h from rfl, show 256 * M = 2 ^ 8 * M from rfl, show 256 * (h &&& M) = 2 ^ 8 * (h &&& M) from rfl, Nat.testBit_two_pow_mul, Nat.testBit_two_pow_mul, Nat.testBit_two_pow_mul, Nat.testBit_and]
    simp [Nat.le_of_not_lt hi]
def s1 (k x : Nat) : Nat := (x / 2 &&& mask 85 k) + (x &&& mask 85 k)
def s2 (k x : Nat) : Nat := (x / 4 &&& mask 51 k) + (x &&& mask 51 k)
def s3 (k x : Nat) : Nat := (x / 16 + x) &&& mask 15 k
theorem by1 : ∀ c : Fin 2, ∀ b : Fin 256, (c.val * 128 + b.val / 2) &&& 85 = (b.val / 2) &&& 85 := by decide +kernel
theorem by2 : ∀ c : Fin 4, ∀ b : Fin 256, (c.val * 64 + b.val / 4) &&& 51 = (b.val / 4) &&& 51 := by decide +kernel
theorem lt1' : ∀ b : Fin 256, (b.val / 2 &&& 85) + (b.val &&& 85) < 256 := by decide +kernel
theorem s1_split (k h b : Nat) (hb : b < 256) : s1 (k + 1) (256 * h + b) = 256 * s1 k h + ((b / 2 &&& 85) + (b &&& 85)) := by
  unfold s1
  rw [show mask 85 (k + 1) = 256 * mask 85 k + 85 from rfl]
  rw [show (256 * h + b) / 2 = 256 * (h / 2) + (h % 2 * 128 + b / 2) by omega]
  rw [land_split _ _ _ _ (by omega) (by decide), land_split _ _ _ _ hb (by decide)]
  have := by1 ⟨h % 2, by omega⟩ ⟨b, hb⟩
  simp only at this
  rw [this]; omega
theorem s2_split (k h b : Nat) (hb : b < 256) : s2 (k + 1) (256 * h + b) = 256 * s2 k h + ((b / 4 &&& 51) + (b &&& 51)) := by
  unfold s2
  rw [show mask 51 (k + 1) = 256 * mask 51 k + 51 from rfl]
  rw [show (256 * h + b) / 4 = 256 * (h / 4) + (h % 4 * 64 + b / 4) by omega]
  rw [land_split _ _ _ _ (by omega) (by decide), land_split _ _ _ _ hb (by decide)]
  have := by2 ⟨h % 4, by omega⟩ ⟨b, hb⟩
  simp only at this
  rw [this]; omega
def b1 (b : Nat) : Nat := (b / 2 &&& 85) + (b &&& 85)
def b2 (b : Nat) : Nat := (b1 b / 4 &&& 51) + (b1 b &&& 51)
theorem b1_lt : ∀ b : Fin 256, b1 b.val < 256 := by decide +kernel
theorem b2_lt : ∀ b : Fin 256, b2 b.val ≤ 68 ∧ b2 b.val % 16 ≤ 4 := by decide +kernel
theorem b3 : ∀ b : Fin 256, ∀ c : Fin 5, (c.val * 16 + b2 b.val / 16 + b2 b.val) &&& 15 = pop 8 b.val := by decide +kernel
theorem low2 : ∀ (k h : Nat), h < 256 ^ k → s2 k (s1 k h) % 16 ≤ 4
  | 0, h, hh => by simp [s1, s2, mask]
  | k + 1, h, hh => by
    have e : h = 256 * (h / 256) + h % 256 := by omega
    have q : h % 256 < 256 := Nat.mod_lt _ (by decide)
    generalize h % 256 = b at *
    generalize h / 256 = g at *
    subst e
    rw [s1_split k g b q]
    have l1 : b1 b < 256 := b1_lt ⟨b, q⟩
    show s2 (k + 1) (256 * s1 k g + b1 b) % 16 ≤ 4
    rw [s2_split k _ _ l1]
    have := (b2_lt ⟨b, q⟩).2
    show (256 * s2 k (s1 k g) + b2 b) % 16 ≤ 4
    simp only at this
    omega
/-- The bytes' counts. -/
def cnt : Nat → Nat → Nat
  | 0, _ => 0
  | k + 1, x => pop 8 (x % 256) + 256 * cnt k (x / 256)
theorem swar : ∀ (k x : Nat), x < 256 ^ k → s3 k (s2 k (s1 k x)) = cnt k x
  | 0, x, hx => by simp [s3, mask, cnt]
  | k + 1, x, hx => by
    have e : x = 256 * (x / 256) + x % 256 := by omega
    have q : x % 256 < 256 := Nat.mod_lt _ (by decide)
    have g : x / 256 < 256 ^ k := by rw [Nat.div_lt_iff_lt_mul (by decide), ← Nat.pow_succ]; exact hx
    have ih := swar k (x / 256) g
    have lo := low2 k (x / 256) g
    simp only [cnt]
    generalize hb : x % 256 = b at *
    generalize hh : x / 256 = h at *
    subst e
    have l1 : b1 b < 256 := b1_lt ⟨b, q⟩
    rw [s1_split k h b q]
    show s3 (k + 1) (s2 (k + 1) (256 * s1 k h + b1 b)) = _
    rw [s2_split k _ _ l1]
    have l2 := (b2_lt ⟨b, q⟩).1
    simp only at l2
    show s3 (k + 1) (256 * s2 k (s1 k h) + b2 b) = _
    unfold s3 at ih ⊢
    generalize s2 k (s1 k h) = z at *
    rw [show mask 15 (k + 1) = 256 * mask 15 k + 15 from rfl]
    rw [show (256 * z + b2 b) / 16 + (256 * z + b2 b) = 256 * (z / 16 + z) + (z % 16 * 16 + b2 b / 16 + b2 b) by omega]
    rw [land_split _ _ _ _ (by omega) (by decide), ih]
    have := b3 ⟨b, q⟩ ⟨z % 16, by omega⟩
    simp only at this
    rw [this]; omega
theorem pop8_le : ∀ b : Fin 256, pop 8 b.val ≤ 8 := by decide +kernel
theorem pop8_le' (x : Nat) : pop 8 (x % 256) ≤ 8 := pop8_le ⟨x % 256, Nat.mod_lt _ (by decide)⟩
theorem pop_byte (f x : Nat) : pop (8 + f) x = pop 8 (x % 256) + pop f (x / 256) := by
  rw [pop_app, show (256 : Nat) = 2 ^ 8 from rfl, pop_mod]
/-- All eight together. -/
theorem ones64 (x : Nat) (y : Nat) (hy : y = cnt 8 x) :
    y + y / 256 < 18446744073709551616 ∧ (y + y / 256) + (y + y / 256) / 65536 < 18446744073709551616 ∧
    ((y + y / 256) + (y + y / 256) / 65536) + ((y + y / 256) + (y + y / 256) / 65536) / 4294967296 < 18446744073709551616 ∧
    (((y + y / 256) + (y + y / 256) / 65536) + ((y + y / 256) + (y + y / 256) / 65536) / 4294967296) % 128 = pop 64 x := by
  have e : pop 64 x = pop 8 (x % 256) + (pop 8 (x / 256 % 256) + (pop 8 (x / 256 / 256 % 256) + (pop 8 (x / 256 / 256 / 256 % 256) + (pop 8 (x / 256 / 256 / 256 / 256 % 256) + (pop 8 (x / 256 / 256 / 256 / 256 / 256 % 256) + (pop 8 (x / 256 / 256 / 256 / 256 / 256 / 256 % 256) + pop 8 (x / 256 / 256 / 256 / 256 / 256 / 256 / 256 % 256))))))) := by
    rw [show 64 = 8 + 56 from rfl, pop_byte, show 56 = 8 + 48 from rfl, pop_byte, show 48 = 8 + 40 from rfl, pop_byte, show 40 = 8 + 32 from rfl, pop_byte, show 32 = 8 + 24 from rfl, pop_byte, show 24 = 8 + 16 from rfl, pop_byte, show 16 = 8 + 8 from rfl, pop_byte]
    have l := pop_mod 8 (x / 256 / 256 / 256 / 256 / 256 / 256 / 256)
    rw [show (2 : Nat) ^ 8 = 256 from rfl] at l
    rw [l]
  rw [e]
  simp only [cnt] at hy
  have p0 := pop8_le' x
  have p1 := pop8_le' (x / 256)
  have p2 := pop8_le' (x / 256 / 256)
  have p3 := pop8_le' (x / 256 / 256 / 256)
  have p4 := pop8_le' (x / 256 / 256 / 256 / 256)
  have p5 := pop8_le' (x / 256 / 256 / 256 / 256 / 256)
  have p6 := pop8_le' (x / 256 / 256 / 256 / 256 / 256 / 256)
  have p7 := pop8_le' (x / 256 / 256 / 256 / 256 / 256 / 256 / 256)
  generalize pop 8 (x % 256) = a0 at *
  generalize pop 8 (x / 256 % 256) = a1 at *
  generalize pop 8 (x / 256 / 256 % 256) = a2 at *
  generalize pop 8 (x / 256 / 256 / 256 % 256) = a3 at *
  generalize pop 8 (x / 256 / 256 / 256 / 256 % 256) = a4 at *
  generalize pop 8 (x / 256 / 256 / 256 / 256 / 256 % 256) = a5 at *
  generalize pop 8 (x / 256 / 256 / 256 / 256 / 256 / 256 % 256) = a6 at *
  generalize pop 8 (x / 256 / 256 / 256 / 256 / 256 / 256 / 256 % 256) = a7 at *
  clear e
  obtain ⟨u, hu⟩ : ∃ u, u = y + y / 256 := ⟨_, rfl⟩
  rw [← hu]
  have hu2 : u = (a0 + a1) + 256 * ((a1 + a2) + 256 * ((a2 + a3) + 256 * ((a3 + a4) + 256 * ((a4 + a5) + 256 * ((a5 + a6) + 256 * ((a6 + a7) + 256 * a7)))))) := by omega
  clear hu hy
  obtain ⟨v, hv⟩ : ∃ v, v = u + u / 65536 := ⟨_, rfl⟩
  rw [← hv]
  have hv2 : v = (a0 + a1 + a2 + a3) + 256 * ((a1 + a2 + a3 + a4) + 256 * ((a2 + a3 + a4 + a5) + 256 * ((a3 + a4 + a5 + a6) + 256 * ((a4 + a5 + a6 + a7) + 256 * ((a5 + a6 + a7) + 256 * ((a6 + a7) + 256 * a7)))))) := by omega
  have hu3 : u < 18446744073709551616 := by omega
  clear hu2 hv
  have hv3 : v < 18446744073709551616 := by omega
  have hd : v / 4294967296 = (a4 + a5 + a6 + a7) + 256 * ((a5 + a6 + a7) + 256 * ((a6 + a7) + 256 * a7)) := by omega
  rw [hd]
  clear hd
  refine ⟨hu3, hv3, by omega, ?_⟩
  rw [hv2]
  clear hv2 hv3 hu3
  omega
end Go.Proofs.Ythoemilflefniaa
