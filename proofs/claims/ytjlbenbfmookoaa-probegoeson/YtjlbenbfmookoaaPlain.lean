/-
  Plain facts on numbers cut to a width: no program in sight.
-/
import Derived.WalkKit
namespace Go.Proofs.Ytjlbenbfmookoaa
open Go.RowKit
set_option linter.unusedSimpArgs false
set_option linter.unusedVariables false

theorem hide {p : Prop} (h : p) : Hid p := h
theorem unhide {p : Prop} (h : Hid p) : p := h

/-- The four widths. -/
def IsW (n : Int) : Prop := n = 8 ∨ n = 16 ∨ n = 32 ∨ n = 64
/-- Two to the width. -/
def md (n : Int) : Int := 2 ^ n.toNat
/-- The lower bits. -/
def cut (n x : Int) : Int := x % md n
/-- What the lower bits mean with a sign. -/
def sgn (n x : Int) : Int := if 2 * cut n x < md n then cut n x else cut n x - md n

theorem md_8 : md 8 = 256 := by decide
theorem md_16 : md 16 = 65536 := by decide
theorem md_32 : md 32 = 4294967296 := by decide
theorem md_64 : md 64 = 18446744073709551616 := by decide

theorem u64_wrap (x : Int) : IntKind.u64.wrap x = x % 18446744073709551616 := by simp [IntKind.wrap, IntKind.bits, IntKind.signed]

theorem md_pos {n : Int} (h : IsW n) : 0 < md n := by
  rcases h with rfl | rfl | rfl | rfl <;> simp [md_8, md_16, md_32, md_64]
theorem md_le {n : Int} (h : IsW n) : md n ≤ 18446744073709551616 := by
  rcases h with rfl | rfl | rfl | rfl <;> simp [md_8, md_16, md_32, md_64]
theorem md_dvd {n : Int} (h : IsW n) : md n ∣ 18446744073709551616 := by
  rcases h with rfl | rfl | rfl | rfl
  · exact ⟨72057594037927936, by rw [md_8]; decide⟩
  · exact ⟨281474976710656, by rw [md_16]; decide⟩
  · exact ⟨4294967296, by rw [md_32]; decide⟩
  · exact ⟨1, by rw [md_64]; decide⟩

theorem cut_lo {n : Int} (h : IsW n) (x : Int) : 0 ≤ cut n x := Int.emod_nonneg _ (Int.ne_of_gt (md_pos h))
theorem cut_lt {n : Int} (h : IsW n) (x : Int) : cut n x < md n := Int.emod_lt_of_pos _ (md_pos h)
theorem cut_hi {n : Int} (h : IsW n) (x : Int) : cut n x ≤ 18446744073709551615 := by
  have := cut_lt h x; have := md_le h; omega
theorem cut_wrap {n : Int} (h : IsW n) (x : Int) : cut n (IntKind.u64.wrap x) = cut n x := by
  rw [u64_wrap]; exact Int.emod_emod_of_dvd _ (md_dvd h)
theorem cut_cut (n x : Int) : cut n (cut n x) = cut n x := Int.emod_emod ..
theorem cut_add (n x y : Int) : cut n (cut n x + cut n y) = cut n (x + y) := by unfold cut; exact (Int.add_emod ..).symm
theorem cut_sub (n x y : Int) : cut n (cut n x - cut n y) = cut n (x - y) := by unfold cut; exact (Int.sub_emod ..).symm
theorem cut_mul (n x y : Int) : cut n (cut n x * cut n y) = cut n (x * y) := by unfold cut; exact (Int.mul_emod ..).symm

/-- Within sixty-four bits. -/
def U (x : Int) : Prop := 0 ≤ x ∧ x ≤ 18446744073709551615
/-- No width. -/
def NoW (n : Int) : Prop := (n == 8) = false ∧ (n == 16) = false ∧ (n == 32) = false ∧ (n == 64) = false
theorem isW_or (n : Int) : IsW n ∨ NoW n := by
  unfold IsW NoW
  by_cases h1 : n = 8
  · exact .inl (.inl h1)
  by_cases h2 : n = 16
  · exact .inl (.inr (.inl h2))
  by_cases h3 : n = 32
  · exact .inl (.inr (.inr (.inl h3)))
  by_cases h4 : n = 64
  · exact .inl (.inr (.inr (.inr h4)))
  exact .inr ⟨beq_eq_false_iff_ne.2 h1, beq_eq_false_iff_ne.2 h2, beq_eq_false_iff_ne.2 h3, beq_eq_false_iff_ne.2 h4⟩
theorem u_cut {n : Int} (h : IsW n) (x : Int) : U (cut n x) := ⟨cut_lo h x, cut_hi h x⟩
theorem u_wrap (x : Int) : U (IntKind.u64.wrap x) := by rw [u64_wrap]; unfold U; omega
theorem u_num (k : Nat) (h : k ≤ 18446744073709551615) : U (k : Int) := ⟨by omega, by omega⟩
theorem cut_of {n x : Int} (h0 : 0 ≤ x) (h1 : x < md n) : cut n x = x := Int.emod_eq_of_lt h0 h1
theorem div_pow_le (x : Int) (k : Nat) (h : 0 ≤ x) : 0 ≤ x / 2 ^ k ∧ x / 2 ^ k ≤ x := by
  have hp : (0 : Int) < 2 ^ k := Int.pow_pos (by decide)
  refine ⟨Int.ediv_nonneg h (Int.le_of_lt hp), ?_⟩
  exact Int.ediv_le_self _ h
theorem cut_div {n : Int} (h : IsW n) (x : Int) (k : Nat) : cut n (cut n x / 2 ^ k) = cut n x / 2 ^ k := by
  have := div_pow_le (cut n x) k (cut_lo h x)
  have := cut_lt h x
  exact cut_of (by omega) (by omega)
theorem u_div {n : Int} (h : IsW n) (x : Int) (k : Nat) : U (cut n x / 2 ^ k) := by
  have := div_pow_le (cut n x) k (cut_lo h x)
  have := cut_hi h x
  exact ⟨by omega, by omega⟩
theorem sgn_cut (n x : Int) : sgn n (cut n x) = sgn n x := by unfold sgn; rw [cut_cut]
theorem cut_mul_left (n x y : Int) : cut n (cut n x * y) = cut n (x * y) := by unfold cut; rw [Int.mul_emod, Int.emod_emod, ← Int.mul_emod]

theorem and_cut_8 (x : Int) (hx : 0 ≤ x) (hx' : x ≤ 18446744073709551615) : bits .and .u64 x 255 = cut 8 x := by
  unfold cut; rw [md_8]; go_bits2
theorem and_cut_16 (x : Int) (hx : 0 ≤ x) (hx' : x ≤ 18446744073709551615) : bits .and .u64 x 65535 = cut 16 x := by
  unfold cut; rw [md_16]; go_bits2
theorem and_cut_32 (x : Int) (hx : 0 ≤ x) (hx' : x ≤ 18446744073709551615) : bits .and .u64 x 4294967295 = cut 32 x := by
  unfold cut; rw [md_32]; go_bits2
theorem and_cut_64 (x : Int) (hx : 0 ≤ x) (hx' : x ≤ 18446744073709551615) : bits .and .u64 x 18446744073709551615 = cut 64 x := by
  unfold cut; rw [md_64]; go_bits2
  have e : x.toNat &&& 18446744073709551615 = x.toNat % 18446744073709551616 := Nat.and_two_pow_sub_one_eq_mod x.toNat 64
  rw [e]; omega
theorem mean_8 (x : Int) : wrap64 (IntKind.u64.wrap (x * 72057594037927936)) / 72057594037927936 = sgn 8 x := by
  unfold sgn cut wrap64; rw [md_8, u64_wrap]; split <;> omega
theorem mean_16 (x : Int) : wrap64 (IntKind.u64.wrap (x * 281474976710656)) / 281474976710656 = sgn 16 x := by
  unfold sgn cut wrap64; rw [md_16, u64_wrap]; split <;> omega
theorem mean_32 (x : Int) : wrap64 (IntKind.u64.wrap (x * 4294967296)) / 4294967296 = sgn 32 x := by
  unfold sgn cut wrap64; rw [md_32, u64_wrap]; split <;> omega
theorem mean_64 (x : Int) : wrap64 x = sgn 64 x := by
  unfold sgn cut wrap64; rw [md_64]; split <;> omega
def mn (s : Bool) (n x : Int) : Int := if s = true then sgn n x else cut n x
theorem mn_cut (s : Bool) (n x : Int) : mn s n (cut n x) = mn s n x := by
  unfold mn
  rw [sgn_cut, cut_cut]
theorem cut_sgn {n : Int} (x : Int) : cut n (sgn n x) = cut n x := by
  unfold sgn
  split
  · exact cut_cut n x
  · unfold cut
    rw [Int.sub_emod, Int.emod_self, Int.emod_emod, Int.sub_zero, Int.emod_emod]
theorem cut_mn (s : Bool) (n x : Int) : cut n (mn s n x) = cut n x := by
  unfold mn
  split
  · exact cut_sgn x
  · exact cut_cut n x
end Go.Proofs.Ytjlbenbfmookoaa
