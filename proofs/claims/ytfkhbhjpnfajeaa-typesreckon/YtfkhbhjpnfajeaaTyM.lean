/-
  Numbers in wider types: plain facts.
-/
import Derived.Test.YtfkhbhjpnfajeaaTyF
import Derived.Laws.Bits64
import Derived.Laws.Bits64b
namespace Go.Proofs.Ytfkhbhjpnfajeaa
open Go.RowKit
set_option linter.unusedSimpArgs false
set_option linter.unusedVariables false

theorem md_le_dvd {x W : Int} (hx : IsW x) (hW : IsW W) (h : x ≤ W) : md x ∣ md W := by
  rcases hx with rfl | rfl | rfl | rfl <;> rcases hW with rfl | rfl | rfl | rfl <;> first | (exfalso; omega) | decide
theorem cut_le {x W : Int} (hx : IsW x) (hW : IsW W) (h : x ≤ W) (z : Int) : cut x (cut W z) = cut x z := Int.emod_emod_of_dvd _ (md_le_dvd hx hW h)
theorem cut_mn_le {x W : Int} (hx : IsW x) (hW : IsW W) (h : x ≤ W) (s : Bool) (z : Int) : cut x (mn s W z) = cut x z := by
  rw [← cut_le hx hW h, cut_mn, cut_le hx hW h]
theorem cut_nat (x : Int) (m : Nat) : cut x (m : Int) = ((m % 2 ^ x.toNat : Nat) : Int) := by
  unfold cut md
  rw [Int.natCast_emod, Int.natCast_pow]
  rfl
theorem u_nat {a : Int} (h : U a) : ∃ m : Nat, a = m ∧ m < 18446744073709551616 := ⟨a.toNat, by have := h.1; omega, by have := h.2; omega⟩
theorem mod_lt64 {m k : Nat} (h : m < 18446744073709551616) : m % k < 18446744073709551616 := Nat.lt_of_le_of_lt (Nat.mod_le _ _) h
theorem cut_and (x : Int) {a b : Int} (ha : U a) (hb : U b) : cut x (bits .and .u64 a b) = bits .and .u64 (cut x a) (cut x b) := by
  obtain ⟨m, rfl, h1⟩ := u_nat ha
  obtain ⟨n, rfl, h2⟩ := u_nat hb
  rw [bits_and_u64_nat m n h1 h2, cut_nat, cut_nat, cut_nat, bits_and_u64_nat _ _ (mod_lt64 h1) (mod_lt64 h2), Nat.and_mod_two_pow]
theorem cut_xor (x : Int) {a b : Int} (ha : U a) (hb : U b) : cut x (bits .xor .u64 a b) = bits .xor .u64 (cut x a) (cut x b) := by
  obtain ⟨m, rfl, h1⟩ := u_nat ha
  obtain ⟨n, rfl, h2⟩ := u_nat hb
  rw [bits_xor_u64_nat m n h1 h2, cut_nat, cut_nat, cut_nat, bits_xor_u64_nat _ _ (mod_lt64 h1) (mod_lt64 h2), Nat.xor_mod_two_pow]
theorem cut_or (x : Int) {a b : Int} (ha : U a) (hb : U b) : cut x (bits .or .u64 a b) = bits .or .u64 (cut x a) (cut x b) := by
  obtain ⟨m, rfl, h1⟩ := u_nat ha
  obtain ⟨n, rfl, h2⟩ := u_nat hb
  rw [bits_or_u64_nat m n h1 h2, cut_nat, cut_nat, cut_nat, bits_or_u64_nat _ _ (mod_lt64 h1) (mod_lt64 h2), Nat.or_mod_two_pow]

theorem cb_self {x : Int} (h : 16 ≤ x) : cb x x = x := by
  unfold cb pb
  rw [if_neg (by omega)]
  simp
  omega
theorem cs_self {x : Int} (s : Bool) (h : 16 ≤ x) : cs x s x s = s := by
  unfold cs ps
  rw [if_neg (by omega)]
  simp
  omega
def nwB (k : Int) : Prop := k = 9 ∨ k = 12 ∨ k = 13 ∨ k = 22 ∨ k = 23 ∨ k = 24
theorem nw_wk {k : Int} (h : nwB k) : wkB k := by unfold nwB at h; unfold wkB; omega
theorem nw_ok {k : Int} (h : nwB k) (s : Bool) (n a b : Int) : (wrk k s n a b).2 = 0 := by
  rcases h with rfl | rfl | rfl | rfl | rfl | rfl <;> rfl
theorem narrow {k x W a b : Int} {s t : Bool} (hk : nwB k) (hx : IsW x) (hW : IsW W) (h16 : 16 ≤ x) (h : x ≤ W) :
    conv (wrk k (cs W t W t) (cb W W) (conv (conv a x s W) W t (cb W W)) (conv (conv b x s W) W t (cb W W))).1 W t x = (wrk k (cs x s x s) (cb x x) (conv a x s (cb x x)) (conv b x s (cb x x))).1 := by
  rw [cb_self h16, cs_self s h16, cb_self (show 16 ≤ W by omega), cs_self t (show 16 ≤ W by omega)]
  have e1 : ∀ z, conv z x s x = cut x z := fun z => cut_mn s x z
  have e2 : ∀ z, conv z W t W = cut W z := fun z => cut_mn t W z
  have e3 : ∀ z, conv z W t x = cut x z := fun z => cut_mn_le hx hW h t z
  have e4 : ∀ z, cut W (conv z x s W) = conv z x s W := fun z => cut_cut W _
  have e5 : ∀ z, cut x (conv z x s W) = cut x z := fun z => by unfold conv; rw [cut_le hx hW h, cut_mn]
  rw [e1, e1, e2, e2, e3, e4, e4]
  have u1 : U (conv a x s W) := u_conv hW
  have u2 : U (conv b x s W) := u_conv hW
  rcases hk with rfl | rfl | rfl | rfl | rfl | rfl
  · show cut x (cut W (conv a x s W * conv b x s W)) = cut x (cut x a * cut x b)
    rw [cut_le hx hW h, ← cut_mul x (conv a x s W), e5, e5]
  · show cut x (cut W (conv a x s W + conv b x s W)) = cut x (cut x a + cut x b)
    rw [cut_le hx hW h, ← cut_add x (conv a x s W), e5, e5]
  · show cut x (cut W (conv a x s W - conv b x s W)) = cut x (cut x a - cut x b)
    rw [cut_le hx hW h, ← cut_sub x (conv a x s W), e5, e5]
  · show cut x (bits .and .u64 _ _) = bits .and .u64 _ _
    rw [cut_and x u1 u2, e5, e5]
  · show cut x (bits .xor .u64 _ _) = bits .xor .u64 _ _
    rw [cut_xor x u1 u2, e5, e5]
  · show cut x (bits .or .u64 _ _) = bits .or .u64 _ _
    rw [cut_or x u1 u2, e5, e5]
end Go.Proofs.Ytfkhbhjpnfajeaa
