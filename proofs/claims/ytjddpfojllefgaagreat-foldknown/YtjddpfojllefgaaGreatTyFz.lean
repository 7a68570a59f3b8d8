/-
  Types of numbers: what Binary answers.
-/
import Derived.Test.YtjddpfojllefgaaGreatRingz
import Derived.Laws.Bits64
import Derived.Laws.Bits64b
namespace Go.Proofs.YtjddpfojllefgaaGreat
open Go.RowKit
set_option linter.unusedSimpArgs false
set_option linter.unusedVariables false

theorem isW_p {b : Int} (h : IsW b) : IsW (pb b) := by
  unfold pb
  split
  · exact .inr (.inl rfl)
  · exact h
theorem isW_c {a b : Int} (ha : IsW a) (hb : IsW b) : IsW (cb a b) := by
  unfold cb
  split
  · exact isW_p hb
  · exact isW_p ha
theorem u_conv {x a b : Int} {s : Bool} (h : IsW b) : U (conv x a s b) := u_cut h _

set_option maxHeartbeats 1000000 in
theorem binary_no (k a b x y : Int) (s t : Bool) (w : World) (h : NoW x ∨ (IsW x ∧ NoW y) ∨ (IsW x ∧ IsW y ∧ (k < 9 ∨ 24 < k))) : Calls Tryz.prog 42 #[.int .i64 k, .int .u64 a, .int .u64 b, .agg #[.int .i64 x, .bool s], .agg #[.int .i64 y, .bool t]] w fun e w' => e = .returned (.tuple #[.int .u64 0, .int .i64 1]) ∧ Below w.heap.size w w' := by
  rcases h with h | ⟨h1, h2⟩ | ⟨h1, h2, h3⟩
  · go_enter Tryz.func42, Tryz.ntmps42
    go_wp2_with (go_at_call 55; refine (tvalid_no _ _ _ h).mono ?_; rintro e w1 ⟨rfl, k1⟩)
    go_ret2
    exact ⟨rfl, bT (below_a _ _) (bT (below_a _ _) k1)⟩
  · have B1 := hide (fun (w : World) => tvalid_yes x s w h1)
    have B2 := hide (fun (w : World) => tvalid_no y t w h2)
    go_enter Tryz.func42, Tryz.ntmps42
    go_wp2_with (first | (go_at_call 55; have K := k1; refine (unhide B2 _).mono ?_; rintro e w2 ⟨rfl, k2⟩; clear K) | (go_at_call 55; refine (unhide B1 _).mono ?_; rintro e w1 ⟨rfl, k1⟩; have R := hide ((Box.new (w.alloc (.cells #[.int .i64 x, .bool s] 24)) #[.int .i64 y, .bool t] 24).step k1); obtain ⟨c0, c1⟩ := (unhide R).at2; simp only [World.size_alloc] at c0 c1))
    go_ret2
    exact ⟨rfl, bT (below_a _ _) (bT (below_a _ _) (bT k1 k2))⟩
  · have B1 := hide (fun (w : World) => tvalid_yes x s w h1)
    have B2 := hide (fun (w : World) => tvalid_yes y t w h2)
    by_cases h4 : k < 9
    · have d1 : decide (k < 9) = true := by simpa using h4
      go_enter Tryz.func42, Tryz.ntmps42
      go_wp2_with (first | (go_at_call 55; have K := k1; refine (unhide B2 _).mono ?_; rintro e w2 ⟨rfl, k2⟩; clear K) | (go_at_call 55; refine (unhide B1 _).mono ?_; rintro e w1 ⟨rfl, k1⟩; have R := hide ((Box.new (w.alloc (.cells #[.int .i64 x, .bool s] 24)) #[.int .i64 y, .bool t] 24).step k1); obtain ⟨c0, c1⟩ := (unhide R).at2; simp only [World.size_alloc] at c0 c1))
      go_ret2
      exact ⟨rfl, bT (below_a _ _) (bT (below_a _ _) (bT k1 k2))⟩
    · have d1 : decide (k < 9) = false := by simpa using h4
      have d2 : decide (24 < k) = true := by simp; omega
      go_enter Tryz.func42, Tryz.ntmps42
      go_wp2_with (first | (go_at_call 55; have K := k1; refine (unhide B2 _).mono ?_; rintro e w2 ⟨rfl, k2⟩; clear K) | (go_at_call 55; refine (unhide B1 _).mono ?_; rintro e w1 ⟨rfl, k1⟩; have R := hide ((Box.new (w.alloc (.cells #[.int .i64 x, .bool s] 24)) #[.int .i64 y, .bool t] 24).step k1); obtain ⟨c0, c1⟩ := (unhide R).at2; simp only [World.size_alloc] at c0 c1))
      go_ret2
      exact ⟨rfl, bT (below_a _ _) (bT (below_a _ _) (bT k1 k2))⟩

/-- Two small blocks made one behind the other. -/
structure Duo (w wx : World) (a0 a1 b0 b1 : Value) : Prop where
  bel : Below w.heap.size w wx
  A : Box wx w.heap.size [a0, a1]
  B : Box wx (w.heap.size + 1) [b0, b1]
theorem Duo.new {w w1 : World} {T : TypeId} {a0 a1 b0 b1 : Value} (k : Below ((w.alloc (.cells #[a0, a1] T)).alloc (.cells #[b0, b1] T)).heap.size ((w.alloc (.cells #[a0, a1] T)).alloc (.cells #[b0, b1] T)) w1) : Duo w w1 a0 a1 b0 b1 := by
  have h1 := below_a w (.cells #[a0, a1] T)
  have h2 := below_a (w.alloc (.cells #[a0, a1] T)) (.cells #[b0, b1] T)
  have A := Box.new w #[a0, a1] T
  have B := Box.new (w.alloc (.cells #[a0, a1] T)) #[b0, b1] T
  simp only [World.size_alloc] at B
  exact ⟨bT h1 (bT h2 k), (A.step h2).step k, B.step k⟩
theorem Duo.step {w w1 w2 : World} {a0 a1 b0 b1 : Value} (h : Duo w w1 a0 a1 b0 b1) (k : Below w1.heap.size w1 w2) : Duo w w2 a0 a1 b0 b1 := ⟨bT h.bel k, h.A.step k, h.B.step k⟩
end Go.Proofs.YtjddpfojllefgaaGreat

/-
  Numbers in wider types: plain facts.
-/
namespace Go.Proofs.YtjddpfojllefgaaGreat
open Go.RowKit
set_option linter.unusedSimpArgs false
set_option linter.unusedVariables false

theorem md_le_dvd {x W : Int} (hx : IsW x) (hW : IsW W) (h : x ≤ W) : md x ∣ md W := by
  rcases hx with rfl | rfl | rfl | rfl <;> rcases hW with rfl | rfl | rfl | rfl <;> first | (exfalso; omega) | decide
theorem cut_le {x W : Int} (hx : IsW x) (hW : IsW W) (h : x ≤ W) (z : Int) : cut x (cut W z) = cut x z := Int.emod_emod_of_dvd _ (md_le_dvd hx hW h)
theorem cut_mn_le {x W : Int} (hx : IsW x) (hW : IsW W) (h : x ≤ W) (s : Bool) (z : Int) : cut x (mn s W z) = cut x z := by
  rw [← cut_le hx hW h, cut_mn, cut_le hx hW h]
theorem cut_nat (x : Int) (m : Nat) : cut x (m : Int) = ((m % 2 ^ x.toNat : Nat) : Int) := by
  unfold cut md
  rw [Int.natCast_emod, Int.natCast_pow]
  rfl
theorem u_nat {a : Int} (h : U a) : ∃ m : Nat, a = m ∧ m < 18446744073709551616 := ⟨a.toNat, by have := h.1; omega, by have := h.2; omega⟩
theorem mod_lt64 {m k : Nat} (h : m < 18446744073709551616) : m % k < 18446744073709551616 := Nat.lt_of_le_of_lt (Nat.mod_le _ _) h
theorem cut_and (x : Int) {a b : Int} (ha : U a) (hb : U b) : cut x (bits .and .u64 a b) = bits .and .u64 (cut x a) (cut x b) := by
  obtain ⟨m, rfl, h1⟩ := u_nat ha
  obtain ⟨n, rfl, h2⟩ := u_nat hb
  rw [bits_and_u64_nat m n h1 h2, cut_nat, cut_nat, cut_nat, bits_and_u64_nat _ _ (mod_lt64 h1) (mod_lt64 h2), Nat.and_mod_two_pow]
theorem cut_xor (x : Int) {a b : Int} (ha : U a) (hb : U b) : cut x (bits .xor .u64 a b) = bits .xor .u64 (cut x a) (cut x b) := by
  obtain ⟨m, rfl, h1⟩ := u_nat ha
  obtain ⟨n, rfl, h2⟩ := u_nat hb
  rw [bits_xor_u64_nat m n h1 h2, cut_nat, cut_nat, cut_nat, bits_xor_u64_nat _ _ (mod_lt64 h1) (mod_lt64 h2), Nat.xor_mod_two_pow]
theorem cut_or (x : Int) {a b : Int} (ha : U a) (hb : U b) : cut x (bits .or .u64 a b) = bits .or .u64 (cut x a) (cut x b) := by
  obtain ⟨m, rfl, h1⟩ := u_nat ha
  obtain ⟨n, rfl, h2⟩ := u_nat hb
  rw [bits_or_u64_nat m n h1 h2, cut_nat, cut_nat, cut_nat, bits_or_u64_nat _ _ (mod_lt64 h1) (mod_lt64 h2), Nat.or_mod_two_pow]

theorem cb_self {x : Int} (h : 16 ≤ x) : cb x x = x := by
  unfold cb pb
  rw [if_neg (by omega)]
  simp
  omega
theorem cs_self {x : Int} (s : Bool) (h : 16 ≤ x) : cs x s x s = s := by
  unfold cs ps
  rw [if_neg (by omega)]
  simp
  omega
def nwB (k : Int) : Prop := k = 9 ∨ k = 12 ∨ k = 13 ∨ k = 22 ∨ k = 23 ∨ k = 24
theorem nw_wk {k : Int} (h : nwB k) : wkB k := by unfold nwB at h; unfold wkB; omega
theorem nw_ok {k : Int} (h : nwB k) (s : Bool) (n a b : Int) : (wrk k s n a b).2 = 0 := by
  rcases h with rfl | rfl | rfl | rfl | rfl | rfl <;> rfl
theorem narrow {k x W a b : Int} {s t : Bool} (hk : nwB k) (hx : IsW x) (hW : IsW W) (h16 : 16 ≤ x) (h : x ≤ W) :
    conv (wrk k (cs W t W t) (cb W W) (conv (conv a x s W) W t (cb W W)) (conv (conv b x s W) W t (cb W W))).1 W t x = (wrk k (cs x s x s) (cb x x) (conv a x s (cb x x)) (conv b x s (cb x x))).1 := by
  rw [cb_self h16, cs_self s h16, cb_self (show 16 ≤ W by omega), cs_self t (show 16 ≤ W by omega)]
  have e1 : ∀ z, conv z x s x = cut x z := fun z => cut_mn s x z
  have e2 : ∀ z, conv z W t W = cut W z := fun z => cut_mn t W z
  have e3 : ∀ z, conv z W t x = cut x z := fun z => cut_mn_le hx hW h t z
  have e4 : ∀ z, cut W (conv z x s W) = conv z x s W := fun z => cut_cut W _
  have e5 : ∀ z, cut x (conv z x s W) = cut x z := fun z => by unfold conv; rw [cut_le hx hW h, cut_mn]
  rw [e1, e1, e2, e2, e3, e4, e4]
  have u1 : U (conv a x s W) := u_conv hW
  have u2 : U (conv b x s W) := u_conv hW
  rcases hk with rfl | rfl | rfl | rfl | rfl | rfl
  · show cut x (cut W (conv a x s W * conv b x s W)) = cut x (cut x a * cut x b)
    rw [cut_le hx hW h, ← cut_mul x (conv a x s W), e5, e5]
  · show cut x (cut W (conv a x s W + conv b x s W)) = cut x (cut x a + cut x b)
    rw [cut_le hx hW h, ← cut_add x (conv a x s W), e5, e5]
  · show cut x (cut W (conv a x s W - conv b x s W)) = cut x (cut x a - cut x b)
    rw [cut_le hx hW h, ← cut_sub x (conv a x s W), e5, e5]
  · show cut x (bits .and .u64 _ _) = bits .and .u64 _ _
    rw [cut_and x u1 u2, e5, e5]
  · show cut x (bits .xor .u64 _ _) = bits .xor .u64 _ _
    rw [cut_xor x u1 u2, e5, e5]
  · show cut x (bits .or .u64 _ _) = bits .or .u64 _ _
    rw [cut_or x u1 u2, e5, e5]
end Go.Proofs.YtjddpfojllefgaaGreat
