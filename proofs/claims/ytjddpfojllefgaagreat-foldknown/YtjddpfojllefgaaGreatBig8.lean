/-
  left.
-/
import Derived.Test.YtjddpfojllefgaaGreatBig4
namespace Go.Proofs.YtjddpfojllefgaaGreat
open Go.RowKit
set_option linter.unusedSimpArgs false
set_option linter.unusedVariables false

/-- The first i words have been moved up by q words and s bits. -/
structure LeftInv (A R : List Int) (q s i : Nat) : Prop where
  len : R.length = A.length + q + 1
  wds : Wds R
  zer : ∀ j, i + q + 1 ≤ j → R.getD j 0 = 0
  top : R.getD (i + q) 0 < 2 ^ s
  val : vl R = 4294967296 ^ q * 2 ^ s * vl (A.take i)
theorem LeftInv.start (A : List Int) (q s : Nat) : LeftInv A (List.replicate (A.length + q + 1) 0) q s 0 :=
  ⟨by simp, wds_rep _, fun j _ => getD_rep _ j, by rw [getD_rep]; exact Int.pow_pos (by decide), by rw [vl_rep]; simp [vl]⟩
theorem two_pow_le {s : Nat} (h : s ≤ 31) : (2 : Int) ^ s ≤ 2147483648 ∧ 0 < (2 : Int) ^ s ∧ (2 : Int) ^ s * 2 ^ (32 - s) = 4294967296 := by
  have h1 : (0 : Int) < 2 ^ s := Int.pow_pos (by decide)
  have h2 : (0 : Int) < 2 ^ (32 - s) := Int.pow_pos (by decide)
  have h3 : (2 : Int) ^ s * 2 ^ (32 - s) = 4294967296 := by rw [← Int.pow_add, show s + (32 - s) = 32 by omega]; decide
  refine ⟨?_, h1, h3⟩
  have h4 : (2 : Int) ^ 1 ≤ 2 ^ (32 - s) := by
    rw [show 32 - s = 1 + (31 - s) by omega, Int.pow_add]
    have : (0 : Int) < 2 ^ (31 - s) := Int.pow_pos (by decide)
    omega
  have h5 := Int.mul_le_mul_of_nonneg_left h4 (Int.le_of_lt h1)
  omega
/-- The word's bits, moved up: what goes into the word, and what goes out. -/
theorem shl_parts {x : Int} {s : Nat} (hs : s ≤ 31) (hx : 0 ≤ x ∧ x ≤ 4294967295) : 0 ≤ x * 2 ^ s ∧ x * 2 ^ s ≤ 18446744073709551615 ∧ x * 2 ^ s / 4294967296 < 2 ^ s ∧ ∃ k, 0 ≤ k ∧ x * 2 ^ s % 4294967296 = k * 2 ^ s := by
  obtain ⟨p1, p2, p3⟩ := two_pow_le hs
  have h1 : x * 2 ^ s ≤ 4294967295 * 2 ^ s := Int.mul_le_mul_of_nonneg_right hx.2 (Int.le_of_lt p2)
  refine ⟨Int.mul_nonneg hx.1 (Int.le_of_lt p2), by omega, ?_, ?_⟩
  · apply Int.ediv_lt_of_lt_mul (by decide)
    omega
  · have p4 : (0 : Int) < 2 ^ (32 - s) := Int.pow_pos (by decide)
    refine ⟨x % 2 ^ (32 - s), Int.emod_nonneg _ (by omega), ?_⟩
    rw [← p3, Int.mul_comm x, Int.mul_emod_mul_of_pos _ _ p2, Int.mul_comm]
theorem or_add {z k : Int} {s : Nat} (hz : 0 ≤ z ∧ z < 2 ^ s) (hk : 0 ≤ k) (hb : k * 2 ^ s ≤ 4294967295) (hs : s ≤ 31) : bits .or .u32 z (k * 2 ^ s) = z + k * 2 ^ s := by
  obtain ⟨a, rfl⟩ := Int.eq_ofNat_of_zero_le hz.1
  obtain ⟨b, rfl⟩ := Int.eq_ofNat_of_zero_le hk
  have h2 : a < 2 ^ s := by have := hz.2; exact_mod_cast this
  have h := Nat.shiftLeft_add_eq_or_of_lt (i := s) (b := a) h2 b
  rw [Nat.shiftLeft_eq, Nat.or_comm] at h
  have q1 : (0 : Int) ≤ (b : Int) * 2 ^ s := Int.mul_nonneg (by omega) (Int.le_of_lt (Int.pow_pos (by decide)))
  have q2 : ((b : Int) * 2 ^ s).toNat = b * 2 ^ s := by
    have : ((b : Int) * 2 ^ s) = ((b * 2 ^ s : Nat) : Int) := by push_cast; rfl
    rw [this]; exact Int.toNat_natCast _
  obtain ⟨p1, p2, p3⟩ := two_pow_le hs
  rw [u32_or _ _ (by omega) (by omega) (by omega) (by omega), q2, Int.toNat_natCast, ← h]
  push_cast
  omega
theorem or_zero {z : Int} (hz : 0 ≤ z ∧ z ≤ 4294967295) : bits .or .u32 0 z = z := by
  obtain ⟨h1, h2⟩ := hz
  go_bits2
theorem LeftInv.next {A R : List Int} {q s i : Nat} (h : LeftInv A R q s i) (hi : i < A.length) (hA : Wds A) (hs : s ≤ 31) :
    LeftInv A ((R.set (i + q) (R.getD (i + q) 0 + A.getD i 0 * 2 ^ s % 4294967296)).set (i + q + 1) (A.getD i 0 * 2 ^ s / 4294967296)) q s (i + 1) ∧ 0 ≤ R.getD (i + q) 0 + A.getD i 0 * 2 ^ s % 4294967296 ∧ R.getD (i + q) 0 + A.getD i 0 * 2 ^ s % 4294967296 ≤ 4294967295 := by
  obtain ⟨h1, h2, h3, h4, h5⟩ := h
  have a := hA.get i
  obtain ⟨m1, m2, m3, k, m4, m5⟩ := shl_parts hs a
  have z := h2.get (i + q)
  obtain ⟨p1, p2, p3⟩ := two_pow_le hs
  have hb : R.getD (i + q) 0 + A.getD i 0 * 2 ^ s % 4294967296 ≤ 4294967295 := by
    rw [m5]
    have c1 : k < 2 ^ (32 - s) := by
      have : k * 2 ^ s < 2 ^ (32 - s) * 2 ^ s := by rw [← m5, Int.mul_comm (2 ^ (32 - s)), p3]; omega
      exact Int.lt_of_mul_lt_mul_right this (Int.le_of_lt p2)
    have c2 : (k + 1) * 2 ^ s ≤ 2 ^ (32 - s) * 2 ^ s := Int.mul_le_mul_of_nonneg_right (by omega) (Int.le_of_lt p2)
    rw [Int.mul_comm (2 ^ (32 - s)), p3, Int.add_mul, Int.one_mul] at c2
    omega
  have t := vl_take A i
  have s1 := vl_set R (i + q) (R.getD (i + q) 0 + A.getD i 0 * 2 ^ s % 4294967296) (by omega)
  have s2 := vl_set (R.set (i + q) (R.getD (i + q) 0 + A.getD i 0 * 2 ^ s % 4294967296)) (i + q + 1) (A.getD i 0 * 2 ^ s / 4294967296) (by rw [List.length_set]; omega)
  rw [getD_set_ne (by omega), h3 _ (Nat.le_refl _)] at s2
  have w1 : Wds (R.set (i + q) (R.getD (i + q) 0 + A.getD i 0 * 2 ^ s % 4294967296)) := h2.set _ (by omega)
  refine ⟨⟨by rw [List.length_set, List.length_set]; exact h1, w1.set _ (by omega), fun j hj => by rw [getD_set_ne (by omega), getD_set_ne (by omega)]; exact h3 j (by omega), ?_, ?_⟩, by omega, hb⟩
  · rw [show i + 1 + q = i + q + 1 by omega, getD_set_self (by rw [List.length_set]; omega)]; exact m3
  · rw [s2, s1, t, h5]
    have dm : A.getD i 0 * 2 ^ s = A.getD i 0 * 2 ^ s % 4294967296 + 4294967296 * (A.getD i 0 * 2 ^ s / 4294967296) := by omega
    have e1 : (4294967296 : Int) ^ (i + q + 1) = 4294967296 ^ i * 4294967296 ^ q * 4294967296 := by rw [Int.pow_succ, Int.pow_add]
    have e2 : (4294967296 : Int) ^ (i + q) = 4294967296 ^ i * 4294967296 ^ q := Int.pow_add ..
    rw [e1, e2]
    generalize A.getD i 0 * 2 ^ s % 4294967296 = u at *
    generalize A.getD i 0 * 2 ^ s / 4294967296 = v at *
    generalize A.getD i 0 = x at *
    generalize R.getD (i + q) 0 = y at *
    generalize (2 : Int) ^ s = T at *
    generalize (4294967296 : Int) ^ i = P at *
    generalize (4294967296 : Int) ^ q = Q at *
    clear s1 s2 t h1 h2 h3 h4 h5 m1 m2 m3 m4 m5 z p1 p2 p3 hb w1 a e1 e2
    grind
theorem make32q (n q : Nat) (hn : n + q ≤ 900) (w : World) : (Instr.makeSlice 67 (.int .i64 ((n : Int) + (q : Int) + 1)) (.int .i64 ((n : Int) + (q : Int) + 1))).run Tryz.prog w = .ok (.slice (some ⟨w.heap.size, 0, none⟩) (n + q + 1) (n + q + 1)) (w.alloc (.cells (madeCells #[.int .u32 0] (n + q + 1)) 91)) :=
  make32 (n + q + 1) (by omega) w
set_option maxHeartbeats 1000000 in
theorem left_any (v : Value) (n : Int) (k : Nat) (w : World) (h : Dg w v n) (hn : n < 4294967296 ^ 8) (hk : k ≤ 1000) :
    Calls Tryz.prog 71 #[v, .int .u64 (k : Int)] w fun e w' => Below w.heap.size w w' ∧ ∃ v', e = .returned v' ∧ Dg w' v' (n * 2 ^ k) := by
  obtain ⟨LA, rA, iA⟩ := h
  have lA := iA.len 8 hn
  obtain ⟨aoA, capA, rfl, _, _, _, hA4, hA5, hA6⟩ := rA.at
  have HRA := hide (fun d (he : aoA = some ⟨d, 0, none⟩) => And.intro (hA4 d 0 none he).2.2 (hA6 d he))
  have HA5 := hide hA5
  have IA := hide iA
  have zA := iA.zero
  clear hA4 hA5 hA6 rA iA
  by_cases l0 : LA.length = 0
  · have e0 := zA.1 l0
    subst e0
    rw [Int.zero_mul]
    rw [l0]
    clear HRA HA5 zA
    go_enter Tryz.func71, Tryz.ntmps71
    go_wp2_with fail
    go_ret
    exact ⟨Below.refl _ _, _, rfl, Dg.nil _⟩
  · have hb1 : ((LA.length : Int) == 0) = false := beq_eq_false_iff_ne.2 (by omega)
    obtain ⟨dA, rfl⟩ := unhide HA5 l0
    obtain ⟨hdA, hcA⟩ := unhide HRA dA rfl
    have HCA := hide hcA
    obtain ⟨q, s, hs, hks⟩ : ∃ q s : Nat, s ≤ 31 ∧ k = 32 * q + s := ⟨k / 32, k % 32, by omega, by omega⟩
    have hq1 : (k : Int) / 32 = (q : Int) := by omega
    have hq2 : (k : Int) % 32 = (s : Int) := by omega
    have hq : q ≤ 40 := by omega
    have HP := hide (show n * 2 ^ k = 4294967296 ^ q * 2 ^ s * n by
      rw [hks, Int.pow_add, Int.pow_mul, Int.mul_comm]; rfl)
    have O0 := hide (Own32.new w (LA.length + q + 1))
    have K0 := hide (below_a w (.cells (madeCells #[.int .u32 0] (LA.length + q + 1)) 91))
    have hmk := make32q LA.length q (by omega)
    clear hcA HRA HA5 zA hks
    go_enter Tryz.func71, Tryz.ntmps71
    go_wp2_with fail
    clear hmk hb1
    go_loopg [8] LA.length (fun g t wr => ∃ (i : Nat) (R : List Int), i ≤ LA.length ∧ g = LA.length - i ∧ t = .int .i64 i ∧ Hid (Own32 wr w.heap.size R) ∧ Hid (Below w.heap.size w wr) ∧ Hid (LeftInv LA R q s i))
    case atStart => exact ⟨0, _, Nat.zero_le _, by simp, rfl, O0, K0, LeftInv.start LA q s⟩
    case round =>
      obtain ⟨i, R, hi, hg, rfl, hO, hK, hI⟩ := hrel
      clear O0 K0
      have hz := (unhide hK).size
      have hlt := (unhide hO).lt
      have hRl := hide (unhide hI).len
      by_cases hlt2 : i < LA.length
      · have hiA : (i : Int) < (LA.length : Int) := by omega
        have cA := cell_keep (unhide hK) hdA (unhide HCA i hlt2)
        have gA := (unhide IA).1.get i
        have f1 := (unhide hO).frozen (i + q)
        have f2 := (unhide hO).frozen (i + q + 1)
        have c1 := (unhide hO).cell (i + q) (by have := unhide hRl; omega)
        have c2 := (unhide hO).cell (i + q + 1) (by have := unhide hRl; omega)
        rw [(unhide hI).zer _ (Nat.le_refl _)] at c2
        obtain ⟨nx, b1, b2⟩ := (unhide hI).next hlt2 (unhide IA).1 hs
        have NX := hide nx
        clear nx
        obtain ⟨m1, m2, m3, kk, m4, m5⟩ := shl_parts hs gA
        obtain ⟨p1, p2, p3⟩ := two_pow_le hs
        have gR := (unhide hI).wds.get (i + q)
        have oa := or_add ⟨gR.1, (unhide hI).top⟩ m4 (by rw [← m5]; omega) hs
        rw [← m5] at oa
        have oz := or_zero (z := LA.getD i 0 * 2 ^ s / 4294967296) (by omega)
        have OX := hide (((unhide hO).set (i + q) (R.getD (i + q) 0 + LA.getD i 0 * 2 ^ s % 4294967296) (by have := unhide hRl; omega)).set (i + q + 1) (LA.getD i 0 * 2 ^ s / 4294967296) (by rw [List.length_set]; have := unhide hRl; omega))
        have KX := hide (((unhide hK).setCell (p := ⟨w.heap.size, i + q, none⟩) (Nat.le_refl _) (.int .u32 (R.getD (i + q) 0 + LA.getD i 0 * 2 ^ s % 4294967296))).setCell (p := ⟨w.heap.size, i + q + 1, none⟩) (Nat.le_refl _) (.int .u32 (LA.getD i 0 * 2 ^ s / 4294967296)))
        have hneA : dA ≠ w.heap.size := by omega
        have hij1 : ((i : Int) + (q : Int)) < (LA.length : Int) + (q : Int) + 1 := by omega
        have hij2 : ((i : Int) + (q : Int)).toNat = i + q := by omega
        have hij0 : (0 : Int) ≤ (i : Int) + (q : Int) := by omega
        have hik1 : ((i : Int) + (q : Int) + 1) < (LA.length : Int) + (q : Int) + 1 := by omega
        have hik2 : ((i : Int) + (q : Int) + 1).toNat = i + q + 1 := by omega
        have hik0 : (0 : Int) ≤ (i : Int) + (q : Int) + 1 := by omega
        have hqq : i + q ≠ i + q + 1 := by omega
        have hss : ((s : Int)).toNat = s := by omega
        have hs64 : (s : Int) < 64 := by omega
        clear m3 m4 m5 p1 p2 p3
        generalize LA.getD i 0 = x at *
        generalize R.getD (i + q) 0 = z at *
        obtain ⟨P, hP⟩ : ∃ P, x * 2 ^ s = P := ⟨_, rfl⟩
        rw [hP] at b1 b2 m1 m2 oa oz NX OX KX
        go_wp2_with fail
        go_roundg (LA.length - (i + 1))
        case measure => omega
        case rel => exact ⟨i + 1, _, by omega, rfl, by go_num, OX, KX, NX⟩
      · have hiA : i = LA.length := by omega
        subst hiA
        have hv : vl R = n * 2 ^ k := by have := (unhide hI).val; rw [List.take_of_length_le (Nat.le_refl _), (unhide IA).2.2] at this; rw [unhide HP]; exact this
        have RW := (unhide hO).row (by rw [unhide hRl]; unfold maxLen; omega)
        have TR := trim_any _ _ _ RW (unhide hI).wds (by rw [unhide hRl]; omega)
        rw [unhide hRl, hv] at TR
        have HT := hide TR
        clear TR RW hv
        go_wp2_with fail
        refine (unhide HT).mono ?_
        rintro e w1 ⟨rfl, v1, rfl, D1⟩
        have HD := hide D1
        clear D1
        go_wp2_with fail
        go_ret
        exact ⟨unhide hK, _, rfl, unhide HD⟩
end Go.Proofs.YtjddpfojllefgaaGreat
