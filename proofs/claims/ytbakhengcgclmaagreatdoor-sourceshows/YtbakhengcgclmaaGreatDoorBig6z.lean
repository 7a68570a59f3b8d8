/-
  cmp and twin.
-/
import Derived.Test.YtbakhengcgclmaaGreatDoorBig3z
import Derived.Test.YtbakhengcgclmaaGreatDoorRegz
namespace Go.Proofs.YtbakhengcgclmaaGreatDoor
open Go.RowKit
set_option linter.unusedSimpArgs false
set_option linter.unusedVariables false

/-- -1, 0 or 1. -/
def cm (a b : Int) : Int := if a < b then -1 else if a = b then 0 else 1
theorem vl_parts (L : List Int) (m : Nat) : vl L = vl (L.take m) + 4294967296 ^ m * L.getD m 0 + 4294967296 ^ (m + 1) * vl (L.drop (m + 1)) := by
  have e := vl_app (L.take (m + 1)) (L.drop (m + 1))
  rw [List.take_append_drop, vl_take] at e
  by_cases h : m + 1 ≤ L.length
  · rw [List.length_take, Nat.min_eq_left h] at e; exact e
  · rw [List.drop_eq_nil_of_le (by omega)] at e ⊢
    simpa [vl] using e
theorem drop_eq {A B : List Int} {k : Nat} (hl : A.length = B.length) (h : ∀ j, k ≤ j → A.getD j 0 = B.getD j 0) : A.drop k = B.drop k := by
  apply List.ext_getElem? 
  intro j
  rw [List.getElem?_drop, List.getElem?_drop]
  by_cases hj : k + j < A.length
  · rw [getD_of_lt hj, getD_of_lt (by omega), h _ (by omega)]
  · rw [List.getElem?_eq_none (by omega), List.getElem?_eq_none (by omega)]
theorem cm_at {A B : List Int} {m : Nat} (hA : Wds A) (hB : Wds B) (hl : A.length = B.length) (hm : m < A.length) (h : ∀ j, m + 1 ≤ j → A.getD j 0 = B.getD j 0) (hx : A.getD m 0 < B.getD m 0) : vl A < vl B := by
  have a := vl_parts A m
  have b := vl_parts B m
  rw [drop_eq hl h] at a
  have ta := vl_hi (hA.take m)
  have tb := vl_lo (hB.take m)
  rw [List.length_take, Nat.min_eq_left (by omega)] at ta
  have g : (4294967296 : Int) ^ m * (A.getD m 0 + 1) ≤ 4294967296 ^ m * B.getD m 0 := Int.mul_le_mul_of_nonneg_left (by omega) (Int.le_of_lt (bp_pos m))
  rw [Int.mul_add, Int.mul_one] at g
  omega
theorem cm_len {A B : List Int} {n m : Int} (hA : Is A n) (hB : Is B m) (h : A.length < B.length) : n < m := by
  have a := hA.hi
  have b := is_top hB (k := B.length - 1) (by omega)
  have c := bp_le (a := A.length) (b := B.length - 1) (by omega)
  omega
theorem drew_e1 (w : World) (a : Nat) : ∃ q, w.drewN a = w.drewN q := ⟨a, rfl⟩
theorem drew_e2 (w : World) (a b : Nat) : ∃ q, (w.drewN a).drewN b = w.drewN q := ⟨a + b, by rw [World.drewN_drewN]⟩
theorem drew_e3 (w : World) (a b c : Nat) : ∃ q, ((w.drewN a).drewN b).drewN c = w.drewN q := ⟨a + (b + c), by rw [World.drewN_drewN, World.drewN_drewN]⟩
set_option maxHeartbeats 1000000 in
theorem cmp_any (v1 v2 : Value) (n1 n2 : Int) (w : World) (h1 : Dg w v1 n1) (h2 : Dg w v2 n2) (hn1 : n1 < 4294967296 ^ 8) (hn2 : n2 < 4294967296 ^ 8) :
    Calls Tryz.prog 80 #[v1, v2] w fun e w' => (∃ q, w' = w.drewN q) ∧ e = .returned (.int .i64 (cm n1 n2)) := by
  obtain ⟨LA, rA, iA⟩ := h1
  obtain ⟨LB, rB, iB⟩ := h2
  have lA := iA.len 8 hn1
  have lB := iB.len 8 hn2
  obtain ⟨aoA, capA, rfl, _, _, _, hA4, hA5, hA6⟩ := rA.at
  obtain ⟨aoB, capB, rfl, _, _, _, hB4, hB5, hB6⟩ := rB.at
  have HRA := hide (fun d (he : aoA = some ⟨d, 0, none⟩) => And.intro (hA4 d 0 none he).2.2 (hA6 d he))
  have HRB := hide (fun d (he : aoB = some ⟨d, 0, none⟩) => And.intro (hB4 d 0 none he).2.2 (hB6 d he))
  have HA5 := hide hA5
  have HB5 := hide hB5
  have IA := hide iA
  have IB := hide iB
  clear hA4 hA5 hA6 hB4 hB5 hB6 rA rB iA iB
  by_cases hne : LA.length = LB.length
  · have hE : ((LA.length : Int) != (LB.length : Int)) = false := by rw [hne]; simp
    have HN := hide hne
    clear hne
    go_enter Tryz.func80, Tryz.ntmps80
    go_wp2_with fail
    clear hE
    go_loopg [5] LA.length (fun g t wr => ∃ (k : Nat), k ≤ LA.length ∧ g = k ∧ t = .int .i64 ((k : Int) - 1) ∧ (∃ q, wr = w.drewN q) ∧ Hid (∀ j, k ≤ j → LA.getD j 0 = LB.getD j 0))
    case atStart =>
      refine ⟨LA.length, Nat.le_refl _, rfl, by go_num, ⟨0, rfl⟩, fun j hj => ?_⟩
      rw [List.getD_eq_getElem?_getD, List.getD_eq_getElem?_getD, List.getElem?_eq_none hj, List.getElem?_eq_none (by have := unhide HN; omega)]
    case round =>
      obtain ⟨k, hk, hg, rfl, ⟨q, rfl⟩, hz⟩ := hrel
      by_cases k0 : k = 0
      · subst k0
        have hv : cm n1 n2 = 0 := by
          have e := drop_eq (k := 0) (unhide HN) (unhide hz)
          rw [List.drop_zero, List.drop_zero] at e
          have : n1 = n2 := by rw [← (unhide IA).2.2, ← (unhide IB).2.2, e]
          simp [cm, this]
        have HV := hide hv
        clear hv
        go_wp2_with fail
        go_ret
        exact ⟨by first | exact drew_e1 _ _ | exact drew_e2 _ _ _ | exact drew_e3 _ _ _ _, congrArg (fun z => Ending.returned (Value.int .i64 z)) (unhide HV).symm⟩
      · obtain ⟨m, rfl⟩ : ∃ m, k = m + 1 := ⟨k - 1, by omega⟩
        obtain ⟨dA, rfl⟩ := unhide HA5 (by omega)
        obtain ⟨hdA, hcA⟩ := unhide HRA dA rfl
        have cA := hcA m (by omega)
        obtain ⟨dB, rfl⟩ := unhide HB5 (by have := unhide HN; omega)
        obtain ⟨hdB, hcB⟩ := unhide HRB dB rfl
        have cB := hcB m (by have := unhide HN; omega)
        have e1 : (((m + 1 : Nat) : Int) - 1) = (m : Int) := by omega
        have hm0 : (0 : Int) ≤ (m : Int) := by omega
        have hmA : (m : Int) < (LA.length : Int) := by omega
        have hmB : (m : Int) < (LB.length : Int) := by have := unhide HN; omega
        clear hcA hcB
        rcases Int.lt_trichotomy (LA.getD m 0) (LB.getD m 0) with hx | hx | hx
        · have hv : cm n1 n2 = -1 := by
            have := cm_at (unhide IA).1 (unhide IB).1 (unhide HN) (by omega) (unhide hz) hx
            rw [(unhide IA).2.2, (unhide IB).2.2] at this
            simp [cm, this]
          have HV := hide hv
          clear hv
          have hb1 : (LA.getD m 0 != LB.getD m 0) = true := bne_iff_ne.2 (by omega)
          have hb2 : decide (LA.getD m 0 < LB.getD m 0) = true := decide_eq_true hx
          clear hx
          generalize LA.getD m 0 = x at *
          generalize LB.getD m 0 = y at *
          go_wp2_with fail
          go_quiet (fail)
          go_wp2_with fail
          go_quiet (fail)
          go_wp2_with fail
          go_ret
          exact ⟨by first | exact drew_e1 _ _ | exact drew_e2 _ _ _ | exact drew_e3 _ _ _ _, congrArg (fun z => Ending.returned (Value.int .i64 z)) (unhide HV).symm⟩
        · have hb1 : (LA.getD m 0 != LB.getD m 0) = false := by rw [hx]; exact bne_self_eq_false _
          have HX := hide hx
          clear hx
          generalize hx' : LA.getD m 0 = x at *
          generalize hy' : LB.getD m 0 = y at *
          have HX' := hide hx'
          have HY' := hide hy'
          clear hx' hy'
          go_wp2_with fail
          go_quiet (fail)
          go_wp2_with fail
          go_roundg m
          case measure => omega
          case rel => exact ⟨m, by omega, rfl, by go_num, by first | exact drew_e1 _ _ | exact drew_e2 _ _ _ | exact drew_e3 _ _ _ _, fun j hj => by
            by_cases e : j = m
            · rw [e, unhide HX', unhide HY']; exact unhide HX
            · exact unhide hz j (by omega)⟩
        · have hv : cm n1 n2 = 1 := by
            have := cm_at (unhide IB).1 (unhide IA).1 (unhide HN).symm (by have := unhide HN; omega) (fun j hj => (unhide hz j hj).symm) hx
            rw [(unhide IA).2.2, (unhide IB).2.2] at this
            have a1 : ¬ n1 < n2 := by omega
            have a2 : ¬ n1 = n2 := by omega
            simp [cm, a1, a2]
          have HV := hide hv
          clear hv
          have hb1 : (LA.getD m 0 != LB.getD m 0) = true := bne_iff_ne.2 (by omega)
          have hb2 : decide (LA.getD m 0 < LB.getD m 0) = false := decide_eq_false (by omega)
          clear hx
          generalize LA.getD m 0 = x at *
          generalize LB.getD m 0 = y at *
          go_wp2_with fail
          go_quiet (fail)
          go_wp2_with fail
          go_quiet (fail)
          go_wp2_with fail
          go_ret
          exact ⟨by first | exact drew_e1 _ _ | exact drew_e2 _ _ _ | exact drew_e3 _ _ _ _, congrArg (fun z => Ending.returned (Value.int .i64 z)) (unhide HV).symm⟩
  · have hE : ((LA.length : Int) != (LB.length : Int)) = true := by simp; omega
    by_cases hlt : LA.length < LB.length
    · have hb : decide ((LA.length : Int) < (LB.length : Int)) = true := by simp; omega
      have hv : cm n1 n2 = -1 := by have := cm_len (unhide IA) (unhide IB) hlt; simp [cm, this]
      rw [hv]
      go_enter Tryz.func80, Tryz.ntmps80
      go_wp2_with fail
      go_ret
      exact ⟨⟨0, rfl⟩, rfl⟩
    · have hb : decide ((LA.length : Int) < (LB.length : Int)) = false := by simp; omega
      have hv : cm n1 n2 = 1 := by
        have := cm_len (unhide IB) (unhide IA) (by omega)
        have a1 : ¬ n1 < n2 := by omega
        have a2 : ¬ n1 = n2 := by omega
        simp [cm, a1, a2]
      rw [hv]
      go_enter Tryz.func80, Tryz.ntmps80
      go_wp2_with fail
      go_ret
      exact ⟨⟨0, rfl⟩, rfl⟩
def u32v (x : Int) : Value := .int .u32 x
theorem Row.lies {w : World} {v : Value} {L : List Int} (h : Row w v L) : Lies w 1 v L.length (L.map u32v) := by
  refine ⟨by simp, ?_⟩
  rcases h with ⟨rfl, rfl⟩ | ⟨d, cap, cs, fz, rfl, h2, h3, h4, h5⟩
  · exact ⟨none, 0, rfl, Nat.le_refl _, Nat.zero_le _, fun _ => rfl, fun h => absurd rfl h⟩
  · refine ⟨_, cap, rfl, h2, h3, (fun h => by cases h), fun _ => ⟨d, 0, rfl, (Array.getElem?_eq_some_iff.1 h4).1, fun j hj => ?_⟩⟩
    have hj' : j < L.length := by omega
    have := h5 j hj'
    rw [Nat.zero_add, List.getElem?_map, getD_of_lt hj']
    simp only [World.cell?, h4, this, Option.map_some]
    rfl
theorem own_row {w : World} {B : Nat} {v : Value} {L : List Int} (h : w.ownsRow B 148 1 v L.length (L.map u32v)) : Row w v L := by
  obtain ⟨h1, h2⟩ := h
  rcases h2 with ⟨rfl, h3⟩ | ⟨g, cap, cur, rfl, hb, hg, hn, hm, hs, ht⟩
  · exact .inl ⟨rfl, List.eq_nil_of_length_eq_zero h3⟩
  · refine .inr ⟨g, cap, cur, _, rfl, hn, hm, hg, fun j hj => ?_⟩
    have e : (cur.toList.take (L.length * 1))[j]? = (L.map u32v)[j]? := by rw [ht]
    rw [List.getElem?_take, if_pos (by omega), List.getElem?_map, getD_of_lt hj, Array.getElem?_toList] at e
    exact e
theorem u32_one (L : List Int) : ∀ u ∈ L.map u32v, u.oneCell' = true := by
  intro u hu
  obtain ⟨x, _, rfl⟩ := List.mem_map.1 hu
  rfl
theorem twin_any (v : Value) (n : Int) (w : World) (h : Dg w v n) (hn : n < 4294967296 ^ 8) :
    Calls Tryz.prog 129 #[v] w fun e w' => Below w.heap.size w w' ∧ ∃ v', e = .returned v' ∧ Dg w' v' n := by
  obtain ⟨L, hr, hI⟩ := h
  have hl := hI.len 8 hn
  obtain ⟨i0, hi, hz0, hz1, hz2⟩ := info_parts Tryz.infoU32
  have HR := hide hr
  have II := hide hI
  clear hr hI
  go_enter Tryz.func129, Tryz.ntmps129
  go_wp2_with (at_builtin; refine append_lies rfl (.const (.slice none 0 0)) (.tmp 3) 125 rfl w.heap.size 148 i0 (.int .u32 0) 1 4 Tryz.underlying125 hi hz0 hz1 hz2 rfl (by decide) _ 0 [] rfl (World.ownsRow_nil _ _ _ _) _ _ _ rfl (unhide HR).lies (u32_one _) (by unfold maxLen; omega) (by omega) (Nat.le_refl _) ?_; intro v3 w3 own3 grow3; rw [Nat.zero_add, List.nil_append] at own3; have R3 := hide (own_row own3); have K3 := hide ((Below.refl w.heap.size w).grown grow3 (Nat.le_refl _) (fun k hk => nomatch (show (none : Option Nat) = some k from hk))); clear own3 grow3)
  go_ret
  exact ⟨unhide K3, _, rfl, L, unhide R3, unhide II⟩
end Go.Proofs.YtbakhengcgclmaaGreatDoor

/-
  left.
-/
namespace Go.Proofs.YtbakhengcgclmaaGreatDoor
open Go.RowKit
set_option linter.unusedSimpArgs false
set_option linter.unusedVariables false

/-- The first i words have been moved up by q words and s bits. -/
structure LeftInv (A R : List Int) (q s i : Nat) : Prop where
  len : R.length = A.length + q + 1
  wds : Wds R
  zer : ∀ j, i + q + 1 ≤ j → R.getD j 0 = 0
  top : R.getD (i + q) 0 < 2 ^ s
  val : vl R = 4294967296 ^ q * 2 ^ s * vl (A.take i)
theorem LeftInv.start (A : List Int) (q s : Nat) : LeftInv A (List.replicate (A.length + q + 1) 0) q s 0 :=
  ⟨by simp, wds_rep _, fun j _ => getD_rep _ j, by rw [getD_rep]; exact Int.pow_pos (by decide), by rw [vl_rep]; simp [vl]⟩
theorem two_pow_le {s : Nat} (h : s ≤ 31) : (2 : Int) ^ s ≤ 2147483648 ∧ 0 < (2 : Int) ^ s ∧ (2 : Int) ^ s * 2 ^ (32 - s) = 4294967296 := by
  have h1 : (0 : Int) < 2 ^ s := Int.pow_pos (by decide)
  have h2 : (0 : Int) < 2 ^ (32 - s) := Int.pow_pos (by decide)
  have h3 : (2 : Int) ^ s * 2 ^ (32 - s) = 4294967296 := by rw [← Int.pow_add, show s + (32 - s) = 32 by omega]; decide
  refine ⟨?_, h1, h3⟩
  have h4 : (2 : Int) ^ 1 ≤ 2 ^ (32 - s) := by
    rw [show 32 - s = 1 + (31 - s) by omega, Int.pow_add]
    have : (0 : Int) < 2 ^ (31 - s) := Int.pow_pos (by decide)
    omega
  have h5 := Int.mul_le_mul_of_nonneg_left h4 (Int.le_of_lt h1)
  omega
/-- The word's bits, moved up: what goes into the word, and what goes out. -/
theorem shl_parts {x : Int} {s : Nat} (hs : s ≤ 31) (hx : 0 ≤ x ∧ x ≤ 4294967295) : 0 ≤ x * 2 ^ s ∧ x * 2 ^ s ≤ 18446744073709551615 ∧ x * 2 ^ s / 4294967296 < 2 ^ s ∧ ∃ k, 0 ≤ k ∧ x * 2 ^ s % 4294967296 = k * 2 ^ s := by
  obtain ⟨p1, p2, p3⟩ := two_pow_le hs
  have h1 : x * 2 ^ s ≤ 4294967295 * 2 ^ s := Int.mul_le_mul_of_nonneg_right hx.2 (Int.le_of_lt p2)
  refine ⟨Int.mul_nonneg hx.1 (Int.le_of_lt p2), by omega, ?_, ?_⟩
  · apply Int.ediv_lt_of_lt_mul (by decide)
    omega
  · have p4 : (0 : Int) < 2 ^ (32 - s) := Int.pow_pos (by decide)
    refine ⟨x % 2 ^ (32 - s), Int.emod_nonneg _ (by omega), ?_⟩
    rw [← p3, Int.mul_comm x, Int.mul_emod_mul_of_pos _ _ p2, Int.mul_comm]
theorem or_add {z k : Int} {s : Nat} (hz : 0 ≤ z ∧ z < 2 ^ s) (hk : 0 ≤ k) (hb : k * 2 ^ s ≤ 4294967295) (hs : s ≤ 31) : bits .or .u32 z (k * 2 ^ s) = z + k * 2 ^ s := by
  obtain ⟨a, rfl⟩ := Int.eq_ofNat_of_zero_le hz.1
  obtain ⟨b, rfl⟩ := Int.eq_ofNat_of_zero_le hk
  have h2 : a < 2 ^ s := by have := hz.2; exact_mod_cast this
  have h := Nat.shiftLeft_add_eq_or_of_lt (i := s) (b := a) h2 b
  rw [Nat.shiftLeft_eq, Nat.or_comm] at h
  have q1 : (0 : Int) ≤ (b : Int) * 2 ^ s := Int.mul_nonneg (by omega) (Int.le_of_lt (Int.pow_pos (by decide)))
  have q2 : ((b : Int) * 2 ^ s).toNat = b * 2 ^ s := by
    have : ((b : Int) * 2 ^ s) = ((b * 2 ^ s : Nat) : Int) := by push_cast; rfl
    rw [this]; exact Int.toNat_natCast _
  obtain ⟨p1, p2, p3⟩ := two_pow_le hs
  rw [u32_or _ _ (by omega) (by omega) (by omega) (by omega), q2, Int.toNat_natCast, ← h]
  push_cast
  omega
theorem or_zero {z : Int} (hz : 0 ≤ z ∧ z ≤ 4294967295) : bits .or .u32 0 z = z := by
  obtain ⟨h1, h2⟩ := hz
  go_bits2
theorem LeftInv.next {A R : List Int} {q s i : Nat} (h : LeftInv A R q s i) (hi : i < A.length) (hA : Wds A) (hs : s ≤ 31) :
    LeftInv A ((R.set (i + q) (R.getD (i + q) 0 + A.getD i 0 * 2 ^ s % 4294967296)).set (i + q + 1) (A.getD i 0 * 2 ^ s / 4294967296)) q s (i + 1) ∧ 0 ≤ R.getD (i + q) 0 + A.getD i 0 * 2 ^ s % 4294967296 ∧ R.getD (i + q) 0 + A.getD i 0 * 2 ^ s % 4294967296 ≤ 4294967295 := by
  obtain ⟨h1, h2, h3, h4, h5⟩ := h
  have a := hA.get i
  obtain ⟨m1, m2, m3, k, m4, m5⟩ := shl_parts hs a
  have z := h2.get (i + q)
  obtain ⟨p1, p2, p3⟩ := two_pow_le hs
  have hb : R.getD (i + q) 0 + A.getD i 0 * 2 ^ s % 4294967296 ≤ 4294967295 := by
    rw [m5]
    have c1 : k < 2 ^ (32 - s) := by
      have : k * 2 ^ s < 2 ^ (32 - s) * 2 ^ s := by rw [← m5, Int.mul_comm (2 ^ (32 - s)), p3]; omega
      exact Int.lt_of_mul_lt_mul_right this (Int.le_of_lt p2)
    have c2 : (k + 1) * 2 ^ s ≤ 2 ^ (32 - s) * 2 ^ s := Int.mul_le_mul_of_nonneg_right (by omega) (Int.le_of_lt p2)
    rw [Int.mul_comm (2 ^ (32 - s)), p3, Int.add_mul, Int.one_mul] at c2
    omega
  have t := vl_take A i
  have s1 := vl_set R (i + q) (R.getD (i + q) 0 + A.getD i 0 * 2 ^ s % 4294967296) (by omega)
  have s2 := vl_set (R.set (i + q) (R.getD (i + q) 0 + A.getD i 0 * 2 ^ s % 4294967296)) (i + q + 1) (A.getD i 0 * 2 ^ s / 4294967296) (by rw [List.length_set]; omega)
  rw [getD_set_ne (by omega), h3 _ (Nat.le_refl _)] at s2
  have w1 : Wds (R.set (i + q) (R.getD (i + q) 0 + A.getD i 0 * 2 ^ s % 4294967296)) := h2.set _ (by omega)
  refine ⟨⟨by rw [List.length_set, List.length_set]; exact h1, w1.set _ (by omega), fun j hj => by rw [getD_set_ne (by omega), getD_set_ne (by omega)]; exact h3 j (by omega), ?_, ?_⟩, by omega, hb⟩
  · rw [show i + 1 + q = i + q + 1 by omega, getD_set_self (by rw [List.length_set]; omega)]; exact m3
  · rw [s2, s1, t, h5]
    have dm : A.getD i 0 * 2 ^ s = A.getD i 0 * 2 ^ s % 4294967296 + 4294967296 * (A.getD i 0 * 2 ^ s / 4294967296) := by omega
    have e1 : (4294967296 : Int) ^ (i + q + 1) = 4294967296 ^ i * 4294967296 ^ q * 4294967296 := by rw [Int.pow_succ, Int.pow_add]
    have e2 : (4294967296 : Int) ^ (i + q) = 4294967296 ^ i * 4294967296 ^ q := Int.pow_add ..
    rw [e1, e2]
    generalize A.getD i 0 * 2 ^ s % 4294967296 = u at *
    generalize A.getD i 0 * 2 ^ s / 4294967296 = v at *
    generalize A.getD i 0 = x at *
    generalize R.getD (i + q) 0 = y at *
    generalize (2 : Int) ^ s = T at *
    generalize (4294967296 : Int) ^ i = P at *
    generalize (4294967296 : Int) ^ q = Q at *
    clear s1 s2 t h1 h2 h3 h4 h5 m1 m2 m3 m4 m5 z p1 p2 p3 hb w1 a e1 e2
    grind
theorem make32q (n q : Nat) (hn : n + q ≤ 900) (w : World) : (Instr.makeSlice 125 (.int .i64 ((n : Int) + (q : Int) + 1)) (.int .i64 ((n : Int) + (q : Int) + 1))).run Tryz.prog w = .ok (.slice (some ⟨w.heap.size, 0, none⟩) (n + q + 1) (n + q + 1)) (w.alloc (.cells (madeCells #[.int .u32 0] (n + q + 1)) 148)) :=
  make32 (n + q + 1) (by omega) w
set_option maxHeartbeats 1000000 in
theorem left_any (v : Value) (n : Int) (k : Nat) (w : World) (h : Dg w v n) (hn : n < 4294967296 ^ 8) (hk : k ≤ 1000) :
    Calls Tryz.prog 116 #[v, .int .u64 (k : Int)] w fun e w' => Below w.heap.size w w' ∧ ∃ v', e = .returned v' ∧ Dg w' v' (n * 2 ^ k) := by
  obtain ⟨LA, rA, iA⟩ := h
  have lA := iA.len 8 hn
  obtain ⟨aoA, capA, rfl, _, _, _, hA4, hA5, hA6⟩ := rA.at
  have HRA := hide (fun d (he : aoA = some ⟨d, 0, none⟩) => And.intro (hA4 d 0 none he).2.2 (hA6 d he))
  have HA5 := hide hA5
  have IA := hide iA
  have zA := iA.zero
  clear hA4 hA5 hA6 rA iA
  by_cases l0 : LA.length = 0
  · have e0 := zA.1 l0
    subst e0
    rw [Int.zero_mul]
    rw [l0]
    clear HRA HA5 zA
    go_enter Tryz.func116, Tryz.ntmps116
    go_wp2_with fail
    go_ret
    exact ⟨Below.refl _ _, _, rfl, Dg.nil _⟩
  · have hb1 : ((LA.length : Int) == 0) = false := beq_eq_false_iff_ne.2 (by omega)
    obtain ⟨dA, rfl⟩ := unhide HA5 l0
    obtain ⟨hdA, hcA⟩ := unhide HRA dA rfl
    have HCA := hide hcA
    obtain ⟨q, s, hs, hks⟩ : ∃ q s : Nat, s ≤ 31 ∧ k = 32 * q + s := ⟨k / 32, k % 32, by omega, by omega⟩
    have hq1 : (k : Int) / 32 = (q : Int) := by omega
    have hq2 : (k : Int) % 32 = (s : Int) := by omega
    have hq : q ≤ 40 := by omega
    have HP := hide (show n * 2 ^ k = 4294967296 ^ q * 2 ^ s * n by
      rw [hks, Int.pow_add, Int.pow_mul, Int.mul_comm]; rfl)
    have O0 := hide (Own32.new w (LA.length + q + 1))
    have K0 := hide (below_a w (.cells (madeCells #[.int .u32 0] (LA.length + q + 1)) 148))
    have hmk := make32q LA.length q (by omega)
    clear hcA HRA HA5 zA hks
    go_enter Tryz.func116, Tryz.ntmps116
    go_wp2_with fail
    clear hmk hb1
    go_loopg [8] LA.length (fun g t wr => ∃ (i : Nat) (R : List Int), i ≤ LA.length ∧ g = LA.length - i ∧ t = .int .i64 i ∧ Hid (Own32 wr w.heap.size R) ∧ Hid (Below w.heap.size w wr) ∧ Hid (LeftInv LA R q s i))
    case atStart => exact ⟨0, _, Nat.zero_le _, by simp, rfl, O0, K0, LeftInv.start LA q s⟩
    case round =>
      obtain ⟨i, R, hi, hg, rfl, hO, hK, hI⟩ := hrel
      clear O0 K0
      have hz := (unhide hK).size
      have hlt := (unhide hO).lt
      have hRl := hide (unhide hI).len
      by_cases hlt2 : i < LA.length
      · have hiA : (i : Int) < (LA.length : Int) := by omega
        have cA := cell_keep (unhide hK) hdA (unhide HCA i hlt2)
        have gA := (unhide IA).1.get i
        have f1 := (unhide hO).frozen (i + q)
        have f2 := (unhide hO).frozen (i + q + 1)
        have c1 := (unhide hO).cell (i + q) (by have := unhide hRl; omega)
        have c2 := (unhide hO).cell (i + q + 1) (by have := unhide hRl; omega)
        rw [(unhide hI).zer _ (Nat.le_refl _)] at c2
        obtain ⟨nx, b1, b2⟩ := (unhide hI).next hlt2 (unhide IA).1 hs
        have NX := hide nx
        clear nx
        obtain ⟨m1, m2, m3, kk, m4, m5⟩ := shl_parts hs gA
        obtain ⟨p1, p2, p3⟩ := two_pow_le hs
        have gR := (unhide hI).wds.get (i + q)
        have oa := or_add ⟨gR.1, (unhide hI).top⟩ m4 (by rw [← m5]; omega) hs
        rw [← m5] at oa
        have oz := or_zero (z := LA.getD i 0 * 2 ^ s / 4294967296) (by omega)
        have OX := hide (((unhide hO).set (i + q) (R.getD (i + q) 0 + LA.getD i 0 * 2 ^ s % 4294967296) (by have := unhide hRl; omega)).set (i + q + 1) (LA.getD i 0 * 2 ^ s / 4294967296) (by rw [List.length_set]; have := unhide hRl; omega))
        have KX := hide (((unhide hK).setCell (p := ⟨w.heap.size, i + q, none⟩) (Nat.le_refl _) (.int .u32 (R.getD (i + q) 0 + LA.getD i 0 * 2 ^ s % 4294967296))).setCell (p := ⟨w.heap.size, i + q + 1, none⟩) (Nat.le_refl _) (.int .u32 (LA.getD i 0 * 2 ^ s / 4294967296)))
        have hneA : dA ≠ w.heap.size := by omega
        have hij1 : ((i : Int) + (q : Int)) < (LA.length : Int) + (q : Int) + 1 := by omega
        have hij2 : ((i : Int) + (q : Int)).toNat = i + q := by omega
        have hij0 : (0 : Int) ≤ (i : Int) + (q : Int) := by omega
        have hik1 : ((i : Int) + (q : Int) + 1) < (LA.length : Int) + (q : Int) + 1 := by omega
        have hik2 : ((i : Int) + (q : Int) + 1).toNat = i + q + 1 := by omega
        have hik0 : (0 : Int) ≤ (i : Int) + (q : Int) + 1 := by omega
        have hqq : i + q ≠ i + q + 1 := by omega
        have hss : ((s : Int)).toNat = s := by omega
        have hs64 : (s : Int) < 64 := by omega
        clear m3 m4 m5 p1 p2 p3
        generalize LA.getD i 0 = x at *
        generalize R.getD (i + q) 0 = z at *
        obtain ⟨P, hP⟩ : ∃ P, x * 2 ^ s = P := ⟨_, rfl⟩
        rw [hP] at b1 b2 m1 m2 oa oz NX OX KX
        go_wp2_with fail
        go_roundg (LA.length - (i + 1))
        case measure => omega
        case rel => exact ⟨i + 1, _, by omega, rfl, by go_num, OX, KX, NX⟩
      · have hiA : i = LA.length := by omega
        subst hiA
        have hv : vl R = n * 2 ^ k := by have := (unhide hI).val; rw [List.take_of_length_le (Nat.le_refl _), (unhide IA).2.2] at this; rw [unhide HP]; exact this
        have RW := (unhide hO).row (by rw [unhide hRl]; unfold maxLen; omega)
        have TR := trim_any _ _ _ RW (unhide hI).wds (by rw [unhide hRl]; omega)
        rw [unhide hRl, hv] at TR
        have HT := hide TR
        clear TR RW hv
        go_wp2_with fail
        refine (unhide HT).mono ?_
        rintro e w1 ⟨rfl, v1, rfl, D1⟩
        have HD := hide D1
        clear D1
        go_wp2_with fail
        go_ret
        exact ⟨unhide hK, _, rfl, unhide HD⟩
end Go.Proofs.YtbakhengcgclmaaGreatDoor

/-
  Set, Lsh and Mul: what is read is read whenever it is; what is given is given last.
-/
namespace Go.Proofs.YtbakhengcgclmaaGreatDoor
open Go.RowKit
set_option linter.unusedSimpArgs false
set_option linter.unusedVariables false

theorem of_drew {w w1 : World} (k : Below w.drew.heap.size w.drew w1) : Below w.heap.size w w1 := ⟨k.os, k.tape, k.output, k.size, k.block⟩
theorem sg_abs (z : Int) : sg (decide (z < 0)) (z.natAbs : Int) = z := by
  unfold sg
  by_cases h : z < 0
  · simp [h]; omega
  · simp [h]; omega
set_option maxHeartbeats 1000000 in
theorem set_any (p q : Nat) (z : Int) (w : World) (hp : IntAt w p) (hq : Big w q z) (hne : q ≠ p) (hz : z.natAbs < 4294967296 ^ 8) :
    Calls Tryz.prog 125 #[.pointer (some ⟨p, 0, none⟩), .pointer (some ⟨q, 0, none⟩)] w fun e w' => e = .returned (.pointer (some ⟨p, 0, none⟩)) ∧ Tn p w w' ∧ Big w' p z := by
  obtain ⟨v, c0, c1, hD, hlt⟩ := hq.cells
  have HP := hide hp
  have HQ := hide hq
  have HD := hide hD
  clear hp hq hD
  go_enter Tryz.func125, Tryz.ntmps125
  go_wp2_with fail
  refine reg_start (fun W => W.cell? ⟨q, 0, none⟩ = some (.bool (decide (z < 0))) ∧ W.cell? ⟨q, 1, none⟩ = some v) (by kernel_rfl) ?_
  refine reg_seg 0 9 3 (by kernel_rfl) (by decide) (by kernel_rfl) (by kernel_rfl) (fun _ _ _ _ _ h => h) ?_
  simp only [List.take_succ_cons, List.take_zero, List.drop_succ_cons, List.drop_zero]
  repeat (refine wpSteady_step (fun K hK => ?_); go_simp; first | (refine steady_of ?_ (fun W hW => ?_) (hK _ ?_); rotate_left; (obtain ⟨h1, h2⟩ := hW; go_simp; first | done | rfl); clear hK K) | (refine hK _ ?_; clear hK K))
  refine wpSteady_nil ?_
  refine reg_one 9 2 (by kernel_rfl) (by kernel_rfl) ⟨c0, c1⟩ ?_
  simp only [List.take_succ_cons, List.take_zero, List.drop_succ_cons, List.drop_zero]
  go_wp2_with fail
  refine (twin_any v z.natAbs w.drew (unhide HD) (by omega)).mono ?_
  rintro e w1 ⟨k1, v1, rfl, D1⟩
  have K1 := hide (of_drew k1)
  have HD1 := hide D1
  have c01 := cell_keep (unhide K1) hlt c0
  have c11 := cell_keep (unhide K1) hlt c1
  have hp1 := hide ((unhide HP).step (unhide K1))
  clear k1 D1
  go_wp2_with fail
  first | refine next_nil ?_ | refine next_go ?_
  refine reg_one 10 1 (by kernel_rfl) (by kernel_rfl) ⟨c01, c11⟩ ?_
  simp only [List.take_succ_cons, List.take_zero, List.drop_succ_cons, List.drop_zero]
  go_wp2_with fail
  refine (give_any p (decide (z < 0)) v1 z.natAbs w1 (unhide hp1) (unhide HD1) (by omega)).mono ?_
  rintro e w2 ⟨rfl, k2, b2⟩
  rw [sg_abs] at b2
  have K2 := hide k2
  have B2 := hide b2
  have hlt1 : q < w1.heap.size := Nat.lt_of_lt_of_le hlt (unhide K1).size
  have c02 := (World.cell?_of_block (w := w1) (a := ⟨q, 0, none⟩) ((unhide K2).block q hlt1 hne)).trans c01
  have c12 := (World.cell?_of_block (w := w1) (a := ⟨q, 1, none⟩) ((unhide K2).block q hlt1 hne)).trans c11
  clear k2 b2
  go_wp2_with fail
  first | refine next_nil ?_ | refine next_go ?_
  refine reg_one 11 0 (by kernel_rfl) (by kernel_rfl) ⟨c02, c12⟩ ?_
  simp only [List.take_succ_cons, List.take_zero, List.drop_succ_cons, List.drop_zero]
  go_wp2_with fail
  first | refine next_nil ?_ | refine next_go ?_
  refine reg_end (by kernel_rfl) ⟨c02, c12⟩ ?_
  go_wp2_with fail
  go_ret
  exact ⟨rfl, (Tn.of (unhide K1)).trans (unhide K2), unhide B2⟩
end Go.Proofs.YtbakhengcgclmaaGreatDoor
