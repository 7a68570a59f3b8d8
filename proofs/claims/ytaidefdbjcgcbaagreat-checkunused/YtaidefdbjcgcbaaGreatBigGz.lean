/-
  The document's answer, chapter 1: Width, Two and Fit.
-/
import Derived.Test.YtaidefdbjcgcbaaGreatBigFz
import Derived.Test.YtaidefdbjcgcbaaGreatBig8z
import Derived.Test.YtaidefdbjcgcbaaGreatBigDz
namespace Go.Proofs.YtaidefdbjcgcbaaGreat
open Go.RowKit
set_option linter.unusedSimpArgs false
set_option linter.unusedVariables false

theorem rwidth_no (n : Int) (w : World) (h : NoW n) :
    Calls Tryz.prog 58 #[.int .i64 n] w fun e w' => e = .returned (.bool false) ∧ Below w.heap.size w w' := by
  obtain ⟨h1, h2, h3, h4⟩ := h
  have KB := hide (below_a w (.cells #[.int .i64 8, .int .i64 16, .int .i64 32, .int .i64 64] 3))
  have BX := hide (Box.new w #[.int .i64 8, .int .i64 16, .int .i64 32, .int .i64 64] 3)
  go_enter Tryz.func58, Tryz.ntmps58
  go_wp2_with fail
  generalize hW : w.alloc (.cells #[.int .i64 8, .int .i64 16, .int .i64 32, .int .i64 64] 3) = W at *
  clear hW
  go_loopg [7] 4 (fun g t wr => ∃ i : Nat, i ≤ 4 ∧ g = 4 - i ∧ t = .int .i64 i ∧ wr = W)
  case atStart => exact ⟨0, by decide, rfl, rfl, rfl⟩
  case round =>
    obtain ⟨i, hi, hg, rfl, rfl⟩ := hrel
    obtain ⟨b1, b2, _⟩ := unhide BX
    have c0 := b2 0 _ rfl
    have c1 := b2 1 _ rfl
    have c2 := b2 2 _ rfl
    have c3 := b2 3 _ rfl
    clear b2
    have hi4 : i = 0 ∨ i = 1 ∨ i = 2 ∨ i = 3 ∨ i = 4 := by omega
    rcases hi4 with rfl | rfl | rfl | rfl | rfl
    · go_wp2_with fail
      go_roundg 3
      case measure => omega
      case rel => exact ⟨1, by omega, rfl, rfl, rfl⟩
    · go_wp2_with fail
      go_roundg 2
      case measure => omega
      case rel => exact ⟨2, by omega, rfl, rfl, rfl⟩
    · go_wp2_with fail
      go_roundg 1
      case measure => omega
      case rel => exact ⟨3, by omega, rfl, rfl, rfl⟩
    · go_wp2_with fail
      go_roundg 0
      case measure => omega
      case rel => exact ⟨4, by omega, rfl, rfl, rfl⟩
    · go_wp2_with fail
      go_ret
      exact ⟨rfl, unhide KB⟩
theorem rwidth_yes (n : Int) (h : IsW n) (w : World) :
    Calls Tryz.prog 58 #[.int .i64 n] w fun e w' => e = .returned (.bool true) ∧ Below w.heap.size w w' := by
  have KB := hide (below_a w (.cells #[.int .i64 8, .int .i64 16, .int .i64 32, .int .i64 64] 3))
  have BX := hide (Box.new w #[.int .i64 8, .int .i64 16, .int .i64 32, .int .i64 64] 3)
  have HN := hide (show ∃ k : Nat, k ≤ 3 ∧ n = [8, 16, 32, 64].getD k 0 by
    rcases h with rfl | rfl | rfl | rfl
    · exact ⟨0, by decide, rfl⟩
    · exact ⟨1, by decide, rfl⟩
    · exact ⟨2, by decide, rfl⟩
    · exact ⟨3, by decide, rfl⟩)
  clear h
  obtain ⟨k, hk, rfl⟩ := unhide HN
  clear HN
  go_enter Tryz.func58, Tryz.ntmps58
  go_wp2_with fail
  generalize hW : w.alloc (.cells #[.int .i64 8, .int .i64 16, .int .i64 32, .int .i64 64] 3) = W at *
  clear hW
  go_loopg [7] 4 (fun g t wr => ∃ i : Nat, i ≤ k ∧ g = 4 - i ∧ t = .int .i64 i ∧ wr = W)
  case atStart => exact ⟨0, Nat.zero_le _, rfl, rfl, rfl⟩
  case round =>
    obtain ⟨i, hi, hg, rfl, rfl⟩ := hrel
    obtain ⟨b1, b2, _⟩ := unhide BX
    have c0 := b2 0 _ rfl
    have c1 := b2 1 _ rfl
    have c2 := b2 2 _ rfl
    have c3 := b2 3 _ rfl
    clear b2
    have hk4 : k = 0 ∨ k = 1 ∨ k = 2 ∨ k = 3 := by omega
    have hi4 : i = 0 ∨ i = 1 ∨ i = 2 ∨ i = 3 := by omega
    rcases hk4 with rfl | rfl | rfl | rfl <;> rcases hi4 with rfl | rfl | rfl | rfl
    all_goals first
      | (exfalso; omega)
      | (go_wp2_with fail; go_ret; exact ⟨rfl, unhide KB⟩)
      | (go_wp2_with fail; go_roundg 3; (case measure => omega); (case rel => exact ⟨1, by omega, rfl, rfl, rfl⟩))
      | (go_wp2_with fail; go_roundg 2; (case measure => omega); (case rel => exact ⟨2, by omega, rfl, rfl, rfl⟩))
      | (go_wp2_with fail; go_roundg 1; (case measure => omega); (case rel => exact ⟨3, by omega, rfl, rfl, rfl⟩))
theorem p64 {k : Nat} (h : k ≤ 64) : (0 : Int) < 2 ^ k ∧ (2 : Int) ^ k ≤ 18446744073709551616 := by
  refine ⟨Int.pow_pos (by decide), ?_⟩
  have e : (2 : Int) ^ 64 = 2 ^ k * 2 ^ (64 - k) := by rw [← Int.pow_add]; congr 1; omega
  have h1 : (0 : Int) < 2 ^ k := Int.pow_pos (by decide)
  have h2 : (1 : Int) ≤ 2 ^ (64 - k) := Int.pow_pos (by decide)
  have h3 := Int.mul_le_mul_of_nonneg_left h2 (Int.le_of_lt h1)
  have h4 : (2 : Int) ^ 64 = 18446744073709551616 := by decide
  omega
theorem big6 : (18446744073709551616 : Int) < 4294967296 ^ 6 ∧ (18446744073709551616 : Int) < 4294967296 ^ 8 := by decide
theorem one_pow {k : Nat} (h : (2 : Int) ^ k ≤ 18446744073709551616) : (((1 : Int).natAbs : Nat) : Int) * 2 ^ k < 4294967296 ^ 8 := by
  have e : (((1 : Int).natAbs : Nat) : Int) * 2 ^ k = 2 ^ k := Int.one_mul _
  rw [e]
  exact Int.lt_of_le_of_lt h big6.2
theorem pow_abs {k : Nat} (h : (2 : Int) ^ k ≤ 18446744073709551616) (h0 : (0 : Int) < 2 ^ k) : ((2 : Int) ^ k).natAbs < 4294967296 ^ 6 ∧ ((((2 : Int) ^ k).natAbs : Nat) : Int) = 2 ^ k := by
  have e : ((((2 : Int) ^ k).natAbs : Nat) : Int) = 2 ^ k := Int.natAbs_of_nonneg (Int.le_of_lt h0)
  refine ⟨?_, e⟩
  omega
theorem two_any (k : Nat) (w : World) (hk : k ≤ 64) :
    Calls Tryz.prog 102 #[.int .i64 (k : Int)] w fun e w' => e = .returned (.pointer (some ⟨w.heap.size, 0, none⟩)) ∧ Below w.heap.size w w' ∧ Big w' w.heap.size (2 ^ k) := by
  have HN := hide (Big.new w)
  have KN := hide (below_a w (.cells #[.bool false, .slice none 0 0] 127))
  obtain ⟨p1, p2⟩ := p64 hk
  have hs : (w.alloc (.cells #[.bool false, .slice none 0 0] 127)).heap.size = w.heap.size + 1 := by simp
  have Z1 := hide (one_pow p2)
  go_enter Tryz.func102, Tryz.ntmps102
  go_wp2_with fail
  generalize w.alloc (.cells #[.bool false, .slice none 0 0] 127) = W at *
  refine (newI_any 1 W ⟨by decide, by decide⟩).mono ?_
  rintro e w1 ⟨rfl, k1, b1⟩
  have K1 := hide k1
  rw [hs] at b1
  have B1 := hide b1
  clear k1 b1
  go_wp2_with fail
  refine (lsh_any w.heap.size (w.heap.size + 1) k 1 w1 ((unhide HN).int.step (unhide K1)) (unhide B1) (by omega) (by omega) (unhide Z1)).mono ?_
  rintro e w2 ⟨rfl, k2, b2⟩
  rw [Int.one_mul] at b2
  have K2 := hide k2
  have B2 := hide b2
  clear k2 b2
  go_wp2_with fail
  go_ret
  exact ⟨rfl, (unhide KN).trans (((unhide K1).mono (by omega)).trans ((unhide K2).below (Nat.le_refl _) (by have := (unhide K1).size; omega))), unhide B2⟩
set_option maxRecDepth 100000 in
theorem fit_any (a : Nat) (x : Int) (k : Nat) (w : World) (ha : Big w a x) (hk : k ≤ 64) (hx : x.natAbs < 4294967296 ^ 6) (hd : DivOk x.natAbs (2 ^ k)) :
    Calls Tryz.prog 60 #[.pointer (some ⟨a, 0, none⟩), .int .i64 (k : Int)] w fun e w' => e = .returned (.int .u64 (x % 2 ^ k)) ∧ Below w.heap.size w w' := by
  have HN := hide (Big.new w)
  have KN := hide (below_a w (.cells #[.bool false, .slice none 0 0] 127))
  obtain ⟨p1, p2⟩ := p64 hk
  have q1 := Int.emod_nonneg x (show (2 : Int) ^ k ≠ 0 by omega)
  have q2 := Int.emod_lt_of_pos x p1
  have HA := hide ha
  obtain ⟨p3, p4⟩ := pow_abs p2 p1
  have HD := hide (show DivOk x.natAbs ((2 : Int) ^ k).natAbs by rw [p4]; exact hd)
  have P3 := hide p3
  clear p3 p4
  have hs : (w.alloc (.cells #[.bool false, .slice none 0 0] 127)).heap.size = w.heap.size + 1 := by simp
  clear ha hd
  go_enter Tryz.func60, Tryz.ntmps60
  go_wp2_with fail
  generalize w.alloc (.cells #[.bool false, .slice none 0 0] 127) = W at *
  refine (two_any k W hk).mono ?_
  rintro e w1 ⟨rfl, k1, b1⟩
  have K1 := hide k1
  rw [hs] at b1
  have B1 := hide b1
  clear k1 b1
  go_wp2_with fail
  refine (mod_any w.heap.size a (w.heap.size + 1) x (2 ^ k) w1 ((unhide HN).int.step (unhide K1)) (((unhide HA).step (unhide KN)).step (unhide K1)) (unhide B1) (unhide HD) hx (unhide P3) p1).mono ?_
  rintro e w2 ⟨rfl, k2, b2⟩
  have K2 := hide k2
  have B2 := hide b2
  clear k2 b2
  generalize hX : x % 2 ^ k = X at *
  have HX := hide hX
  clear hX
  have UA := uint_any w.heap.size X w2 (unhide B2) (by omega)
  rw [show ((X.natAbs : Nat) : Int) = X by omega] at UA
  have HU := hide UA
  clear UA
  go_wp2_with fail
  refine (unhide HU).mono ?_
  rintro e w3 ⟨rfl, rfl⟩
  go_wp2_with fail
  go_ret
  exact ⟨congrArg (fun z => Ending.returned (Value.int .u64 z)) (unhide HX).symm, (unhide KN).trans (((unhide K1).mono (by omega)).trans ((unhide K2).below (Nat.le_refl _) (by have := (unhide K1).size; omega)))⟩
end Go.Proofs.YtaidefdbjcgcbaaGreat

/-
  right, and length where the highest word is one.
-/
namespace Go.Proofs.YtaidefdbjcgcbaaGreat
open Go.RowKit
set_option linter.unusedSimpArgs false
set_option linter.unusedVariables false

/-- The first i words of what is moved down by s bits (A: the words from the first one that is taken on). -/
structure RightInv (A R : List Int) (s i : Nat) : Prop where
  len : R.length = A.length
  wds : Wds R
  zer : ∀ j, i ≤ j → R.getD j 0 = 0
  val : vl R + 4294967296 ^ i * (A.getD i 0 / 2 ^ s) = vl (A.take (i + 1)) / 2 ^ s
theorem RightInv.start (A : List Int) (s : Nat) : RightInv A (List.replicate A.length 0) s 0 :=
  ⟨by simp, wds_rep _, fun j _ => getD_rep _ j, by
    rw [vl_rep]
    have := vl_take A 0
    simp [vl] at this ⊢
    rw [this]⟩
theorem dm_split {x y : Int} {s : Nat} (hs : s ≤ 31) (hx : 0 ≤ x ∧ x ≤ 4294967295) (hy : 0 ≤ y ∧ y ≤ 4294967295) :
    (x + 4294967296 * y) / 2 ^ s = x / 2 ^ s + 2 ^ (32 - s) * y ∧ (x + 4294967296 * y) / 2 ^ s % 4294967296 + 4294967296 * (y / 2 ^ s) = x / 2 ^ s + 2 ^ (32 - s) * y := by
  obtain ⟨p1, p2, p3⟩ := two_pow_le hs
  have e1 : (x + 4294967296 * y) / 2 ^ s = x / 2 ^ s + 2 ^ (32 - s) * y := by
    rw [← p3, Int.mul_assoc, Int.add_mul_ediv_left _ _ (by omega)]
  refine ⟨e1, ?_⟩
  have q1 : (x + 4294967296 * y) / 2 ^ s / 4294967296 = y / 2 ^ s := by
    rw [Int.ediv_ediv_of_nonneg (by omega), Int.mul_comm ((2 : Int) ^ s) 4294967296, ← Int.ediv_ediv_of_nonneg (by decide)]
    congr 1
    omega
  rw [← q1, ← e1]
  omega
theorem RightInv.next {A R : List Int} {s i : Nat} (h : RightInv A R s i) (hi : i < A.length) (hA : Wds A) (hs : s ≤ 31) :
    RightInv A (R.set i ((A.getD i 0 + 4294967296 * A.getD (i + 1) 0) / 2 ^ s % 4294967296)) s (i + 1) := by
  obtain ⟨h1, h2, h3, h4⟩ := h
  obtain ⟨d1, d2⟩ := dm_split hs (hA.get i) (hA.get (i + 1))
  obtain ⟨p1, p2, p3⟩ := two_pow_le hs
  have s1 := vl_set R i ((A.getD i 0 + 4294967296 * A.getD (i + 1) 0) / 2 ^ s % 4294967296) (by omega)
  rw [h3 i (Nat.le_refl _)] at s1
  have t := vl_take A (i + 1)
  refine ⟨by rw [List.length_set]; exact h1, h2.set _ (by omega), fun j hj => by rw [getD_set_ne (by omega)]; exact h3 j (by omega), ?_⟩
  rw [s1, t]
  have e : vl (A.take (i + 1)) + 4294967296 ^ (i + 1) * A.getD (i + 1) 0 = vl (A.take (i + 1)) + 2 ^ s * (2 ^ (32 - s) * (4294967296 ^ i * A.getD (i + 1) 0)) := by
    rw [Int.pow_succ, ← p3]
    grind
  rw [e, Int.add_mul_ediv_left _ _ (by omega), ← h4, Int.pow_succ]
  generalize (A.getD i 0 + 4294967296 * A.getD (i + 1) 0) / 2 ^ s % 4294967296 = r at *
  generalize A.getD (i + 1) 0 / 2 ^ s = q at *
  generalize A.getD i 0 / 2 ^ s = u at *
  generalize A.getD (i + 1) 0 = y at *
  generalize (2 : Int) ^ (32 - s) = T at *
  generalize (4294967296 : Int) ^ i = P at *
  clear s1 t e h1 h2 h3 h4 d1 p1 p2 p3
  grind
theorem RightInv.done {A R : List Int} {s : Nat} (h : RightInv A R s A.length) : vl R = vl A / 2 ^ s := by
  have := h.val
  rw [List.take_of_length_le (by omega), List.getD_eq_getElem?_getD, List.getElem?_eq_none (Nat.le_refl _)] at this
  simpa using this
set_option maxHeartbeats 1000000 in
/-- Moved down by fewer than thirty-two bits. -/
theorem right_any (v : Value) (n : Int) (s : Nat) (w : World) (h : Dg w v n) (hn : n < 4294967296 ^ 8) (hs : s ≤ 31) :
    Calls Tryz.prog 167 #[v, .int .u64 (s : Int)] w fun e w' => Below w.heap.size w w' ∧ ∃ v', e = .returned v' ∧ Dg w' v' (n / 2 ^ s) := by
  obtain ⟨LA, rA, iA⟩ := h
  have lA := iA.len 8 hn
  obtain ⟨aoA, capA, rfl, _, _, _, hA4, hA5, hA6⟩ := rA.at
  have HRA := hide (fun d (he : aoA = some ⟨d, 0, none⟩) => And.intro (hA4 d 0 none he).2.2 (hA6 d he))
  have HA5 := hide hA5
  have IA := hide iA
  have zA := iA.zero
  have hq1 : (s : Int) / 32 = 0 := by omega
  have hq2 : (s : Int) % 32 = (s : Int) := by omega
  clear hA4 hA5 hA6 rA iA
  by_cases l0 : LA.length = 0
  · have e0 := zA.1 l0
    subst e0
    rw [Int.zero_ediv]
    rw [l0]
    clear HRA HA5 zA
    go_enter Tryz.func167, Tryz.ntmps167
    go_wp2_with fail
    go_ret
    exact ⟨Below.refl _ _, _, rfl, Dg.nil _⟩
  · have hb1 : decide ((LA.length : Int) ≤ 0) = false := decide_eq_false (by omega)
    obtain ⟨dA, rfl⟩ := unhide HA5 l0
    obtain ⟨hdA, hcA⟩ := unhide HRA dA rfl
    have HCA := hide hcA
    have O0 := hide (Own32.new w LA.length)
    have K0 := hide (below_a w (.cells (madeCells #[.int .u32 0] LA.length) 159))
    have hmk := make32 LA.length (by omega)
    clear hcA HRA HA5 zA
    go_enter Tryz.func167, Tryz.ntmps167
    go_wp2_with fail
    clear hmk hb1
    go_loopg [8] LA.length (fun g t wr => ∃ (i : Nat) (R : List Int), i ≤ LA.length ∧ g = LA.length - i ∧ t = .int .i64 i ∧ Hid (Own32 wr w.heap.size R) ∧ Hid (Below w.heap.size w wr) ∧ Hid (RightInv LA R s i))
    case atStart => exact ⟨0, _, Nat.zero_le _, by simp, rfl, O0, K0, RightInv.start LA s⟩
    case round =>
      obtain ⟨i, R, hi, hg, rfl, hO, hK, hI⟩ := hrel
      clear O0 K0
      have hz := (unhide hK).size
      have hlt := (unhide hO).lt
      have hRl := hide (unhide hI).len
      by_cases hlt2 : i < LA.length
      · have hiA : (i : Int) < (LA.length : Int) := by omega
        have cA := cell_keep (unhide hK) hdA (unhide HCA i hlt2)
        have gA := (unhide IA).1.get i
        have gB := (unhide IA).1.get (i + 1)
        have f1 := (unhide hO).frozen i
        have c1 := (unhide hO).cell i (by have := unhide hRl; omega)
        have NX := hide ((unhide hI).next hlt2 (unhide IA).1 hs)
        have OX := hide ((unhide hO).set i ((LA.getD i 0 + 4294967296 * LA.getD (i + 1) 0) / 2 ^ s % 4294967296) (by have := unhide hRl; omega))
        have KX := hide ((unhide hK).setCell (p := ⟨w.heap.size, i, none⟩) (Nat.le_refl _) (.int .u32 ((LA.getD i 0 + 4294967296 * LA.getD (i + 1) 0) / 2 ^ s % 4294967296)))
        have hneA : dA ≠ w.heap.size := by omega
        have hss : ((s : Int)).toNat = s := by omega
        have hs64 : (s : Int) < 64 := by omega
        have hik : ((i : Int) + 1).toNat = i + 1 := by omega
        by_cases hb : i + 1 < LA.length
        · have hib : ((i : Int) + 1) < (LA.length : Int) := by omega
          have cB := cell_keep (unhide hK) hdA (unhide HCA (i + 1) hb)
          have ho := or_two (LA.getD i 0) (LA.getD (i + 1) 0) gA gB
          generalize LA.getD i 0 = x at *
          generalize LA.getD (i + 1) 0 = y at *
          generalize R.getD i 0 = z at *
          obtain ⟨T, hT⟩ : ∃ T, T = x + 4294967296 * y := ⟨_, rfl⟩
          rw [← hT] at NX OX KX ho
          have T0 : 0 ≤ T ∧ T ≤ 18446744073709551615 := by omega
          have hd0 := (div_pow_le T s T0.1)
          clear hT
          go_wp2_with fail
          go_roundg (LA.length - (i + 1))
          case measure => omega
          case rel => exact ⟨i + 1, _, by omega, rfl, by go_num, OX, KX, NX⟩
        · have hib : decide (((i : Int) + 1) < (LA.length : Int)) = false := decide_eq_false (by omega)
          have hy : LA.getD (i + 1) 0 = 0 := by rw [List.getD_eq_getElem?_getD, List.getElem?_eq_none (by omega)]; rfl
          rw [hy] at NX OX KX
          clear hy gB
          generalize LA.getD i 0 = x at *
          generalize R.getD i 0 = z at *
          rw [Int.mul_zero, Int.add_zero] at NX OX KX
          have hd0 := (div_pow_le x s gA.1)
          rw [Int.emod_eq_of_lt hd0.1 (by omega)] at NX OX KX
          go_wp2_with fail
          go_roundg (LA.length - (i + 1))
          case measure => omega
          case rel => exact ⟨i + 1, _, by omega, rfl, by go_num, OX, KX, NX⟩
      · have hiA : i = LA.length := by omega
        subst hiA
        have hv : vl R = n / 2 ^ s := by have := (unhide hI).done; rw [(unhide IA).2.2] at this; exact this
        have RW := (unhide hO).row (by rw [unhide hRl]; unfold maxLen; omega)
        have TR := trim_any _ _ _ RW (unhide hI).wds (by rw [unhide hRl]; omega)
        rw [unhide hRl, hv] at TR
        have HT := hide TR
        clear TR RW hv
        go_wp2_with fail
        refine (unhide HT).mono ?_
        rintro e w1 ⟨rfl, v1, rfl, D1⟩
        have HD := hide D1
        clear D1
        go_wp2_with fail
        go_ret
        exact ⟨unhide hK, _, rfl, unhide HD⟩
end Go.Proofs.YtaidefdbjcgcbaaGreat
