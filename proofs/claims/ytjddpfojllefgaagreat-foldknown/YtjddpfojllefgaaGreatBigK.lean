/-
  right, and length where the highest word is one.
-/
import Derived.Test.YtjddpfojllefgaaGreatBig8
import Derived.Test.YtjddpfojllefgaaGreatBigDz
namespace Go.Proofs.YtjddpfojllefgaaGreat
open Go.RowKit
set_option linter.unusedSimpArgs false
set_option linter.unusedVariables false

/-- The first i words of what is moved down by s bits (A: the words from the first one that is taken on). -/
structure RightInv (A R : List Int) (s i : Nat) : Prop where
  len : R.length = A.length
  wds : Wds R
  zer : ∀ j, i ≤ j → R.getD j 0 = 0
  val : vl R + 4294967296 ^ i * (A.getD i 0 / 2 ^ s) = vl (A.take (i + 1)) / 2 ^ s
theorem RightInv.start (A : List Int) (s : Nat) : RightInv A (List.replicate A.length 0) s 0 :=
  ⟨by simp, wds_rep _, fun j _ => getD_rep _ j, by
    rw [vl_rep]
    have := vl_take A 0
    simp [vl] at this ⊢
    rw [this]⟩
theorem dm_split {x y : Int} {s : Nat} (hs : s ≤ 31) (hx : 0 ≤ x ∧ x ≤ 4294967295) (hy : 0 ≤ y ∧ y ≤ 4294967295) :
    (x + 4294967296 * y) / 2 ^ s = x / 2 ^ s + 2 ^ (32 - s) * y ∧ (x + 4294967296 * y) / 2 ^ s % 4294967296 + 4294967296 * (y / 2 ^ s) = x / 2 ^ s + 2 ^ (32 - s) * y := by
  obtain ⟨p1, p2, p3⟩ := two_pow_le hs
  have e1 : (x + 4294967296 * y) / 2 ^ s = x / 2 ^ s + 2 ^ (32 - s) * y := by
    rw [← p3, Int.mul_assoc, Int.add_mul_ediv_left _ _ (by omega)]
  refine ⟨e1, ?_⟩
  have q1 : (x + 4294967296 * y) / 2 ^ s / 4294967296 = y / 2 ^ s := by
    rw [Int.ediv_ediv_of_nonneg (by omega), Int.mul_comm ((2 : Int) ^ s) 4294967296, ← Int.ediv_ediv_of_nonneg (by decide)]
    congr 1
    omega
  rw [← q1, ← e1]
  omega
theorem RightInv.next {A R : List Int} {s i : Nat} (h : RightInv A R s i) (hi : i < A.length) (hA : Wds A) (hs : s ≤ 31) :
    RightInv A (R.set i ((A.getD i 0 + 4294967296 * A.getD (i + 1) 0) / 2 ^ s % 4294967296)) s (i + 1) := by
  obtain ⟨h1, h2, h3, h4⟩ := h
  obtain ⟨d1, d2⟩ := dm_split hs (hA.get i) (hA.get (i + 1))
  obtain ⟨p1, p2, p3⟩ := two_pow_le hs
  have s1 := vl_set R i ((A.getD i 0 + 4294967296 * A.getD (i + 1) 0) / 2 ^ s % 4294967296) (by omega)
  rw [h3 i (Nat.le_refl _)] at s1
  have t := vl_take A (i + 1)
  refine ⟨by rw [List.length_set]; exact h1, h2.set _ (by omega), fun j hj => by rw [getD_set_ne (by omega)]; exact h3 j (by omega), ?_⟩
  rw [s1, t]
  have e : vl (A.take (i + 1)) + 4294967296 ^ (i + 1) * A.getD (i + 1) 0 = vl (A.take (i + 1)) + 2 ^ s * (2 ^ (32 - s) * (4294967296 ^ i * A.getD (i + 1) 0)) := by
    rw [Int.pow_succ, ← p3]
    grind
  rw [e, Int.add_mul_ediv_left _ _ (by omega), ← h4, Int.pow_succ]
  generalize (A.getD i 0 + 4294967296 * A.getD (i + 1) 0) / 2 ^ s % 4294967296 = r at *
  generalize A.getD (i + 1) 0 / 2 ^ s = q at *
  generalize A.getD i 0 / 2 ^ s = u at *
  generalize A.getD (i + 1) 0 = y at *
  generalize (2 : Int) ^ (32 - s) = T at *
  generalize (4294967296 : Int) ^ i = P at *
  clear s1 t e h1 h2 h3 h4 d1 p1 p2 p3
  grind
theorem RightInv.done {A R : List Int} {s : Nat} (h : RightInv A R s A.length) : vl R = vl A / 2 ^ s := by
  have := h.val
  rw [List.take_of_length_le (by omega), List.getD_eq_getElem?_getD, List.getElem?_eq_none (Nat.le_refl _)] at this
  simpa using this
set_option maxHeartbeats 1000000 in
/-- Moved down by fewer than thirty-two bits. -/
theorem right_any (v : Value) (n : Int) (s : Nat) (w : World) (h : Dg w v n) (hn : n < 4294967296 ^ 8) (hs : s ≤ 31) :
    Calls Tryz.prog 115 #[v, .int .u64 (s : Int)] w fun e w' => Below w.heap.size w w' ∧ ∃ v', e = .returned v' ∧ Dg w' v' (n / 2 ^ s) := by
  obtain ⟨LA, rA, iA⟩ := h
  have lA := iA.len 8 hn
  obtain ⟨aoA, capA, rfl, _, _, _, hA4, hA5, hA6⟩ := rA.at
  have HRA := hide (fun d (he : aoA = some ⟨d, 0, none⟩) => And.intro (hA4 d 0 none he).2.2 (hA6 d he))
  have HA5 := hide hA5
  have IA := hide iA
  have zA := iA.zero
  have hq1 : (s : Int) / 32 = 0 := by omega
  have hq2 : (s : Int) % 32 = (s : Int) := by omega
  clear hA4 hA5 hA6 rA iA
  by_cases l0 : LA.length = 0
  · have e0 := zA.1 l0
    subst e0
    rw [Int.zero_ediv]
    rw [l0]
    clear HRA HA5 zA
    go_enter Tryz.func115, Tryz.ntmps115
    go_wp2_with fail
    go_ret
    exact ⟨Below.refl _ _, _, rfl, Dg.nil _⟩
  · have hb1 : decide ((LA.length : Int) ≤ 0) = false := decide_eq_false (by omega)
    obtain ⟨dA, rfl⟩ := unhide HA5 l0
    obtain ⟨hdA, hcA⟩ := unhide HRA dA rfl
    have HCA := hide hcA
    have O0 := hide (Own32.new w LA.length)
    have K0 := hide (below_a w (.cells (madeCells #[.int .u32 0] LA.length) 91))
    have hmk := make32 LA.length (by omega)
    clear hcA HRA HA5 zA
    go_enter Tryz.func115, Tryz.ntmps115
    go_wp2_with fail
    clear hmk hb1
    go_loopg [8] LA.length (fun g t wr => ∃ (i : Nat) (R : List Int), i ≤ LA.length ∧ g = LA.length - i ∧ t = .int .i64 i ∧ Hid (Own32 wr w.heap.size R) ∧ Hid (Below w.heap.size w wr) ∧ Hid (RightInv LA R s i))
    case atStart => exact ⟨0, _, Nat.zero_le _, by simp, rfl, O0, K0, RightInv.start LA s⟩
    case round =>
      obtain ⟨i, R, hi, hg, rfl, hO, hK, hI⟩ := hrel
      clear O0 K0
      have hz := (unhide hK).size
      have hlt := (unhide hO).lt
      have hRl := hide (unhide hI).len
      by_cases hlt2 : i < LA.length
      · have hiA : (i : Int) < (LA.length : Int) := by omega
        have cA := cell_keep (unhide hK) hdA (unhide HCA i hlt2)
        have gA := (unhide IA).1.get i
        have gB := (unhide IA).1.get (i + 1)
        have f1 := (unhide hO).frozen i
        have c1 := (unhide hO).cell i (by have := unhide hRl; omega)
        have NX := hide ((unhide hI).next hlt2 (unhide IA).1 hs)
        have OX := hide ((unhide hO).set i ((LA.getD i 0 + 4294967296 * LA.getD (i + 1) 0) / 2 ^ s % 4294967296) (by have := unhide hRl; omega))
        have KX := hide ((unhide hK).setCell (p := ⟨w.heap.size, i, none⟩) (Nat.le_refl _) (.int .u32 ((LA.getD i 0 + 4294967296 * LA.getD (i + 1) 0) / 2 ^ s % 4294967296)))
        have hneA : dA ≠ w.heap.size := by omega
        have hss : ((s : Int)).toNat = s := by omega
        have hs64 : (s : Int) < 64 := by omega
        have hik : ((i : Int) + 1).toNat = i + 1 := by omega
        by_cases hb : i + 1 < LA.length
        · have hib : ((i : Int) + 1) < (LA.length : Int) := by omega
          have cB := cell_keep (unhide hK) hdA (unhide HCA (i + 1) hb)
          have ho := or_two (LA.getD i 0) (LA.getD (i + 1) 0) gA gB
          generalize LA.getD i 0 = x at *
          generalize LA.getD (i + 1) 0 = y at *
          generalize R.getD i 0 = z at *
          obtain ⟨T, hT⟩ : ∃ T, T = x + 4294967296 * y := ⟨_, rfl⟩
          rw [← hT] at NX OX KX ho
          have T0 : 0 ≤ T ∧ T ≤ 18446744073709551615 := by omega
          have hd0 := (div_pow_le T s T0.1)
          clear hT
          go_wp2_with fail
          go_roundg (LA.length - (i + 1))
          case measure => omega
          case rel => exact ⟨i + 1, _, by omega, rfl, by go_num, OX, KX, NX⟩
        · have hib : decide (((i : Int) + 1) < (LA.length : Int)) = false := decide_eq_false (by omega)
          have hy : LA.getD (i + 1) 0 = 0 := by rw [List.getD_eq_getElem?_getD, List.getElem?_eq_none (by omega)]; rfl
          rw [hy] at NX OX KX
          clear hy gB
          generalize LA.getD i 0 = x at *
          generalize R.getD i 0 = z at *
          rw [Int.mul_zero, Int.add_zero] at NX OX KX
          have hd0 := (div_pow_le x s gA.1)
          rw [Int.emod_eq_of_lt hd0.1 (by omega)] at NX OX KX
          go_wp2_with fail
          go_roundg (LA.length - (i + 1))
          case measure => omega
          case rel => exact ⟨i + 1, _, by omega, rfl, by go_num, OX, KX, NX⟩
      · have hiA : i = LA.length := by omega
        subst hiA
        have hv : vl R = n / 2 ^ s := by have := (unhide hI).done; rw [(unhide IA).2.2] at this; exact this
        have RW := (unhide hO).row (by rw [unhide hRl]; unfold maxLen; omega)
        have TR := trim_any _ _ _ RW (unhide hI).wds (by rw [unhide hRl]; omega)
        rw [unhide hRl, hv] at TR
        have HT := hide TR
        clear TR RW hv
        go_wp2_with fail
        refine (unhide HT).mono ?_
        rintro e w1 ⟨rfl, v1, rfl, D1⟩
        have HD := hide D1
        clear D1
        go_wp2_with fail
        go_ret
        exact ⟨unhide hK, _, rfl, unhide HD⟩
end Go.Proofs.YtjddpfojllefgaaGreat
