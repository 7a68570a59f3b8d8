/-
  right: numbers below 2^64 moved down by 0, 16, 32 or 48 places.
-/
import Derived.Test.YtmjnihepgglbdaaBig4
namespace Go.Proofs.Ytmjnihepgglbdaa
open Go.RowKit
set_option linter.unusedSimpArgs false
set_option linter.unusedVariables false

/-- The word that comes to stand at j. -/
def rwdq (A : List Int) (q j : Nat) (P : Int) : Int := (A.getD (j + q) 0 + 4294967296 * A.getD (j + q + 1) 0) / P % 4294967296
theorem rwdq_b (A : List Int) (q j : Nat) (P : Int) : 0 ≤ rwdq A q j P ∧ rwdq A q j P ≤ 4294967295 := by unfold rwdq; omega
/-- The number that the words tell. -/
theorem rightq_val {A R : List Int} {n : Int} {q : Nat} {P : Int} (h : Is A n) (hn : n < 18446744073709551616) (hq : q ≤ 1) (hP : P = 1 ∨ P = 65536) (hl : q < A.length) (hR : R.length = A.length - q) (hT : ∀ j, j < A.length - q → R.getD j 0 = rwdq A q j P) : vl R = n / (4294967296 ^ q * P) := by
  obtain ⟨e, -, -, hl2⟩ := is_two h hn
  have g0 := h.1.get 0
  have g1 := h.1.get 1
  have g2 : A.getD 2 0 = 0 := by rw [List.getD_eq_getElem?_getD, List.getElem?_eq_none (by omega)]; rfl
  have g3 : A.getD 3 0 = 0 := by rw [List.getD_eq_getElem?_getD, List.getElem?_eq_none (by omega)]; rfl
  have hA1 : A.length = 1 → A.getD 1 0 = 0 := fun h1 => by rw [List.getD_eq_getElem?_getD, List.getElem?_eq_none (by omega)]; rfl
  have hq2 : q = 0 ∨ q = 1 := by omega
  match R, hR with
  | [], hR => simp at hR; omega
  | [r0], hR =>
    have t0 := hT 0 (by simp at hR; omega)
    unfold rwdq at t0
    have e0 : ([r0] : List Int).getD 0 0 = r0 := rfl
    rw [e0] at t0
    simp only [vl]
    rcases hq2 with rfl | rfl
    · have := hA1 (by simp at hR; omega)
      simp only [Nat.zero_add] at t0
      rw [this] at t0 e
      rcases hP with rfl | rfl <;> simp <;> omega
    · simp only [Nat.zero_add] at t0
      rw [g2] at t0
      rcases hP with rfl | rfl <;> simp <;> omega
  | [r0, r1], hR =>
    have hz : q = 0 := by simp at hR; omega
    subst hz
    have t0 := hT 0 (by simp at hR; omega)
    have t1 := hT 1 (by simp at hR; omega)
    unfold rwdq at t0 t1
    have e0 : ([r0, r1] : List Int).getD 0 0 = r0 := rfl
    have e1 : ([r0, r1] : List Int).getD 1 0 = r1 := rfl
    rw [e0] at t0
    rw [e1] at t1
    simp only [Nat.zero_add, Nat.add_zero] at t0 t1
    rw [g2] at t1
    simp only [vl]
    rcases hP with rfl | rfl <;> simp <;> omega
  | _ :: _ :: _ :: _, hR => simp at hR; omega
theorem make32rq (n q : Nat) (hq : q ≤ n) (hn : n ≤ 900) (w : World) : (Instr.makeSlice 40 (.int .i64 ((n : Int) - (q : Int))) (.int .i64 ((n : Int) - (q : Int)))).run Try.prog w = .ok (.slice (some ⟨w.heap.size, 0, none⟩) (n - q) (n - q)) (w.alloc (.cells (madeCells #[.int .u32 0] (n - q)) 65)) := by
  have := make32 (n - q) (by omega) w
  rw [show ((n - q : Nat) : Int) = (n : Int) - (q : Int) by omega] at this
  exact this
set_option maxRecDepth 100000 in
set_option maxHeartbeats 1000000 in
theorem rightq_any (v : Value) (n : Int) (q s : Nat) (w : World) (h : Dg w v n) (hn : n < 18446744073709551616) (hq : q ≤ 1) (hs : s = 0 ∨ s = 16) :
    Calls Try.prog 44 #[v, .int .u64 ((32 * q + s : Nat) : Int)] w fun e w' => Below w.heap.size w w' ∧ ∃ v', e = .returned v' ∧ Dg w' v' (n / 2 ^ (32 * q + s)) := by
  obtain ⟨LA, rA, iA⟩ := h
  have lA := (is_two iA hn).2.2.2
  have iz := (is_two iA hn)
  obtain ⟨aoA, capA, rfl, _, _, _, hA4, hA5, hA6⟩ := rA.at
  have HRA := hide (fun d (he : aoA = some ⟨d, 0, none⟩) => And.intro (hA4 d 0 none he).2.2 (hA6 d he))
  have HA5 := hide hA5
  have IA := hide iA
  have hsb : s ≤ 16 := by omega
  have hq1 : (((32 * q + s : Nat) : Int)) / 32 = (q : Int) := by omega
  have hq2 : (((32 * q + s : Nat) : Int)) % 32 = (s : Int) := by omega
  have hpw : (2 : Int) ^ (32 * q + s) = 4294967296 ^ q * 2 ^ s := by rw [Int.pow_add, Int.pow_mul]; rfl
  have hP : (2 : Int) ^ s = 1 ∨ (2 : Int) ^ s = 65536 := by rcases hs with rfl | rfl <;> simp
  have hnl := iA.lo
  clear hA4 hA5 hA6 rA
  generalize hk : ((32 * q + s : Nat) : Int) = k at *
  have hk0 : 0 ≤ k := by omega
  have hk1 : k ≤ 48 := by omega
  by_cases l0 : LA.length ≤ q
  · have e0 : n / 2 ^ (32 * q + s) = 0 := by
      rw [hpw]
      obtain ⟨e, z0, z1, -⟩ := iz
      have g0 := iA.1.get 0
      have hq3 : q = 0 ∨ q = 1 := by omega
      rcases hq3 with rfl | rfl
      · rw [z0 (by omega)]; simp
      · by_cases hl0 : LA.length = 0
        · rw [z0 hl0]; simp
        · rw [z1 (by omega)]
          generalize LA.getD 0 0 = x0 at *
          rcases hP with h | h <;> rw [h] <;> simp <;> omega
    rw [e0]
    have hle : (LA.length : Int) ≤ (q : Int) := by omega
    clear HRA HA5 IA iz iA hpw hP e0 hk
    go_enter Try.func44, Try.ntmps44
    go_wp2_with fail
    go_ret
    exact ⟨Below.refl _ _, _, rfl, Dg.nil _⟩
  · have hle : ¬ (LA.length : Int) ≤ (q : Int) := by omega
    obtain ⟨dA, rfl⟩ := unhide HA5 (by omega)
    obtain ⟨hdA, hcA⟩ := unhide HRA dA rfl
    have HCA := hide hcA
    have O0 := hide (Own32.new w (LA.length - q))
    have K0 := hide (below_a w (.cells (madeCells #[.int .u32 0] (LA.length - q)) 65))
    have hmk := make32rq LA.length q (by omega) (by omega)
    have hm : ((LA.length - q : Nat) : Int) = (LA.length : Int) - (q : Int) := by omega
    have HV := hide (fun R h1 h2 => rightq_val (R := R) (P := 2 ^ s) iA hn hq hP (by omega) h1 h2)
    have HPW := hide hpw
    have HPP := hide hP
    clear hcA HRA HA5 iz iA hpw hk hP
    go_enter Try.func44, Try.ntmps44
    go_wp2_with fail
    clear hmk
    go_loopg [8] (LA.length - q) (fun g t wr => ∃ (i : Nat) (R : List Int), i ≤ LA.length - q ∧ g = LA.length - q - i ∧ t = .int .i64 i ∧ Hid (Own32 wr w.heap.size R) ∧ Hid (Below w.heap.size w wr) ∧ Hid (R.length = LA.length - q ∧ Wds R ∧ ∀ j, j < i → R.getD j 0 = rwdq LA q j (2 ^ s)))
    case atStart => exact ⟨0, _, Nat.zero_le _, rfl, rfl, O0, K0, by simp, wds_rep _, fun j hj => by omega⟩
    case round =>
      obtain ⟨i, R, hi, hg, rfl, hO, hK, hI⟩ := hrel
      clear O0 K0
      have hz := (unhide hK).size
      have hltR := (unhide hO).lt
      by_cases hlt2 : i < LA.length - q
      · have hiA : (i : Int) < (LA.length : Int) - (q : Int) := by omega
        have hiN : (i : Int) < ((LA.length - q : Nat) : Int) := by omega
        have cA := cell_keep (unhide hK) hdA (unhide HCA (i + q) (by omega))
        have gA := (unhide IA).1.get (i + q)
        have gB := (unhide IA).1.get (i + q + 1)
        have f1 := (unhide hO).frozen i
        have c1 := (unhide hO).cell i (by have := (unhide hI).1; omega)
        have hr := rwdq_b LA q i (2 ^ s)
        have OX := hide ((unhide hO).set i (rwdq LA q i (2 ^ s)) (by have := (unhide hI).1; omega))
        have KX := hide ((unhide hK).setCell (p := ⟨w.heap.size, i, none⟩) (Nat.le_refl _) (.int .u32 (rwdq LA q i (2 ^ s))))
        have IX : Hid ((R.set i (rwdq LA q i (2 ^ s))).length = LA.length - q ∧ Wds (R.set i (rwdq LA q i (2 ^ s))) ∧ ∀ j, j < i + 1 → (R.set i (rwdq LA q i (2 ^ s))).getD j 0 = rwdq LA q j (2 ^ s)) := by
          obtain ⟨h1, h2, h3⟩ := unhide hI
          refine ⟨by rw [List.length_set]; exact h1, h2.set i hr, fun j hj => ?_⟩
          by_cases e : i = j
          · subst e; exact getD_set_self (by omega)
          · rw [getD_set_ne e]; exact h3 j (by omega)
        have hij : ((i : Int) + (q : Int)).toNat = i + q := by omega
        have hij0 : (0 : Int) ≤ (i : Int) + (q : Int) := by omega
        have hij1 : (i : Int) + (q : Int) < (LA.length : Int) := by omega
        have hT : rwdq LA q i (2 ^ s) = (LA.getD (i + q) 0 + 4294967296 * LA.getD (i + q + 1) 0) / 2 ^ s % 4294967296 := rfl
        have hneA : dA ≠ w.heap.size := by omega
        have HTT := hide hT
        generalize hTT : rwdq LA q i (2 ^ s) = T at *
        have hss : ((s : Int)).toNat = s := by omega
        have hs64 : (s : Int) < 64 := by omega
        by_cases hb : i + q + 1 < LA.length
        · have hb1 : (i : Int) + (q : Int) + 1 < (LA.length : Int) := by omega
          have hb2 : ((i : Int) + (q : Int) + 1).toNat = i + q + 1 := by omega
          have hb0 : (0 : Int) ≤ (i : Int) + (q : Int) + 1 := by omega
          have cB := cell_keep (unhide hK) hdA (unhide HCA (i + q + 1) hb)
          have ho := or_two _ _ gA gB
          have hw : LA.getD (i + q + 1) 0 * 4294967296 ≤ 18446744073709551615 := by omega
          generalize LA.getD (i + q) 0 = a at *
          generalize LA.getD (i + q + 1) 0 = c at *
          clear hO hK hI hT hTT HV HPW IA
          go_wp2_with fail
          rw [← unhide HTT]
          go_roundg (LA.length - q - (i + 1))
          case measure => omega
          case rel => exact ⟨i + 1, _, by omega, rfl, by go_num, OX, KX, IX⟩
        · have hb1 : ¬ (i : Int) + (q : Int) + 1 < (LA.length : Int) := by omega
          have hc0 : LA.getD (i + q + 1) 0 = 0 := by rw [List.getD_eq_getElem?_getD, List.getElem?_eq_none (by omega)]; rfl
          have hT2 := unhide HTT
          rw [hc0, Int.mul_zero, Int.add_zero] at hT2
          have HT2 := hide hT2
          generalize LA.getD (i + q) 0 = a at *
          clear hO hK hI hT hTT HV HPW IA HTT hT2 gB hc0
          go_wp2_with fail
          rw [← unhide HT2]
          go_roundg (LA.length - q - (i + 1))
          case measure => omega
          case rel => exact ⟨i + 1, _, by omega, rfl, by go_num, OX, KX, IX⟩
      · have hiA : ¬ (i : Int) < (LA.length : Int) - (q : Int) := by omega
        have hie : i = LA.length - q := by omega
        have hv := unhide HV R (unhide hI).1 (fun j hj => (unhide hI).2.2 j (by omega))
        rw [← unhide HPW] at hv
        have hRl := (unhide hI).1
        have RW := (unhide hO).row (by rw [hRl]; unfold maxLen; omega)
        have TR := trim_any _ _ _ RW (unhide hI).2.1 (by rw [hRl]; omega)
        rw [hRl, hv] at TR
        have HT := hide TR
        clear TR RW hv HV HPW IA hI
        go_wp2_with fail
        refine (unhide HT).mono ?_
        rintro e w1 ⟨rfl, v1, rfl, D1⟩
        have HD := hide D1
        clear D1
        go_wp2_with fail
        go_ret
        exact ⟨unhide hK, _, rfl, unhide HD⟩
end Go.Proofs.Ytmjnihepgglbdaa
