/-
  The document's answer, chapter 1: Join.
-/
import Derived.Test.YthoemilflefniaaBigI
namespace Go.Proofs.Ythoemilflefniaa
open Go.RowKit
set_option linter.unusedSimpArgs false
set_option linter.unusedVariables false

theorem p65536 (i : Nat) : (2 : Int) ^ (16 * i) = 65536 ^ i := by rw [Int.pow_mul]; rfl
theorem below_tn {B p : Nat} {a w w' : World} (h : Below B a w) (k : Tn p w w') (hp : B ≤ p) (hB : B ≤ w.heap.size) : Below B a w' := h.trans (k.below hp hB)
set_option maxRecDepth 100000 in
set_option maxHeartbeats 4000000 in
theorem rjoin_any (L : List Int) (v : Value) (w : World) (hl : Ints w v L) :
    Calls Try.prog 31 #[v] w fun e w' => e = retJ (joinA L) ∧ Below w.heap.size w w' := by
  have HI := hide hl
  obtain ⟨ao, cap, rfl, hm, hat⟩ := hl.at
  unfold maxLen at hm
  have HA := hide hat
  clear hat hl
  by_cases hz : L.length = 0
  · have HJ := hide (joinA_many (.inl hz))
    rw [hz]
    clear HI HA
    go_enter Try.func31, Try.ntmps31
    go_wp2_with fail
    go_ret2
    exact ⟨congrArg retJ (unhide HJ).symm, Below.refl _ _⟩
  · have b0 : ((L.length : Int) == 0) = false := beq_eq_false_iff_ne.2 (by omega)
    by_cases h4 : 4 < L.length
    · have HJ := hide (joinA_many (.inr h4))
      have b1 : decide ((4 : Int) < (L.length : Int)) = true := decide_eq_true (by omega)
      clear HI HA
      go_enter Try.func31, Try.ntmps31
      go_wp2_with fail
      go_ret2
      exact ⟨congrArg retJ (unhide HJ).symm, Below.refl _ _⟩
    · have b1 : decide ((4 : Int) < (L.length : Int)) = false := decide_eq_false (by omega)
      have l1 : 1 ≤ L.length := by omega
      have l4 : L.length ≤ 4 := by omega
      obtain ⟨b, off, rfl, hb, hc⟩ := unhide HA (by intro h; rw [h] at l1; simp at l1)
      have HC := hide hc
      have HN := hide (Big.new w)
      have KN := hide (below_a w (.cells #[.bool false, .slice none 0 0] 61))
      clear hc HA HI
      go_enter Try.func31, Try.ntmps31
      go_wp2_with fail
      clear b0 b1
      go_loopg [18] L.length (fun g t wr => ∃ i : Nat, i ≤ L.length ∧ g = L.length - i ∧ t = .int .i64 i ∧ Hid (Big wr w.heap.size (jn (L.take i))) ∧ Hid (Below w.heap.size w wr) ∧ Hid (∀ j (h : j < L.length), j < i → okw L[j]))
      case atStart => exact ⟨0, Nat.zero_le _, rfl, rfl, HN, KN, fun j _ h => by omega⟩
      case round =>
        obtain ⟨i, hi, hg, rfl, hB, hK, hk⟩ := hrel
        clear HN KN
        have sK := (unhide hK).size
        have lP := (unhide hB).lt
        obtain ⟨j0, j1⟩ := jn_b i hi (unhide hk)
        by_cases hlt : i < L.length
        · have c0 := cell_keep (unhide hK) hb (unhide HC i hlt)
          have JT := hide (jn_take L i hlt)
          have BAD := hide (fun h => joinA_bad l1 l4 hlt h)
          have NXT := hide (fun (h : okw L[i]) => show ∀ j (hj : j < L.length), j < i + 1 → okw L[j] from fun j hj hji => by
            by_cases e : j = i
            · subst e; exact h
            · exact unhide hk j hj (by omega))
          have i4 : i = 0 ∨ i = 1 ∨ i = 2 ∨ i = 3 := by omega
          have pb : (0 : Int) < 65536 ^ i ∧ (65536 : Int) ^ i ≤ 281474976710656 := by rcases i4 with rfl | rfl | rfl | rfl <;> decide
          clear i4
          unfold okw at BAD NXT
          generalize L[i] = x at *
          have hil : (i : Int) < (L.length : Int) := by omega
          by_cases x0 : x < 0
          · have b0 : decide (x < 0) = true := decide_eq_true x0
            have HJ := hide (unhide BAD (by omega))
            go_wp2_with fail
            go_ret2
            exact ⟨congrArg retJ (unhide HJ).symm, unhide hK⟩
          · have b0 : decide (x < 0) = false := decide_eq_false x0
            by_cases x1 : 65535 < x
            · have b1 : decide (65535 < x) = true := decide_eq_true x1
              have HJ := hide (unhide BAD (by omega))
              go_wp2_with fail
              go_ret2
              exact ⟨congrArg retJ (unhide HJ).symm, unhide hK⟩
            · have b1 : decide (65535 < x) = false := decide_eq_false x1
              have HX := hide (unhide NXT ⟨by omega, by omega⟩)
              clear BAD NXT
              generalize hJ : jn (L.take i) = J at *
              have HJ := hide hJ
              clear hJ
              have HM := hide (Big.new wr)
              have KM := hide (below_a wr (.cells #[.bool false, .slice none 0 0] 61))
              have hsz : (wr.alloc (.cells #[.bool false, .slice none 0 0] 61)).heap.size = wr.heap.size + 1 := by simp
              have e16 : ((16 : Int) * (i : Int)) = ((16 * i : Nat) : Int) := by omega
              have T16 := hide (fun W => two_any (16 * i) W (by omega))
              rw [← e16, p65536] at T16
              clear e16
              go_wp2_with fail
              generalize wr.alloc (.cells #[.bool false, .slice none 0 0] 61) = W1 at *
              refine (newI_any x W1 ⟨by omega, by omega⟩).mono ?_
              rintro e w2 ⟨rfl, k2, b2⟩
              rw [hsz] at b2
              have K2 := hide k2
              have B2 := hide b2
              have s2 := (unhide K2).size
              clear k2 b2
              go_wp2_with fail
              refine (unhide T16 w2).mono ?_
              rintro e w3 ⟨rfl, k3, b3⟩
              have K3 := hide k3
              have B3 := hide b3
              have s3 := (unhide K3).size
              clear k3 b3 T16
              go_wp2_with fail
              have I3 := hide (((unhide HM).int.step (unhide K2)).step (unhide K3))
              generalize hP : (65536 : Int) ^ i = P at *
              have HP := hide hP
              clear hP
              have hxp : 0 ≤ x * P ∧ x * P ≤ 18446462598732840960 := by
                refine ⟨Int.mul_nonneg (by omega) (by omega), ?_⟩
                have h1 : x * P ≤ 65535 * P := Int.mul_le_mul_of_nonneg_right (by omega) (by omega)
                omega
              refine (mul_big wr.heap.size (wr.heap.size + 1) w2.heap.size x P w3 (unhide I3) ((unhide B2).step (unhide K3)) (unhide B3) (by omega) (by omega) (by omega) (by omega)).mono ?_
              rintro e w4 ⟨rfl, k4, b4⟩
              have K4 := hide k4
              have B4 := hide b4
              have s4 := (unhide K4).size
              have N4 := hide ((((((unhide hB).step (unhide KM)).step (unhide K2)).step (unhide K3)).tn (unhide K4) (unhide I3) (by omega)))
              have L4 := hide (below_tn ((unhide hK).trans (((unhide KM).mono (by omega)).trans (((unhide K2).mono (by omega)).trans ((unhide K3).mono (by omega))))) (unhide K4) (by omega) (by omega))
              clear k4 b4
              go_wp2_with fail
              generalize hXP : x * P = XP at *
              have HXP := hide hXP
              clear hXP
              refine (add_big w.heap.size w.heap.size wr.heap.size J XP w4 (unhide N4).int (unhide N4) (unhide B4) (by omega) (by omega) (by omega)).mono ?_
              rintro e w5 ⟨rfl, k5, b5⟩
              have K5 := hide k5
              have B5 := hide (show Big w5 w.heap.size (jn (L.take (i + 1))) by rw [unhide JT, Int.mul_comm P x, unhide HXP]; exact b5)
              have L5 := hide (below_tn (unhide L4) (unhide K5) (Nat.le_refl _) (by omega))
              clear k5 b5
              go_wp2_with fail
              go_roundg (L.length - (i + 1))
              case measure => omega
              case rel => exact ⟨i + 1, by omega, rfl, by go_num, B5, L5, HX⟩
        · have hil : i = L.length := by omega
          subst hil
          have HJ := hide (joinA_ok l1 l4 (fun j hj => unhide hk j hj hj))
          have hp4 : (65536 : Int) ^ L.length ≤ 18446744073709551616 := by
            have h5 : L.length = 1 ∨ L.length = 2 ∨ L.length = 3 ∨ L.length = 4 := by omega
            rcases h5 with h | h | h | h <;> rw [h] <;> decide
          rw [List.take_of_length_le (Nat.le_refl _)] at hB j0 j1
          have UA := uint_any w.heap.size (jn L) wr (unhide hB) (by omega)
          rw [show (((jn L).natAbs : Nat) : Int) = jn L by omega] at UA
          have HU := hide UA
          clear UA hp4
          go_wp2_with fail
          refine (unhide HU).mono ?_
          rintro e w2 ⟨rfl, rfl⟩
          go_wp2_with fail
          go_ret2
          exact ⟨congrArg retJ (unhide HJ).symm, unhide hK⟩
end Go.Proofs.Ythoemilflefniaa
