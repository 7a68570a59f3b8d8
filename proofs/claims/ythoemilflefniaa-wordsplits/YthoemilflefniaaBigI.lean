/-
  Join, the program's and the document's.
-/
import Derived.Test.YthoemilflefniaaBigG
import Derived.Test.YthoemilflefniaaJoinS
namespace Go.Proofs.Ythoemilflefniaa
open Go.RowKit
set_option linter.unusedSimpArgs false
set_option linter.unusedVariables false

def jn : List Int → Int
  | [] => 0
  | x :: r => x + 65536 * jn r
def okw (x : Int) : Prop := 0 ≤ x ∧ x ≤ 65535
instance (x : Int) : Decidable (okw x) := by unfold okw; infer_instance
theorem jn_take (L : List Int) : ∀ i (h : i < L.length), jn (L.take (i + 1)) = jn (L.take i) + 65536 ^ i * L[i] := by
  induction L with
  | nil => intro i h; simp at h
  | cons x r ih =>
    intro i h
    cases i with
    | zero => simp [jn]
    | succ i =>
      have := ih i (by simpa using h)
      simp only [List.take_succ_cons, jn, List.getElem_cons_succ, Int.pow_succ, this]
      grind
theorem jn_b {L : List Int} : ∀ i, i ≤ L.length → (∀ j (h : j < L.length), j < i → okw L[j]) → 0 ≤ jn (L.take i) ∧ jn (L.take i) < 65536 ^ i
  | 0, _, _ => by simp [jn]
  | i + 1, hi, h => by
    obtain ⟨a, b⟩ := jn_b i (by omega) (fun j hj hji => h j hj (by omega))
    have c := h i (by omega) (by omega)
    unfold okw at c
    rw [jn_take L i (by omega), Int.pow_succ]
    have p : (0 : Int) < 65536 ^ i := Int.pow_pos (by decide)
    have m0 := Int.mul_nonneg (Int.le_of_lt p) c.1
    have m1 : (65536 : Int) ^ i * L[i] ≤ 65536 ^ i * 65535 := Int.mul_le_mul_of_nonneg_left c.2 (Int.le_of_lt p)
    omega
/-- What comes of a list of words. -/
def joinA (L : List Int) : Int × Int := if L.length = 0 ∨ 4 < L.length then (0, 5) else if ∀ x ∈ L, okw x then (jn L, 0) else (0, 3)
theorem joinA_many {L : List Int} (h : L.length = 0 ∨ 4 < L.length) : joinA L = (0, 5) := if_pos h
theorem joinA_ok {L : List Int} (h1 : 1 ≤ L.length) (h2 : L.length ≤ 4) (h : ∀ j (hj : j < L.length), okw L[j]) : joinA L = (jn L, 0) := by
  unfold joinA
  rw [if_neg (by omega), if_pos]
  intro x hx
  obtain ⟨j, hj, rfl⟩ := List.getElem_of_mem hx
  exact h j hj
theorem joinA_bad {L : List Int} (h1 : 1 ≤ L.length) (h2 : L.length ≤ 4) {j : Nat} (hj : j < L.length) (h : ¬ okw L[j]) : joinA L = (0, 3) := by
  unfold joinA
  rw [if_neg (by omega), if_neg]
  intro k
  exact h (k _ (List.getElem_mem hj))
def retJ (p : Int × Int) : Ending := .returned (.tuple #[.int .u64 p.1, .int .i64 p.2])
set_option maxHeartbeats 2000000 in
theorem join_any (L : List Int) (v : Value) (w : World) (hl : Ints w v L) :
    Calls Try.prog 30 #[v] w fun e w' => e = retJ (joinA L) ∧ w' = w := by
  obtain ⟨ao, cap, rfl, hm, hat⟩ := hl.at
  unfold maxLen at hm
  have HA := hide hat
  clear hat hl
  by_cases hmany : L.length = 0 ∨ 4 < L.length
  · have HJ := hide (joinA_many hmany)
    have FE : Hid (∀ w : World, Calls Try.prog 66 #[.slice ao L.length cap] w fun e w' => e = .returned (.bool false) ∧ w' = w) := fun w => by
      rcases hmany with h | h
      · rw [h]
        go_enter Try.func66, Try.ntmps66
        go_wp2
        go_ret
        exact ⟨rfl, rfl⟩
      · have b1 : decide ((1 : Int) ≤ (L.length : Int)) = true := decide_eq_true (by omega)
        have b2 : decide ((L.length : Int) ≤ 4) = false := decide_eq_false (by omega)
        go_enter Try.func66, Try.ntmps66
        go_wp2
        go_ret
        exact ⟨rfl, rfl⟩
    clear hmany
    go_enter Try.func30, Try.ntmps30
    go_wp2_with fail
    refine (unhide FE _).mono ?_
    rintro e w1 ⟨rfl, rfl⟩
    go_wp2_with fail
    go_ret2
    exact ⟨congrArg retJ (unhide HJ).symm, rfl⟩
  · have l1 : 1 ≤ L.length := by omega
    have l4 : L.length ≤ 4 := by omega
    have FE : Hid (∀ w : World, Calls Try.prog 66 #[.slice ao L.length cap] w fun e w' => e = .returned (.bool true) ∧ w' = w) := fun w => by
      have b1 : decide ((1 : Int) ≤ (L.length : Int)) = true := decide_eq_true (by omega)
      have b2 : decide ((L.length : Int) ≤ 4) = true := decide_eq_true (by omega)
      go_enter Try.func66, Try.ntmps66
      go_wp2
      go_ret
      exact ⟨rfl, rfl⟩
    obtain ⟨b, off, rfl, hb, hc⟩ := unhide HA (by intro h; rw [h] at l1; simp at l1)
    have HC := hide hc
    clear hc HA hmany
    go_enter Try.func30, Try.ntmps30
    go_wp2_with fail
    refine (unhide FE _).mono ?_
    rintro e w1 ⟨rfl, rfl⟩
    go_wp2_with fail
    go_loopg [4, 12] L.length (fun g o t wr => ∃ i : Nat, i ≤ L.length ∧ g = L.length - i ∧ o = .int .u64 (jn (L.take i)) ∧ t = .int .i64 i ∧ wr = w1 ∧ Hid (∀ j (h : j < L.length), j < i → okw L[j]))
    case atStart => exact ⟨0, Nat.zero_le _, rfl, rfl, rfl, rfl, fun j _ h => by omega⟩
    case round =>
      obtain ⟨i, hi, hg, rfl, rfl, rfl, hk⟩ := hrel
      by_cases hlt : i < L.length
      · have c0 := unhide HC i hlt
        obtain ⟨j0, j1⟩ := jn_b i hi (unhide hk)
        have JT := jn_take L i hlt
        have BAD := hide (fun h => joinA_bad l1 l4 hlt h)
        have NXT := hide (fun (h : okw L[i]) => show ∀ j (hj : j < L.length), j < i + 1 → okw L[j] from fun j hj hji => by
          by_cases e : j = i
          · subst e; exact h
          · exact unhide hk j hj (by omega))
        unfold okw at BAD NXT
        generalize L[i] = x at *
        have hil : (i : Int) < (L.length : Int) := by omega
        by_cases x0 : x < 0
        · have b0 : decide (x < 0) = true := decide_eq_true x0
          have HJ := hide (unhide BAD (by omega))
          go_wp2_with fail
          go_ret2
          exact ⟨congrArg retJ (unhide HJ).symm, rfl⟩
        · have b0 : decide (x < 0) = false := decide_eq_false x0
          by_cases x1 : 65535 < x
          · have b1 : decide (65535 < x) = true := decide_eq_true x1
            have HJ := hide (unhide BAD (by omega))
            go_wp2_with fail
            go_ret2
            exact ⟨congrArg retJ (unhide HJ).symm, rfl⟩
          · have b1 : decide (65535 < x) = false := decide_eq_false x1
            have HN := hide (unhide NXT ⟨by omega, by omega⟩)
            have HT := hide JT
            clear JT BAD NXT
            have i4 : i = 0 ∨ i = 1 ∨ i = 2 ∨ i = 3 := by omega
            generalize hJ : jn (L.take i) = J at *
            have HJ := hide hJ
            clear hJ
            rcases i4 with rfl | rfl | rfl | rfl
            · have oo : bits .or .u64 J x = J + x := by
                have : J = 0 := by omega
                rw [this, or_0 x (by omega) (by omega)]; omega
              rw [Nat.add_zero] at c0
              go_wp2_with fail
              go_roundg (L.length - 1)
              case measure => omega
              case rel => exact ⟨1, by omega, rfl, by rw [unhide HT]; simp, rfl, rfl, HN⟩
            · have oo := or_up 16 J (x * 65536) (by omega) (by omega) (by omega) (by omega) (by omega) (by omega)
              go_wp2_with fail
              go_roundg (L.length - 2)
              case measure => omega
              case rel => exact ⟨2, by omega, rfl, by rw [unhide HT, Int.mul_comm]; rfl, rfl, rfl, HN⟩
            · have oo := or_up 32 J (x * 4294967296) (by omega) (by omega) (by omega) (by omega) (by omega) (by omega)
              go_wp2_with fail
              go_roundg (L.length - 3)
              case measure => omega
              case rel => exact ⟨3, by omega, rfl, by rw [unhide HT, Int.mul_comm]; rfl, rfl, rfl, HN⟩
            · have oo := or_up 48 J (x * 281474976710656) (by omega) (by omega) (by omega) (by omega) (by omega) (by omega)
              go_wp2_with fail
              go_roundg (L.length - 4)
              case measure => omega
              case rel => exact ⟨4, by omega, rfl, by rw [unhide HT, Int.mul_comm]; rfl, rfl, rfl, HN⟩
      · have hil : i = L.length := by omega
        subst hil
        have HJ := hide (joinA_ok l1 l4 (fun j hj => unhide hk j hj hj))
        rw [List.take_of_length_le (Nat.le_refl _)]
        go_wp2_with fail
        go_ret2
        exact ⟨congrArg retJ (unhide HJ).symm, rfl⟩
end Go.Proofs.Ythoemilflefniaa
