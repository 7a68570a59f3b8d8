/-
  The document's answer on rows of words: its two closures, number and sign.
-/
import Derived.Test.YtmjnihepgglbdaaBigV
import Derived.Test.YtmjnihepgglbdaaBigN
import Derived.Test.YtmjnihepgglbdaaR1S
import Derived.Test.YtmjnihepgglbdaaMem
namespace Go.Proofs.Ytmjnihepgglbdaa
open Go.RowKit
set_option linter.unusedSimpArgs false
set_option linter.unusedVariables false

/-- What words tell, the lowest first. -/
def jw : List Int → Int
  | [] => 0
  | x :: r => x + 65536 * jw r
theorem jw_take (L : List Int) : ∀ i (h : i < L.length), jw (L.take (i + 1)) = jw (L.take i) + 65536 ^ i * L[i] := by
  induction L with
  | nil => intro i h; simp at h
  | cons x r ih =>
    intro i h
    cases i with
    | zero => simp [jw]
    | succ i =>
      have := ih i (by simpa using h)
      simp only [List.take_succ_cons, jw, List.getElem_cons_succ, Int.pow_succ, this]
      grind
theorem jw_b {L : List Int} (hL : ∀ x ∈ L, 0 ≤ x ∧ x ≤ 65535) : ∀ i, i ≤ L.length → 0 ≤ jw (L.take i) ∧ jw (L.take i) < 65536 ^ i
  | 0, _ => by simp [jw]
  | i + 1, hi => by
    obtain ⟨a, b⟩ := jw_b hL i (by omega)
    have c := hL L[i] (List.getElem_mem _)
    rw [jw_take L i (by omega), Int.pow_succ]
    have p : (0 : Int) < 65536 ^ i := Int.pow_pos (by decide)
    have m0 := Int.mul_nonneg (Int.le_of_lt p) c.1
    have m1 : (65536 : Int) ^ i * L[i] ≤ 65536 ^ i * 65535 := Int.mul_le_mul_of_nonneg_left c.2 (Int.le_of_lt p)
    omega
theorem lws_b (L : List Int) : ∀ x ∈ L.map lw, 0 ≤ x ∧ x ≤ 65535 := by
  intro x hx
  obtain ⟨y, -, rfl⟩ := List.mem_map.1 hx
  exact lw_b y
theorem q65536 (i : Nat) : (2 : Int) ^ (16 * i) = 65536 ^ i := by rw [Int.pow_mul]; rfl
theorem below_tnw {B p : Nat} {a w w' : World} (h : Below B a w) (k : Tn p w w') (hp : B ≤ p) (hB : B ≤ w.heap.size) : Below B a w' := h.trans (k.below hp hB)
set_option maxRecDepth 100000 in
set_option maxHeartbeats 4000000 in
theorem numberW_any (L : List Int) (v : Value) (w : World) (hl : Ints w v L) (l4 : L.length ≤ 4) :
    Calls Try.prog 21 #[v] w fun e w' => e = .returned (.pointer (some ⟨w.heap.size, 0, none⟩)) ∧ Below w.heap.size w w' ∧ Big w' w.heap.size (jw (L.map lw)) := by
  obtain ⟨ao, cap, rfl, hm, hat⟩ := hl.at
  unfold maxLen at hm
  have HA := hide hat
  have HN := hide (Big.new w)
  have KN := hide (below_a w (.cells #[.bool false, .slice none 0 0] 42))
  have hML : (L.map lw).length = L.length := List.length_map ..
  have HMB := hide (jw_b (lws_b L))
  have HMT := hide (jw_take (L.map lw))
  clear hat hl
  go_enter Try.func21, Try.ntmps21
  go_wp2_with fail
  generalize hM : L.map lw = M at *
  have HM0 := hide hM
  clear hM
  go_loopg [9] L.length (fun g t wr => ∃ i : Nat, i ≤ L.length ∧ g = L.length - i ∧ t = .int .i64 i ∧ Hid (Big wr w.heap.size (jw (M.take i))) ∧ Hid (Below w.heap.size w wr))
  case atStart => exact ⟨0, Nat.zero_le _, rfl, rfl, HN, KN⟩
  case round =>
    obtain ⟨i, hi, hg, rfl, hB, hK⟩ := hrel
    clear HN KN
    have sK := (unhide hK).size
    have lP := (unhide hB).lt
    obtain ⟨j0, j1⟩ := unhide HMB i (by omega)
    by_cases hlt : i < L.length
    · obtain ⟨b, off, rfl, hb, hc⟩ := unhide HA (by intro h; rw [h] at hlt; simp at hlt)
      have c0 := cell_keep (unhide hK) hb (hc i hlt)
      have JT := hide (unhide HMT i (by omega))
      have hMi : M[i]'(by omega) = lw L[i] := by simp only [← unhide HM0, List.getElem_map]
      rw [hMi] at JT
      have i4 : i = 0 ∨ i = 1 ∨ i = 2 ∨ i = 3 := by omega
      have pb : (0 : Int) < 65536 ^ i ∧ (65536 : Int) ^ i ≤ 281474976710656 := by rcases i4 with rfl | rfl | rfl | rfl <;> decide
      clear i4 hMi hc
      generalize L[i] = x0 at *
      have LO := fun w => low1_any x0 w
      have x1 := lw_b x0
      generalize lw x0 = x at *
      have hil : (i : Int) < (L.length : Int) := by omega
      generalize hJ : jw (M.take i) = J at *
      have HJ := hide hJ
      clear hJ
      have HM := hide (Big.new wr)
      have KM := hide (below_a wr (.cells #[.bool false, .slice none 0 0] 42))
      have hsz : (wr.alloc (.cells #[.bool false, .slice none 0 0] 42)).heap.size = wr.heap.size + 1 := by simp
      have e16 : ((16 : Int) * (i : Int)) = ((16 * i : Nat) : Int) := by omega
      have T16 := hide (fun W => two_any (16 * i) W (by omega))
      rw [← e16, q65536] at T16
      clear e16
      go_wp2_with fail
      generalize wr.alloc (.cells #[.bool false, .slice none 0 0] 42) = W1 at *
      refine (LO _).mono ?_
      rintro e w9 ⟨rfl, hw9⟩
      subst w9
      clear LO
      go_wp2_with fail
      refine (newI_any x W1 ⟨by omega, by omega⟩).mono ?_
      rintro e w2 ⟨rfl, k2, b2⟩
      rw [hsz] at b2
      have K2 := hide k2
      have B2 := hide b2
      have s2 := (unhide K2).size
      clear k2 b2
      go_wp2_with fail
      refine (unhide T16 w2).mono ?_
      rintro e w3 ⟨rfl, k3, b3⟩
      have K3 := hide k3
      have B3 := hide b3
      have s3 := (unhide K3).size
      clear k3 b3 T16
      go_wp2_with fail
      have I3 := hide (((unhide HM).int.step (unhide K2)).step (unhide K3))
      generalize hP : (65536 : Int) ^ i = P at *
      have HP := hide hP
      clear hP
      have hxp : 0 ≤ x * P ∧ x * P ≤ 18446462598732840960 := by
        refine ⟨Int.mul_nonneg (by omega) (by omega), ?_⟩
        have h1 : x * P ≤ 65535 * P := Int.mul_le_mul_of_nonneg_right (by omega) (by omega)
        omega
      refine (mul_big wr.heap.size (wr.heap.size + 1) w2.heap.size x P w3 (unhide I3) ((unhide B2).step (unhide K3)) (unhide B3) (by omega) (by omega) (by omega) (by omega)).mono ?_
      rintro e w4 ⟨rfl, k4, b4⟩
      have K4 := hide k4
      have B4 := hide b4
      have s4 := (unhide K4).size
      have N4 := hide ((((((unhide hB).step (unhide KM)).step (unhide K2)).step (unhide K3)).tn (unhide K4) (unhide I3) (by omega)))
      have L4 := hide (below_tnw ((unhide hK).trans (((unhide KM).mono (by omega)).trans (((unhide K2).mono (by omega)).trans ((unhide K3).mono (by omega))))) (unhide K4) (by omega) (by omega))
      clear k4 b4
      go_wp2_with fail
      generalize hXP : x * P = XP at *
      have HXP := hide hXP
      clear hXP
      refine (add_big w.heap.size w.heap.size wr.heap.size J XP w4 (unhide N4).int (unhide N4) (unhide B4) (by omega) (by omega) (by omega)).mono ?_
      rintro e w5 ⟨rfl, k5, b5⟩
      have K5 := hide k5
      have B5 := hide (show Big w5 w.heap.size (jw (M.take (i + 1))) by rw [unhide JT, Int.mul_comm P x, unhide HXP]; exact b5)
      have L5 := hide (below_tnw (unhide L4) (unhide K5) (Nat.le_refl _) (by omega))
      clear k5 b5
      go_wp2_with fail
      go_roundg (L.length - (i + 1))
      case measure => omega
      case rel => exact ⟨i + 1, by omega, rfl, by go_num, B5, L5⟩
    · have hil : ¬ (i : Int) < (L.length : Int) := by omega
      rw [List.take_of_length_le (by omega)] at hB
      go_wp2_with fail
      go_ret
      exact ⟨rfl, unhide hK, by rw [unhide HM0]; exact unhide hB⟩
theorem bdw {B : Nat} {u v : World} (h : Below B u v) (q : Nat) : Below B u (v.drewN q) := ⟨h.os, h.tape, h.output, h.size, h.block⟩
/-- A number of so many bits, with a sign. -/
def sgw (n : Nat) (z : Int) : Int := if 2 ^ (n - 1) ≤ z then z - 2 ^ n else z
set_option maxRecDepth 100000 in
set_option maxHeartbeats 2000000 in
theorem signW_any (n p c : Nat) (z : Int) (w : World) (hp : Big w p z) (hc : c < w.heap.size) (cc : w.cell? ⟨c, 0, none⟩ = some (.int .i64 (n : Int))) (h1 : 1 ≤ n) (h2 : n ≤ 64) (hz : z.natAbs < 4294967296 ^ 6) :
    Calls Try.prog 26 #[.pointer (some ⟨p, 0, none⟩), .pointer (some ⟨c, 0, none⟩)] w fun e w' => ∃ p', e = .returned (.pointer (some ⟨p', 0, none⟩)) ∧ (p' = p ∨ w.heap.size ≤ p') ∧ Below w.heap.size w w' ∧ Big w' p' (sgw n z) := by
  have HP := hide hp
  have hpl := hp.lt
  have hp64 := p64 (k := n) h2
  have hp63 := p64 (k := n - 1) (by omega)
  have b6 := big6
  have e1 : ((n : Int) - 1) = ((n - 1 : Nat) : Int) := by omega
  have T1 := hide (fun W => two_any (n - 1) W (by omega))
  have T2 := hide (fun W => two_any n W h2)
  rw [← e1] at T1
  have k86 : (4294967296 : Int) ^ 6 < 4294967296 ^ 8 := by decide
  have a1 : ((2 : Int) ^ (n - 1)).natAbs < 4294967296 ^ 8 := by omega
  have a2 : ((2 : Int) ^ n).natAbs < 4294967296 ^ 7 := by
    have : (18446744073709551616 : Int) < 4294967296 ^ 7 := by decide
    omega
  have a3 : z.natAbs < 4294967296 ^ 8 := by omega
  have a4 : z.natAbs < 4294967296 ^ 7 := by
    have : (4294967296 : Int) ^ 6 < 4294967296 ^ 7 := by decide
    omega
  unfold sgw
  clear hp e1
  generalize hX : (2 : Int) ^ (n - 1) = X at *
  generalize hY : (2 : Int) ^ n = Y at *
  have hn0 : (1 : Int) ≤ (n : Int) := by omega
  have hn1 : (n : Int) ≤ 64 := by omega
  by_cases hge : X ≤ z
  · rw [if_pos hge]
    have hcm : decide (0 ≤ cm z X) = true := by unfold cm; rw [if_neg (by omega)]; split <;> rfl
    go_enter Try.func26, Try.ntmps26
    go_wp2_with fail
    refine (unhide T1 w).mono ?_
    rintro e w1 ⟨rfl, k1, b1⟩
    have CB := cmp_big p w.heap.size z X w1 ((unhide HP).step k1) b1 a3 a1
    generalize cm z X = cmv at *
    have hcm' : 0 ≤ cmv := by simpa using hcm
    have K1 := hide k1
    have cc1 := cell_keep k1 hc cc
    clear b1 T1 hcm
    go_wp2_with fail
    refine CB.mono ?_
    rintro e w2 ⟨⟨kd, hw2⟩, rfl⟩
    have k2 : Below w1.heap.size w1 w2 := by rw [hw2]; exact bdw (Below.refl _ _) kd
    have K2 := hide ((unhide K1).trans (k2.mono (unhide K1).size))
    have cc2 := cell_keep (unhide K2) hc cc
    have hs2 := (unhide K2).size
    have P2 := hide ((unhide HP).step (unhide K2))
    have N2 := hide (Big.new w2)
    have KN := hide (below_a w2 (.cells #[.bool false, .slice none 0 0] 42))
    have hsz : (w2.alloc (.cells #[.bool false, .slice none 0 0] 42)).heap.size = w2.heap.size + 1 := by simp
    have cc3 := cell_keep (unhide KN) (by omega) cc2
    clear CB k2 hw2 K1 cc1
    go_wp2_with fail
    generalize w2.alloc (.cells #[.bool false, .slice none 0 0] 42) = w3 at *
    refine (unhide T2 w3).mono ?_
    rintro e w4 ⟨rfl, k4, b4⟩
    rw [hsz] at b4
    have I4 := hide ((unhide N2).int.step k4)
    have P4 := hide (((unhide P2).step (unhide KN)).step k4)
    have B4 := hide b4
    have K4 := hide ((unhide K2).trans (((unhide KN).mono hs2).trans (k4.mono (by omega))))
    have hs4 := k4.size
    clear k4 b4 T2
    go_wp2_with fail
    refine (sub_big w2.heap.size p (w2.heap.size + 1) z Y w4 (unhide I4) (unhide P4) (unhide B4) (by omega) a4 a2).mono ?_
    rintro e w5 ⟨rfl, k5, b5⟩
    have K5 := hide (below_tnw (unhide K4) k5 hs2 (by omega))
    have B5 := hide b5
    clear k5 b5
    go_wp2_with fail
    go_ret
    exact ⟨_, rfl, .inr hs2, unhide K5, unhide B5⟩
  · rw [if_neg hge]
    have hcm : cm z X = -1 := by unfold cm; rw [if_pos (by omega)]
    go_enter Try.func26, Try.ntmps26
    go_wp2_with fail
    refine (unhide T1 w).mono ?_
    rintro e w1 ⟨rfl, k1, b1⟩
    have CB := cmp_big p w.heap.size z X w1 ((unhide HP).step k1) b1 a3 a1
    rw [hcm] at CB
    have K1 := hide k1
    clear b1 T1 hcm
    go_wp2_with fail
    refine CB.mono ?_
    rintro e w2 ⟨⟨kd, hw2⟩, rfl⟩
    have k2 : Below w1.heap.size w1 w2 := by rw [hw2]; exact bdw (Below.refl _ _) kd
    have K2 := hide ((unhide K1).trans (k2.mono (unhide K1).size))
    have P2 := hide ((unhide HP).step (unhide K2))
    clear CB k2 hw2 K1
    go_wp2_with fail
    go_ret
    exact ⟨_, rfl, .inl rfl, unhide K2, unhide P2⟩
end Go.Proofs.Ytmjnihepgglbdaa
