/-
  The document's answer on lines: Number.
-/
import Derived.Test.YtoopgkbefhoeiaaGreatDoorR4N
namespace Go.Proofs.YtoopgkbefhoeiaaGreatDoor
open Go.RowKit
set_option linter.unusedSimpArgs false
set_option linter.unusedVariables false

/-- Digits read from the left, behind a number. -/
def nmL (most : Int) : List UInt8 → Nat → Int
  | [], n => if most < n then -1 else n
  | c :: l, n => if 48 ≤ c.toNat ∧ c.toNat ≤ 57 then nmL most l (10 * n + (c.toNat - 48)) else -1
theorem nmL_eq (most : Int) : ∀ (l : List UInt8) (n : Nat), nmL most l n = if dgs l = true ∧ (vlN n l : Int) ≤ most then (vlN n l : Int) else -1
  | [], n => by
    unfold nmL
    by_cases h : most < n
    · rw [if_pos h, if_neg]; rintro ⟨-, h2⟩; have h3 : (n : Int) ≤ most := h2; omega
    · rw [if_neg h, if_pos ⟨rfl, by show (n : Int) ≤ most; omega⟩]; rfl
  | c :: l, n => by
    unfold nmL
    have ih := nmL_eq most l (10 * n + (c.toNat - 48))
    have hd : dgs (c :: l) = (decide (48 ≤ c.toNat) && decide (c.toNat ≤ 57) && dgs l) := by unfold dgs; rw [List.all_cons]
    by_cases h : 48 ≤ c.toNat ∧ c.toNat ≤ 57
    · rw [if_pos h, ih, hd, decide_eq_true h.1, decide_eq_true h.2]; rfl
    · rw [if_neg h, if_neg]
      rintro ⟨h2, -⟩
      rw [hd] at h2
      simp at h2
      exact h ⟨h2.1.1, h2.1.2⟩
/-- What Number answers. -/
def num4 (s : List UInt8) (most : Int) : Int := if s.length = 0 ∨ 5 < s.length ∨ (1 < s.length ∧ s.getD 0 0 = 48) then -1 else nmL most s 0
theorem num4_eq (s : List UInt8) (most : Int) (hm : most ≤ 65535) : num4 s most = (numA s most).getD (-1) := by
  rw [numA_eq s most hm]
  unfold num4
  rw [nmL_eq]
  by_cases h : s.length = 0 ∨ 5 < s.length ∨ (1 < s.length ∧ s.getD 0 0 = 48)
  · rw [if_pos h, if_neg]
    · rfl
    · rintro ⟨h1, h2, -⟩
      unfold can at h1
      simp only [Bool.and_eq_true, Bool.or_eq_true, decide_eq_true_eq, Bool.not_eq_true', beq_eq_false_iff_ne] at h1
      obtain ⟨⟨h3, -⟩, h4⟩ := h1
      rcases h with h | h | ⟨h, h5⟩
      · rw [List.length_eq_zero_iff.1 h] at h3; simp at h3
      · omega
      · rcases h4 with h4 | h4
        · omega
        · exact h4 h5
  · rw [if_neg h]
    have hc : can s = dgs s := by
      unfold can
      have e1 : s.isEmpty = false := by cases s with | nil => exact absurd (.inl rfl) h | cons a b => rfl
      rw [e1]
      have e2 : (decide (s.length ≤ 1) || !(s.getD 0 0 == 48)) = true := by
        by_cases h1 : s.length ≤ 1
        · rw [decide_eq_true h1]; rfl
        · have : s.getD 0 0 ≠ 48 := fun e => h (.inr (.inr ⟨by omega, e⟩))
          rw [beq_eq_false_iff_ne.2 this]; simp
      rw [e2]; simp
    have hl : s.length ≤ 5 := by
      have : ¬ 5 < s.length := fun e => h (.inr (.inl e))
      omega
    rw [hc]
    by_cases hd : dgs s = true ∧ (vlN 0 s : Int) ≤ most
    · rw [if_pos hd, if_pos ⟨hd.1, hl, hd.2⟩]; rfl
    · rw [if_neg hd, if_neg (fun e => hd ⟨e.1, e.2.2⟩)]; rfl
theorem vl5 : ∀ (k : Nat) (l : List UInt8) (n : Nat), dgs l = true → l.length ≤ k → n < 10 ^ (8 - k) → k ≤ 8 → vlN n l < 10 ^ 8
  | 0, l, n, _, hl, hn, _ => by
    obtain rfl : l = [] := List.eq_nil_of_length_eq_zero (by omega)
    exact hn
  | k + 1, [], n, _, _, hn, hk => by
    show n < _
    exact Nat.lt_of_lt_of_le hn (Nat.pow_le_pow_right (by decide) (by omega))
  | k + 1, c :: l, n, hd, hl, hn, hk => by
    have hd2 : dgs (c :: l) = (decide (48 ≤ c.toNat) && decide (c.toNat ≤ 57) && dgs l) := by unfold dgs; rw [List.all_cons]
    rw [hd2] at hd
    simp at hd
    refine vl5 k l _ hd.2 (by simp at hl; omega) ?_ (by omega)
    rw [show 8 - k = (8 - (k + 1)) + 1 by omega, Nat.pow_succ]
    omega
theorem ba_get (l : List UInt8) (k : Nat) (h : k < l.length) : (ba l)[k]'(by rw [ba_size]; exact h) = l[k] := by
  rfl
set_option maxRecDepth 100000 in
set_option maxHeartbeats 4000000 in
theorem number4_any (s : List UInt8) (most : Int) (w : World) : Calls Tryz.prog 47 #[.string (ba s), .int .i64 most] w fun e w' => e = .returned (.int .i64 (num4 s most)) ∧ Below w.heap.size w w' := by
  generalize hR : num4 s most = R
  unfold num4 at hR
  by_cases h1 : s.length = 0
  · rw [if_pos (.inl h1)] at hR
    subst hR
    have d1 : (((ba s).size : Int) == 0) = true := by rw [ba_size, h1]; rfl
    go_enter Tryz.func47, Tryz.ntmps47
    go_wp2_with fail
    go_ret
    exact ⟨rfl, Below.refl _ _⟩
  · have d1 : (((ba s).size : Int) == 0) = false := beq_eq_false_iff_ne.2 (by have hsz := ba_size s; omega)
    by_cases h2 : 5 < s.length
    · rw [if_pos (.inr (.inl h2))] at hR
      subst hR
      have d2 : decide (5 < ((ba s).size : Int)) = true := by have hsz := ba_size s; simp; omega
      go_enter Tryz.func47, Tryz.ntmps47
      go_wp2_with fail
      go_ret
      exact ⟨rfl, Below.refl _ _⟩
    · have d2 : decide (5 < ((ba s).size : Int)) = false := by have hsz := ba_size s; simp; omega
      by_cases h3 : 1 < s.length ∧ s.getD 0 0 = 48
      · rw [if_pos (.inr (.inr h3))] at hR
        subst hR
        have d3 : decide (1 < ((ba s).size : Int)) = true := by have hsz := ba_size s; simp; omega
        have h0 : 0 < (ba s).size := by have hsz := ba_size s; omega
        have e0 : (ba s)[0] = 48 := by
          rw [ba_get s 0 (by have hsz := ba_size s; omega), ← h3.2, List.getD_eq_getElem?_getD, List.getElem?_eq_getElem (by have hsz := ba_size s; omega)]; rfl
        have d4 : (((ba s)[0].toNat : Int) == 48) = true := by rw [e0]; rfl
        have h0i : (0 : Int) < ((ba s).size : Int) := by have hsz := ba_size s; omega
        go_enter Tryz.func47, Tryz.ntmps47
        go_wp2_with fail
        go_ret
        exact ⟨rfl, Below.refl _ _⟩
      · rw [if_neg (by rintro (h | h | h); exact h1 h; exact h2 h; exact h3 h)] at hR
        have HR := hideI hR
        obtain ⟨cap, W', hrun, hK, hC⟩ := byte_conv (ba s) w
        have HC := hideI hC
        clear hR hC
        have h0 : 0 < (ba s).size := by have hsz := ba_size s; omega
        have h0i : (0 : Int) < ((ba s).size : Int) := by have hsz := ba_size s; omega
        have e0 : (ba s)[0] = s.getD 0 0 := by
          rw [ba_get s 0 (by have hsz := ba_size s; omega), List.getD_eq_getElem?_getD, List.getElem?_eq_getElem (by have hsz := ba_size s; omega)]; rfl
        have d3 : decide (1 < ((ba s).size : Int)) = true ∧ (((ba s)[0].toNat : Int) == 48) = false ∨ decide (1 < ((ba s).size : Int)) = false := by
          by_cases h : 1 < s.length
          · refine .inl ⟨by have hsz := ba_size s; simp; omega, beq_eq_false_iff_ne.2 fun e => h3 ⟨h, ?_⟩⟩
            rw [← e0]
            exact UInt8.toNat_inj.1 (by have e' : (((ba s)[0].toNat : Nat) : Int) = 48 := e; show (ba s)[0].toNat = 48; omega)
          · exact .inr (by have hsz := ba_size s; simp; omega)
        clear e0
        rcases d3 with ⟨d3, d4⟩ | d3
        all_goals
          go_enter Tryz.func47, Tryz.ntmps47
          go_wp2_with fail
          try clear d4
          clear hrun d1 d2 d3 h3
          go_loopg [5, 29] s.length (fun g t u wr => ∃ k n : Nat, k ≤ s.length ∧ g = s.length - k ∧ t = .int .i64 n ∧ u = .int .i64 k ∧ wr = W' ∧ n < 10 ^ k ∧ Hid (nmL most (s.drop k) n = R))
          case atStart => exact ⟨0, 0, Nat.zero_le _, rfl, rfl, rfl, rfl, by decide, HR⟩
          case round =>
            obtain ⟨k, n, hk, hg, rfl, rfl, hwr, hn, hF⟩ := hrel
            subst hwr
            by_cases hlt : k < s.length
            · have hcell := unhideI HC k (by have hsz := ba_size s; omega)
              rw [ba_get s k hlt] at hcell
              have hs := unhideI hF
              rw [List.drop_eq_getElem_cons hlt] at hs
              unfold nmL at hs
              have hc1 : s[k].toNat < 256 := UInt8.toNat_lt s[k]
              have hn5 : n < 10 ^ 4 := Nat.lt_of_lt_of_le hn (Nat.pow_le_pow_right (by decide) (by have hsz := ba_size s; omega))
              have hn6 : n < 10000 := hn5
              generalize s[k].toNat = c at *
              have hki : (k : Int) < ((ba s).size : Int) := by have hsz := ba_size s; omega
              have hki2 : decide ((k : Int) < ((ba s).size : Int)) = true := by simpa using hki
              clear hF
              by_cases g1 : 48 ≤ c
              · have g1d : decide ((c : Int) < 48) = false := by have hsz := ba_size s; simp; omega
                by_cases g2 : c ≤ 57
                · have g2d : decide (57 < (c : Int)) = false := by have hsz := ba_size s; simp; omega
                  rw [if_pos ⟨g1, g2⟩] at hs
                  have HS := hideI hs
                  clear hs
                  go_wp2_with fail
                  all_goals (go_roundg (s.length - (k + 1)); (case measure => omega); (case rel => exact ⟨k + 1, 10 * n + (c - 48), by omega, rfl, by go_num, by go_num, rfl, by rw [Nat.pow_succ]; omega, HS⟩))
                · have g2d : decide (57 < (c : Int)) = true := by have hsz := ba_size s; simp; omega
                  rw [if_neg (fun e => g2 e.2)] at hs
                  subst hs
                  go_wp2_with fail
                  all_goals (go_ret; exact ⟨rfl, hK⟩)
              · have g1d : decide ((c : Int) < 48) = true := by have hsz := ba_size s; simp; omega
                rw [if_neg (fun e => g1 e.1)] at hs
                subst hs
                go_wp2_with fail
                all_goals (go_ret; exact ⟨rfl, hK⟩)
            · have hkl : k = s.length := by have hsz := ba_size s; omega
              have hs := unhideI hF
              rw [hkl, List.drop_length] at hs
              unfold nmL at hs
              have hki2 : decide ((k : Int) < ((ba s).size : Int)) = false := by have hsz := ba_size s; simp; omega
              clear hkl hF
              by_cases hm : most < n
              · have hm2 : decide (most < (n : Int)) = true := by simpa using hm
                rw [if_pos hm] at hs
                subst hs
                go_wp2_with fail
                go_ret
                exact ⟨rfl, hK⟩
              · have hm2 : decide (most < (n : Int)) = false := by simpa using hm
                rw [if_neg hm] at hs
                subst hs
                go_wp2_with fail
                go_ret
                exact ⟨rfl, hK⟩
end Go.Proofs.YtoopgkbefhoeiaaGreatDoor
