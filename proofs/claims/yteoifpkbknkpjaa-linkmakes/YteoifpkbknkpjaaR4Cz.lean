/-
  The document's answer on lines: Named. (Written by mkR4C.py.)
-/
import Derived.Test.YteoifpkbknkpjaaAsP
import Derived.Test.YteoifpkbknkpjaaAsN
import Derived.Laws.IdiomStrings
import Derived.Test.YteoifpkbknkpjaaRefB
namespace Go.Proofs.Yteoifpkbknkpjaa
open Go.RowKit
set_option linter.unusedSimpArgs false
set_option linter.unusedVariables false

theorem byte_conv (s : ByteArray) (w : World) : ∃ cap W', (convert 9 89 (.string s)).run Try.prog w = .ok (.slice (some ⟨w.heap.size, 0, none⟩) s.size cap) W' ∧ Below w.heap.size w W' ∧ ∀ j (h : j < s.size), W'.cell? ⟨w.heap.size, j, none⟩ = some (.int .u8 (s[j].toNat : Int)) := by
  refine ⟨_, _, run_bytes_of_string w 9 89 5 s Try.underlying9 Try.underlying89 Try.underlying5, ?_, ?_⟩
  · exact ((Below.refl _ _).drew).alloc (Nat.le_refl _) _
  · intro j h
    have hh : ∀ o : Obj, (w.drew.alloc o).heap[w.heap.size]? = some o := fun o => by
      show (w.heap.push o)[w.heap.size]? = _
      simp
    have hj : j < s.data.size := h
    unfold World.cell?
    simp only [hh]
    have hb : (bytesRow s (grownCap w s.size 0 5))[j]? = some (.int .u8 (s[j].toNat : Int)) := by
      unfold bytesRow
      rw [Array.getElem?_append_left (by rw [Array.size_map]; exact hj), Array.getElem?_map, Array.getElem?_eq_getElem hj]
      rfl
    simpa using hb
set_option maxRecDepth 100000 in
set_option maxHeartbeats 4000000 in
theorem named4_any (s : ByteArray) (w : World) : Calls Try.prog 48 #[.string s] w fun e w' => e = .returned (.bool (nm s)) ∧ Below w.heap.size w w' := by
  by_cases h1 : s.size ≤ 32
  · have d1 : decide (32 < (s.size : Int)) = false := by simp; omega
    by_cases h2 : s.size = 0
    · have : nm s = false := by
        have he : s.toList.isEmpty = true := by
          have e : s.data = #[] := Array.eq_empty_of_size_eq_zero h2
          rw [ByteArray.toList_eq, e]; rfl
        unfold nm; rw [he]; rfl
      rw [this]
      have d2 : ((s.size : Int) == 0) = true := by rw [h2]; rfl
      go_enter Try.func48, Try.ntmps48
      go_wp2_with fail
      go_ret
      exact ⟨rfl, Below.refl _ _⟩
    · have d2 : ((s.size : Int) == 0) = false := beq_eq_false_iff_ne.2 (by omega)
      have he : s.toList.isEmpty = false := by
        rw [ByteArray.toList_eq]
        cases e : s.data.toList with
        | nil => exact absurd (show s.data.size = 0 by have := congrArg List.length e; rw [Array.length_toList] at this; exact this) h2
        | cons a b => rfl
      by_cases h3 : s.toList = [46]
      · have d3 : (s.toList == [46]) = true := by rw [h3]; rfl
        have : nm s = false := by unfold nm; rw [d3]; simp
        rw [this]
        go_enter Try.func48, Try.ntmps48
        go_wp2_with fail
        go_ret
        exact ⟨rfl, Below.refl _ _⟩
      · have d3 : (s.toList == [46]) = false := beq_eq_false_iff_ne.2 h3
        have hn : nm s = fits s s.size 0 := by unfold nm; rw [he, d3, decide_eq_true h1]; rfl
        rw [hn]
        generalize hR : fits s s.size 0 = R
        have HR := hideI hR
        obtain ⟨cap, W', hrun, hK, hC⟩ := byte_conv s w
        have HC := hideI hC
        clear hn hR hC he
        go_enter Try.func48, Try.ntmps48
        go_wp2_with fail
        clear hrun
        go_loopg [22] s.size (fun g t wr => ∃ k : Nat, k ≤ s.size ∧ g = s.size - k ∧ t = .int .i64 k ∧ wr = W' ∧ Hid (fits s (s.size - k) k = R))
        case atStart => exact ⟨0, Nat.zero_le _, rfl, rfl, rfl, unhideI HR⟩
        case round =>
          obtain ⟨k, hk, hg, rfl, hwr, hF⟩ := hrel
          subst hwr
          by_cases hlt : k < s.size
          · have hcell := unhideI HC k hlt
            have hs := unhideI hF
            rw [show s.size - k = (s.size - (k + 1)) + 1 by omega] at hs
            simp only [fits] at hs
            rw [byt_at hlt] at hs
            have hc0 : (0 : Int) ≤ (s[k].toNat : Int) := by omega
            have hc1 : (s[k].toNat : Int) < 256 := by have := UInt8.toNat_lt s[k]; omega
            generalize (s[k].toNat : Int) = c at *
            have hki : (k : Int) < (s.size : Int) := by omega
            clear hF
            by_cases hk0 : k = 0
            · subst hk0
              by_cases a1 : 97 ≤ c
              · have a1d : decide (97 ≤ c) = true := by simpa using a1
                by_cases a2 : c ≤ 122
                · have a2d : decide (c ≤ 122) = true := by simpa using a2
                  have hf : fitC c true = true := by unfold fitC; simp <;> omega
                  rw [show ((0 : Nat) == 0) = true from rfl, hf] at hs
                  rw [Bool.true_and] at hs
                  have HS := hideI hs
                  clear hs
                  go_wp2_with fail
                  all_goals (go_roundg (s.size - (0 + 1)); (case measure => omega); (case rel => exact ⟨0 + 1, by omega, rfl, by go_num, rfl, HS⟩))
                · have a2d : decide (c ≤ 122) = false := by simpa using a2
                  by_cases e95 : c = 95
                  · have e95d : (c == 95) = true := by simpa using e95
                    have hf : fitC c true = true := by unfold fitC; simp <;> omega
                    rw [show ((0 : Nat) == 0) = true from rfl, hf] at hs
                    rw [Bool.true_and] at hs
                    have HS := hideI hs
                    clear hs
                    go_wp2_with fail
                    all_goals (go_roundg (s.size - (0 + 1)); (case measure => omega); (case rel => exact ⟨0 + 1, by omega, rfl, by go_num, rfl, HS⟩))
                  · have e95d : (c == 95) = false := by simpa using e95
                    by_cases e46 : c = 46
                    · have e46d : (c == 46) = true := by simpa using e46
                      have hf : fitC c true = true := by unfold fitC; simp <;> omega
                      rw [show ((0 : Nat) == 0) = true from rfl, hf] at hs
                      rw [Bool.true_and] at hs
                      have HS := hideI hs
                      clear hs
                      go_wp2_with fail
                      all_goals (go_roundg (s.size - (0 + 1)); (case measure => omega); (case rel => exact ⟨0 + 1, by omega, rfl, by go_num, rfl, HS⟩))
                    · have e46d : (c == 46) = false := by simpa using e46
                      have hf : fitC c true = false := by unfold fitC; simp <;> omega
                      rw [show ((0 : Nat) == 0) = true from rfl, hf] at hs
                      rw [Bool.false_and] at hs
                      subst hs
                      go_wp2_with fail
                      all_goals (go_ret; exact ⟨rfl, hK⟩)
              · have a1d : decide (97 ≤ c) = false := by simpa using a1
                by_cases e95 : c = 95
                · have e95d : (c == 95) = true := by simpa using e95
                  have hf : fitC c true = true := by unfold fitC; simp <;> omega
                  rw [show ((0 : Nat) == 0) = true from rfl, hf] at hs
                  rw [Bool.true_and] at hs
                  have HS := hideI hs
                  clear hs
                  go_wp2_with fail
                  all_goals (go_roundg (s.size - (0 + 1)); (case measure => omega); (case rel => exact ⟨0 + 1, by omega, rfl, by go_num, rfl, HS⟩))
                · have e95d : (c == 95) = false := by simpa using e95
                  by_cases e46 : c = 46
                  · have e46d : (c == 46) = true := by simpa using e46
                    have hf : fitC c true = true := by unfold fitC; simp <;> omega
                    rw [show ((0 : Nat) == 0) = true from rfl, hf] at hs
                    rw [Bool.true_and] at hs
                    have HS := hideI hs
                    clear hs
                    go_wp2_with fail
                    all_goals (go_roundg (s.size - (0 + 1)); (case measure => omega); (case rel => exact ⟨0 + 1, by omega, rfl, by go_num, rfl, HS⟩))
                  · have e46d : (c == 46) = false := by simpa using e46
                    have hf : fitC c true = false := by unfold fitC; simp <;> omega
                    rw [show ((0 : Nat) == 0) = true from rfl, hf] at hs
                    rw [Bool.false_and] at hs
                    subst hs
                    go_wp2_with fail
                    all_goals (go_ret; exact ⟨rfl, hK⟩)
            · have z1 : (((k : Nat) : Int) == 0) = false := beq_eq_false_iff_ne.2 (by omega)
              have z2 : decide ((0 : Int) < (k : Int)) = true := by simp; omega
              have z3 : (k == 0) = false := beq_eq_false_iff_ne.2 hk0
              by_cases a1 : 97 ≤ c
              · have a1d : decide (97 ≤ c) = true := by simpa using a1
                by_cases a2 : c ≤ 122
                · have a2d : decide (c ≤ 122) = true := by simpa using a2
                  have g1d : decide (48 ≤ c) = true := by simp; omega
                  have g2d : decide (c ≤ 57) = false := by simp; omega
                  have hf : fitC c false = true := by unfold fitC; simp <;> omega
                  rw [z3, hf] at hs
                  rw [Bool.true_and] at hs
                  have HS := hideI hs
                  clear hs
                  go_wp2_with fail
                  all_goals (go_roundg (s.size - (k + 1)); (case measure => omega); (case rel => exact ⟨k + 1, by omega, rfl, by go_num, rfl, HS⟩))
                · have a2d : decide (c ≤ 122) = false := by simpa using a2
                  by_cases e95 : c = 95
                  · have e95d : (c == 95) = true := by simpa using e95
                    have g1d : decide (48 ≤ c) = true := by simp; omega
                    have g2d : decide (c ≤ 57) = false := by simp; omega
                    have hf : fitC c false = true := by unfold fitC; simp <;> omega
                    rw [z3, hf] at hs
                    rw [Bool.true_and] at hs
                    have HS := hideI hs
                    clear hs
                    go_wp2_with fail
                    all_goals (go_roundg (s.size - (k + 1)); (case measure => omega); (case rel => exact ⟨k + 1, by omega, rfl, by go_num, rfl, HS⟩))
                  · have e95d : (c == 95) = false := by simpa using e95
                    by_cases e46 : c = 46
                    · have e46d : (c == 46) = true := by simpa using e46
                      have g1d : decide (48 ≤ c) = false := by simp; omega
                      have hf : fitC c false = false := by unfold fitC; simp <;> omega
                      rw [z3, hf] at hs
                      rw [Bool.false_and] at hs
                      subst hs
                      go_wp2_with fail
                      all_goals (go_ret; exact ⟨rfl, hK⟩)
                    · have e46d : (c == 46) = false := by simpa using e46
                      by_cases g1 : 48 ≤ c
                      · have g1d : decide (48 ≤ c) = true := by simpa using g1
                        by_cases g2 : c ≤ 57
                        · have g2d : decide (c ≤ 57) = true := by simpa using g2
                          have hf : fitC c false = true := by unfold fitC; simp <;> omega
                          rw [z3, hf] at hs
                          rw [Bool.true_and] at hs
                          have HS := hideI hs
                          clear hs
                          go_wp2_with fail
                          all_goals (go_roundg (s.size - (k + 1)); (case measure => omega); (case rel => exact ⟨k + 1, by omega, rfl, by go_num, rfl, HS⟩))
                        · have g2d : decide (c ≤ 57) = false := by simpa using g2
                          have hf : fitC c false = false := by unfold fitC; simp <;> omega
                          rw [z3, hf] at hs
                          rw [Bool.false_and] at hs
                          subst hs
                          go_wp2_with fail
                          all_goals (go_ret; exact ⟨rfl, hK⟩)
                      · have g1d : decide (48 ≤ c) = false := by simpa using g1
                        have hf : fitC c false = false := by unfold fitC; simp <;> omega
                        rw [z3, hf] at hs
                        rw [Bool.false_and] at hs
                        subst hs
                        go_wp2_with fail
                        all_goals (go_ret; exact ⟨rfl, hK⟩)
              · have a1d : decide (97 ≤ c) = false := by simpa using a1
                by_cases e95 : c = 95
                · have e95d : (c == 95) = true := by simpa using e95
                  have g1d : decide (48 ≤ c) = true := by simp; omega
                  have g2d : decide (c ≤ 57) = false := by simp; omega
                  have hf : fitC c false = true := by unfold fitC; simp <;> omega
                  rw [z3, hf] at hs
                  rw [Bool.true_and] at hs
                  have HS := hideI hs
                  clear hs
                  go_wp2_with fail
                  all_goals (go_roundg (s.size - (k + 1)); (case measure => omega); (case rel => exact ⟨k + 1, by omega, rfl, by go_num, rfl, HS⟩))
                · have e95d : (c == 95) = false := by simpa using e95
                  by_cases e46 : c = 46
                  · have e46d : (c == 46) = true := by simpa using e46
                    have g1d : decide (48 ≤ c) = false := by simp; omega
                    have hf : fitC c false = false := by unfold fitC; simp <;> omega
                    rw [z3, hf] at hs
                    rw [Bool.false_and] at hs
                    subst hs
                    go_wp2_with fail
                    all_goals (go_ret; exact ⟨rfl, hK⟩)
                  · have e46d : (c == 46) = false := by simpa using e46
                    by_cases g1 : 48 ≤ c
                    · have g1d : decide (48 ≤ c) = true := by simpa using g1
                      by_cases g2 : c ≤ 57
                      · have g2d : decide (c ≤ 57) = true := by simpa using g2
                        have hf : fitC c false = true := by unfold fitC; simp <;> omega
                        rw [z3, hf] at hs
                        rw [Bool.true_and] at hs
                        have HS := hideI hs
                        clear hs
                        go_wp2_with fail
                        all_goals (go_roundg (s.size - (k + 1)); (case measure => omega); (case rel => exact ⟨k + 1, by omega, rfl, by go_num, rfl, HS⟩))
                      · have g2d : decide (c ≤ 57) = false := by simpa using g2
                        have hf : fitC c false = false := by unfold fitC; simp <;> omega
                        rw [z3, hf] at hs
                        rw [Bool.false_and] at hs
                        subst hs
                        go_wp2_with fail
                        all_goals (go_ret; exact ⟨rfl, hK⟩)
                    · have g1d : decide (48 ≤ c) = false := by simpa using g1
                      have hf : fitC c false = false := by unfold fitC; simp <;> omega
                      rw [z3, hf] at hs
                      rw [Bool.false_and] at hs
                      subst hs
                      go_wp2_with fail
                      all_goals (go_ret; exact ⟨rfl, hK⟩)
          · have hkl : k = s.size := by omega
            subst hkl
            have hs := unhideI hF
            rw [Nat.sub_self] at hs
            simp only [fits] at hs
            subst hs
            go_wp2_with fail
            go_ret
            exact ⟨rfl, hK⟩
  · have d1 : decide (32 < (s.size : Int)) = true := by simp; omega
    have : nm s = false := by unfold nm; rw [decide_eq_false h1]; simp
    rw [this]
    go_enter Try.func48, Try.ntmps48
    go_wp2_with fail
    go_ret
    exact ⟨rfl, Below.refl _ _⟩
end Go.Proofs.Yteoifpkbknkpjaa

/-
  The document's answer on lines: Word and Refers.
-/
namespace Go.Proofs.Yteoifpkbknkpjaa
open Go.RowKit
set_option linter.unusedSimpArgs false
set_option linter.unusedVariables false

theorem refers4_any (o : Int) (w : World) : Calls Try.prog 49 #[.int .i64 o] w fun e w' => e = .returned (.bool (may o)) ∧ Below w.heap.size w w' := by
  have HI := hideI (has_i o)
  cases hi : hI o
  · rw [hi] at HI
    have e : may o = false := by unfold may; rw [hi]; rfl
    rw [e]
    go_enter Try.func49, Try.ntmps49
    go_wp2_with (go_at_call 31; refine (unhideI HI _).mono ?_; rintro e w1 ⟨rfl, k1⟩)
    go_ret
    exact ⟨rfl, k1⟩
  · rw [hi] at HI
    have e : may o = (o != 32) := by unfold may; rw [hi]; rfl
    rw [e]
    go_enter Try.func49, Try.ntmps49
    go_wp2_with (go_at_call 31; refine (unhideI HI _).mono ?_; rintro e w1 ⟨rfl, k1⟩)
    go_ret
    exact ⟨rfl, k1⟩
end Go.Proofs.Yteoifpkbknkpjaa
