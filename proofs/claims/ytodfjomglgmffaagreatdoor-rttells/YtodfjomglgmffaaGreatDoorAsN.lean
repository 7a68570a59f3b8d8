/-
  asm.fitsName, asm.Named.
-/
import Derived.Test.YtodfjomglgmffaaGreatDoorAsM
import Derived.Test.YtodfjomglgmffaaGreatDoorChecked
import Derived.Test.YtodfjomglgmffaaGreatDoorMem
import Derived.Laws.IdiomStrings
import Derived.Deep.LoopGhost
namespace Go.Proofs.YtodfjomglgmffaaGreatDoor
open Go.RowKit
set_option linter.unusedSimpArgs false
set_option linter.unusedVariables false

theorem fitsName_any (c : Int) (f : Bool) (w : World) : Calls Tryz.prog 88 #[.int .u8 c, .bool f] w fun e w' => e = .returned (.bool (fitC c f)) ∧ w' = w := by
  by_cases h1 : 97 ≤ c
  · by_cases h2 : c ≤ 122
    · have : fitC c f = true := by unfold fitC; simp [h1, h2]
      rw [this]
      clear this
      go_enter Tryz.func88, Tryz.ntmps88
      go_wp2
      go_ret
      exact ⟨rfl, rfl⟩
    · have : fitC c f = false := by unfold fitC; simp; refine ⟨⟨?_, ?_⟩, ?_⟩ <;> omega
      have h3 : (c == 95) = false := by simp; omega
      have h4 : (c == 46) = false := by simp; omega
      have h5 : decide (c ≤ 57) = false := decide_eq_false (by omega)
      rw [this]
      clear this
      go_enter Tryz.func88, Tryz.ntmps88
      go_wp2
      go_ret
      exact ⟨rfl, rfl⟩
  · by_cases h3 : c = 95
    · have : fitC c f = true := by unfold fitC; simp [h3]
      subst h3
      rw [this]
      clear this
      go_enter Tryz.func88, Tryz.ntmps88
      go_wp2
      go_ret
      exact ⟨rfl, rfl⟩
    · have h3' : (c == 95) = false := by simp; omega
      by_cases h4 : 48 ≤ c ∧ c ≤ 57
      · obtain ⟨h5, h6⟩ := h4
        have : fitC c f = !f := by
          unfold fitC
          have e1 : decide (97 ≤ c ∧ c ≤ 122) = false := decide_eq_false (by omega)
          have e2 : decide (c = 46) = false := decide_eq_false (by omega)
          have e3 : decide (48 ≤ c ∧ c ≤ 57) = true := decide_eq_true (by omega)
          have e4 : decide (c = 95) = false := decide_eq_false h3
          rw [e1, e2, e3, e4]; simp
        rw [this]
        clear this
        go_enter Tryz.func88, Tryz.ntmps88
        go_wp2
        go_ret
        exact ⟨rfl, rfl⟩
      · by_cases h5 : c = 46
        · have : fitC c f = f := by subst h5; cases f <;> decide
          subst h5
          rw [this]
          clear this
          go_enter Tryz.func88, Tryz.ntmps88
          go_wp2
          go_ret
          exact ⟨rfl, rfl⟩
        · have : fitC c f = false := by
            unfold fitC
            have e1 : decide (97 ≤ c ∧ c ≤ 122) = false := decide_eq_false (by omega)
            have e2 : decide (c = 46) = false := decide_eq_false (by omega)
            have e3 : decide (48 ≤ c ∧ c ≤ 57) = false := decide_eq_false (by omega)
            have e4 : decide (c = 95) = false := decide_eq_false h3
            rw [e1, e2, e3, e4]; simp
          have h5' : (c == 46) = false := by simp; omega
          by_cases h6 : 48 ≤ c
          · have h7 : decide (c ≤ 57) = false := decide_eq_false (by omega)
            rw [this]
            clear this
            go_enter Tryz.func88, Tryz.ntmps88
            go_wp2
            go_ret
            exact ⟨rfl, rfl⟩
          · skip
            rw [this]
            clear this
            go_enter Tryz.func88, Tryz.ntmps88
            go_wp2
            go_ret
            exact ⟨rfl, rfl⟩

set_option maxHeartbeats 1000000 in
theorem named_any (s : ByteArray) (w : World) : Calls Tryz.prog 42 #[.string s] w fun e w' => e = .returned (.bool (nm s)) ∧ w' = w := by
  by_cases h1 : s.toList.isEmpty = true
  · have : nm s = false := by unfold nm; rw [h1]; rfl
    rw [this]
    go_enter Tryz.func42, Tryz.ntmps42
    go_wp2_with fail
    go_ret
    exact ⟨rfl, rfl⟩
  · replace h1 : s.toList.isEmpty = false := by simpa using h1
    by_cases h2 : (s.toList == [46]) = true
    · have : nm s = false := by unfold nm; rw [h2]; simp
      rw [this]
      go_enter Tryz.func42, Tryz.ntmps42
      go_wp2_with fail
      go_ret
      exact ⟨rfl, rfl⟩
    · replace h2 : (s.toList == [46]) = false := by simpa using h2
      by_cases h3 : s.size ≤ 32
      · have hn : nm s = fits s s.size 0 := by unfold nm; rw [h1, h2, decide_eq_true h3]; rfl
        rw [hn]
        generalize hR : fits s s.size 0 = R
        have HR := hideI hR
        have h4 : decide (32 < (s.size : Int)) = false := decide_eq_false (by omega)
        clear hn hR
        go_enter Tryz.func42, Tryz.ntmps42
        go_wp2_with fail
        go_loopg [17] s.size (fun g t wr => ∃ k : Nat, k ≤ s.size ∧ g = s.size - k ∧ t = .int .i64 k ∧ wr = w ∧ Hid (fits s (s.size - k) k = R))
        case atStart => exact ⟨0, Nat.zero_le _, rfl, rfl, rfl, unhideI HR⟩
        case round =>
          obtain ⟨k, hk, hg, rfl, rfl, hF⟩ := hrel
          by_cases hlt : k < s.size
          · have e0 : (((k : Nat) : Int) == 0) = (k == 0) := by cases k <;> rfl
            have hs := unhideI hF
            rw [show s.size - k = (s.size - (k + 1)) + 1 by omega] at hs
            simp only [fits] at hs
            rw [byt_at hlt] at hs
            have FA := fun w => fitsName_any ((s[k].toNat : Nat) : Int) (k == 0) w
            by_cases hc : fitC ((s[k].toNat : Nat) : Int) (k == 0) = true
            · rw [hc] at FA hs
              rw [Bool.true_and] at hs
              have HS := hideI hs
              clear hs hF
              go_wp2_with fail
              refine (FA _).mono ?_
              rintro e w1 ⟨rfl, hw⟩
              subst w1
              go_wp2_with fail
              go_roundg (s.size - (k + 1))
              case measure => omega
              case rel => exact ⟨k + 1, by omega, rfl, by go_num, rfl, HS⟩
            · replace hc : fitC ((s[k].toNat : Nat) : Int) (k == 0) = false := by simpa using hc
              rw [hc] at FA hs
              rw [Bool.false_and] at hs
              subst hs
              clear hF
              go_wp2_with fail
              refine (FA _).mono ?_
              rintro e w1 ⟨rfl, hw⟩
              subst w1
              go_wp2_with fail
              go_ret
              exact ⟨rfl, rfl⟩
          · have hs := unhideI hF
            rw [show s.size - k = 0 by omega] at hs
            simp only [fits] at hs
            subst hs
            go_wp2_with fail
            go_ret
            exact ⟨rfl, rfl⟩
      · have : nm s = false := by unfold nm; rw [decide_eq_false h3]; simp
        rw [this]
        have h4 : decide (32 < (s.size : Int)) = true := decide_eq_true (by omega)
        go_enter Tryz.func42, Tryz.ntmps42
        go_wp2_with fail
        go_ret
        exact ⟨rfl, rfl⟩
end Go.Proofs.YtodfjomglgmffaaGreatDoor
