/-
  What is wrong with a state.
-/
import Derived.Test.YtjlbenbfmookoaaEmuC
import Derived.Test.YtjlbenbfmookoaaInsG
namespace Go.Proofs.Ytjlbenbfmookoaa
open Go.RowKit
set_option linter.unusedSimpArgs false
set_option linter.unusedVariables false

def isw (x : Int) : Bool := decide (0 ≤ x ∧ x ≤ 65535)
theorem isw_yes {x : Int} (h : isw x = true) : wd x := by unfold isw at h; simpa [wd] using h
theorem isWord_any (x : Int) (w : World) : Calls Try.prog 41 #[.int .i64 x] w fun e w' => e = .returned (.bool (isw x)) ∧ w' = w := by
  by_cases h : 0 ≤ x
  · have hx : Hid (isw x = decide (x ≤ 65535)) := by unfold Hid isw; simp [h]
    rw [unhideI hx]
    have h0 : decide (0 ≤ x) = true := by simpa using h
    go_enter Try.func41, Try.ntmps41
    go_wp2
    go_ret
    exact ⟨rfl, rfl⟩
  · have hx : Hid (isw x = false) := by unfold Hid isw; simp; omega
    rw [unhideI hx]
    have h0 : decide (0 ≤ x) = false := by simpa using h
    go_enter Try.func41, Try.ntmps41
    go_wp2
    go_ret
    exact ⟨rfl, rfl⟩

theorem all_at (l : List Int) (k : Nat) (h : k < l.length) : (l.drop k).all isw = (isw l[k] && (l.drop (k + 1)).all isw) := by
  rw [List.drop_eq_getElem_cons h]; rfl
set_option maxHeartbeats 1000000 in
theorem areWords_any (l : List Int) (v : Value) (w : World) (hv : Ints w v l) : Calls Try.prog 40 #[v] w fun e w' => e = .returned (.bool (l.all isw)) ∧ w' = w := by
  obtain ⟨ao, cap, rfl, hmax, hat⟩ := hv.at
  clear hv
  have HA := hideI hat
  clear hat
  unfold maxLen at hmax
  generalize hR : l.all isw = R
  have HR : Hid (R = (l.drop 0).all isw) := by rw [← hR]; rfl
  clear hR
  go_enter Try.func40, Try.ntmps40
  go_wp2_with fail
  go_loopg [7] l.length (fun g t wr => ∃ (i : Nat), i ≤ l.length ∧ g = l.length - i ∧ t = .int .i64 i ∧ wr = w ∧ Hid (R = (l.drop i).all isw))
  case atStart => exact ⟨0, Nat.zero_le _, rfl, rfl, rfl, HR⟩
  case round =>
    obtain ⟨i, hi, rfl, rfl, rfl, he⟩ := hrel
    by_cases hlt : i < l.length
    · have hn : l ≠ [] := by intro h; rw [h] at hlt; simp at hlt
      obtain ⟨b1, o1, rfl, h1, c1⟩ := (unhideI HA) hn
      have x1 := c1 i hlt
      have hd := hideI (all_at l i hlt)
      clear c1
      generalize l[i] = y at *
      cases hy : isw y
      · go_wp2_with (go_at_call 41; refine (isWord_any _ _).mono ?_; rintro e w1 ⟨rfl, hw⟩; subst w1; rw [hy])
        go_ret
        have e2 := unhideI hd
        rw [hy] at e2
        exact ⟨by rw [unhideI he, e2]; rfl, rfl⟩
      · go_wp2_with (go_at_call 41; refine (isWord_any _ _).mono ?_; rintro e w1 ⟨rfl, hw⟩; subst w1; rw [hy])
        go_roundg (l.length - (i + 1))
        case measure => omega
        case rel =>
          have e2 := unhideI hd
          rw [hy, Bool.true_and] at e2
          exact ⟨i + 1, by omega, rfl, by go_num, rfl, by unfold Hid; rw [unhideI he, e2]⟩
    · have e1 : R = true := by rw [unhideI he, List.drop_eq_nil_of_le (by omega)]; rfl
      go_wp2_with fail
      go_ret
      exact ⟨by rw [e1]; rfl, rfl⟩

/-- A state, as it is handed in. -/
structure St where
  r : Nat → Int
  c : Bool
  z : Bool
  n : Bool
  v : Bool
  pc : Int
  mem : List Int
def St.regs (s : St) : List Int := [s.r 0, s.r 1, s.r 2, s.r 3, s.r 4, s.r 5, s.r 6, s.r 7]
def St.cells (s : St) (vm : Value) : Array Value := #[.int .i64 (s.r 0), .int .i64 (s.r 1), .int .i64 (s.r 2), .int .i64 (s.r 3), .int .i64 (s.r 4), .int .i64 (s.r 5), .int .i64 (s.r 6), .int .i64 (s.r 7), .bool s.c, .bool s.z, .bool s.n, .bool s.v, .int .i64 s.pc, vm]
def St.val (s : St) (vm : Value) : Value := .agg (s.cells vm)
def St.good (s : St) : Bool := s.regs.all isw && isw s.pc && s.mem.all isw
/-- What is wrong with it. -/
def St.wrong (s : St) : Int := if 65536 < s.mem.length then 4 else if s.good = true then 0 else 3
theorem regs_lie (s : St) (vm : Value) (w : World) (T : TypeId) : Ints (w.alloc (.cells (s.cells vm) T)) (.slice (some ⟨w.heap.size, 0, none⟩) 8 8) s.regs := by
  refine ⟨rfl, _, 8, rfl, Nat.le_refl _, by decide, (fun h => by cases h), fun _ => ⟨w.heap.size, 0, rfl, by simp, fun j hj => ?_⟩⟩
  have hj' : j = 0 ∨ j = 1 ∨ j = 2 ∨ j = 3 ∨ j = 4 ∨ j = 5 ∨ j = 6 ∨ j = 7 := by simp [St.regs] at hj; omega
  rcases hj' with rfl | rfl | rfl | rfl | rfl | rfl | rfl | rfl <;> simp [go_sem, St.cells, St.regs, int1]

set_option maxRecDepth 100000 in
set_option maxHeartbeats 1000000 in
theorem wrongS_any (s : St) (vm : Value) (w : World) (hm : Ints w vm s.mem) : Calls Try.prog 23 #[s.val vm] w fun e w' => e = .returned (.int .i64 s.wrong) ∧ w' = w.alloc (.cells (s.cells vm) 27) := by
  have RL := hideI (regs_lie s vm w 27)
  have ML := hideI (hm.step (below_a w (.cells (s.cells vm) 27)))
  obtain ⟨ao, cap, rfl, hmax, _⟩ := hm.at
  clear hm
  unfold maxLen at hmax
  unfold St.cells at RL ML
  by_cases hl : 65536 < s.mem.length
  · have hw : Hid (s.wrong = 4) := by unfold Hid St.wrong; rw [if_pos hl]
    rw [unhideI hw]
    have hb : decide ((65536 : Int) < s.mem.length) = true := by simp; omega
    unfold St.val St.cells
    clear RL ML
    go_enter Try.func23, Try.ntmps23
    go_wp2
    go_ret
    exact ⟨rfl, rfl⟩
  · have hw : Hid (s.wrong = if s.good = true then 0 else 3) := by unfold Hid St.wrong; rw [if_neg hl]
    rw [unhideI hw]
    have hb : decide ((65536 : Int) < s.mem.length) = false := by simp; omega
    have hg : Hid (s.good = (s.regs.all isw && isw s.pc && s.mem.all isw)) := rfl
    rw [unhideI hg]
    clear hw hg
    unfold St.val St.cells
    have AR := fun w' v' hw' => areWords_any s.regs v' w' hw'
    have AM := fun w' v' hw' => areWords_any s.mem v' w' hw'
    have IW := fun w' => isWord_any s.pc w'
    generalize s.regs.all isw = a at *
    generalize isw s.pc = b at *
    generalize s.mem.all isw = c at *
    cases a
    · go_enter Try.func23, Try.ntmps23
      go_wp2_with (go_at_call 40; refine (AR _ _ (unhideI RL)).mono ?_; rintro e w1 ⟨rfl, hw⟩; subst w1)
      go_ret
      exact ⟨rfl, rfl⟩
    · cases b
      · go_enter Try.func23, Try.ntmps23
        go_wp2_with (first | (go_at_call 40; refine (AR _ _ (unhideI RL)).mono ?_; rintro e w1 ⟨rfl, hw⟩; subst w1) | (go_at_call 41; refine (IW _).mono ?_; rintro e w1 ⟨rfl, hw⟩; subst w1))
        go_ret
        exact ⟨rfl, rfl⟩
      · cases c
        all_goals
          go_enter Try.func23, Try.ntmps23
          go_wp2_with fail
          refine (AR _ _ (unhideI RL)).mono ?_
          rintro e w1 ⟨rfl, hw⟩
          subst w1
          go_wp2_with fail
          refine (IW _).mono ?_
          rintro e w1 ⟨rfl, hw⟩
          subst w1
          go_wp2_with fail
          refine (AM _ _ (unhideI ML)).mono ?_
          rintro e w1 ⟨rfl, hw⟩
          subst w1
          go_wp2_with fail
          go_ret
          exact ⟨rfl, rfl⟩
end Go.Proofs.Ytjlbenbfmookoaa
