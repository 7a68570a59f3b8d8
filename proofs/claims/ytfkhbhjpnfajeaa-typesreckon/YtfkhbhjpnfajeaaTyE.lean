/-
  Types of numbers: what Binary answers.
-/
import Derived.Test.YtfkhbhjpnfajeaaTyD
import Derived.Test.YtfkhbhjpnfajeaaRing
namespace Go.Proofs.Ytfkhbhjpnfajeaa
open Go.RowKit
set_option linter.unusedSimpArgs false
set_option linter.unusedVariables false

/-- A shift. -/
def shf (k : Int) (s : Bool) (n a m : Int) : Int := if k = 14 then cut n (a * 2 ^ min m.toNat 64) else cut n (mn s n a / 2 ^ min m.toNat 64)
theorem shifted_any (k a m n : Int) (s : Bool) (w : World) (hk : k = 14 ∨ k = 15) (h : IsW n) (ha : U a) (hm : U m) : Calls Try.prog 11 #[.int .i64 k, .int .u64 a, .int .u64 m, .agg #[.int .i64 n, .bool s]] w fun e w' => e = .returned (.tuple #[.int .u64 (shf k s n a m), .int .i64 0]) ∧ Below w.heap.size w w' := by
  rcases hk with rfl | rfl
  · have HL := hide (fun w => shl_any a m n w h ha hm)
    have e1 : shf 14 s n a m = cut n (a * 2 ^ min m.toNat 64) := rfl
    rw [e1]
    generalize cut n (a * 2 ^ min m.toNat 64) = R at *
    go_enter Try.func11, Try.ntmps11
    go_wp2_with (go_at_call 38; refine (unhide HL _).mono ?_; rintro e w1 ⟨rfl, k1⟩)
    go_ret2
    exact ⟨rfl, bT (below_a _ _) k1⟩
  · have HL : Hid (∀ w, Calls Try.prog 39 #[.int .u64 a, .int .u64 m, .int .i64 n, .bool s] w fun e w' => e = .returned (.tuple #[.int .u64 (shf 15 s n a m), .int .i64 0]) ∧ Below w.heap.size w w') := by
      intro w
      cases s
      · have e1 : shf 15 false n a m = cut n a / 2 ^ min m.toNat 64 := cut_div h a _
        rw [e1]
        exact shr_u a m n w h ha hm
      · exact shr_s a m n w h ha hm
    generalize shf 15 s n a m = R at *
    go_enter Try.func11, Try.ntmps11
    go_wp2_with (go_at_call 39; refine (unhide HL _).mono ?_; rintro e w1 ⟨rfl, k1⟩)
    go_ret2
    exact ⟨rfl, bT (below_a _ _) k1⟩

/-- What neither shifts nor compares: the number, and what is told of it. -/
def wrk (k : Int) (s : Bool) (n a b : Int) : Int × Int :=
  if k = 9 then (cut n (a * b), 0) else if k = 10 then (if cut n b = 0 then (0, 10) else (cut n ((mn s n a).tdiv (mn s n b)), 0)) else if k = 11 then (if cut n b = 0 then (0, 10) else (cut n ((mn s n a).tmod (mn s n b)), 0))
  else if k = 12 then (cut n (a + b), 0) else if k = 13 then (cut n (a - b), 0) else if k = 22 then (bits .and .u64 a b, 0) else if k = 23 then (bits .xor .u64 a b, 0) else (bits .or .u64 a b, 0)
def wkB (k : Int) : Prop := k = 9 ∨ k = 10 ∨ k = 11 ∨ k = 12 ∨ k = 13 ∨ k = 22 ∨ k = 23 ∨ k = 24
theorem worked_any (k a b n : Int) (s : Bool) (w : World) (hk : wkB k) (h : IsW n) (ha : U a) (hb : U b) : Calls Try.prog 17 #[.int .i64 k, .int .u64 a, .int .u64 b, .agg #[.int .i64 n, .bool s]] w fun e w' => e = .returned (.tuple #[.int .u64 (wrk k s n a b).1, .int .i64 (wrk k s n a b).2]) ∧ Below w.heap.size w w' := by
  rcases hk with rfl | rfl | rfl | rfl | rfl | rfl | rfl | rfl
  · have HL := hide (fun w => mul_any a b n w h ha hb)
    have e1 : wrk 9 s n a b = (cut n (a * b), 0) := rfl
    rw [e1]
    generalize cut n (a * b) = R at *
    go_enter Try.func17, Try.ntmps17
    go_wp2_with (go_at_call 42; refine (unhide HL _).mono ?_; rintro e w1 ⟨rfl, k1⟩)
    go_ret2
    exact ⟨rfl, bT (below_a _ _) k1⟩
  · have HL : Hid (∀ w, Calls Try.prog 43 #[.int .u64 a, .int .u64 b, .int .i64 n, .bool s] w fun e w' => e = .returned (.tuple #[.int .u64 (wrk 10 s n a b).1, .int .i64 (wrk 10 s n a b).2]) ∧ Below w.heap.size w w') := by
      intro w
      by_cases hz : cut n b = 0
      · have e1 : wrk 10 s n a b = (0, 10) := by simp [wrk, hz]
        rw [e1]
        exact div_zero a b n s w h hb hz
      · cases s
        · have e1 : wrk 10 false n a b = (cut n a / cut n b, 0) := by
            have p := cut_lo h b
            have q := cut_lo h a
            simp only [wrk, hz, mn]
            simp
            rw [Int.tdiv_eq_ediv_of_nonneg q]
            exact divu_num h a b (by omega)
          rw [e1]
          exact div_u a b n w h ha hb hz
        · have e1 : wrk 10 true n a b = (cut n ((sgn n a).tdiv (sgn n b)), 0) := by simp [wrk, hz, mn]
          rw [e1]
          exact div_s a b n w h ha hb hz
    generalize (wrk 10 s n a b).1 = R at *
    generalize (wrk 10 s n a b).2 = E at *
    go_enter Try.func17, Try.ntmps17
    go_wp2_with (go_at_call 43; refine (unhide HL _).mono ?_; rintro e w1 ⟨rfl, k1⟩)
    go_ret2
    exact ⟨rfl, bT (below_a _ _) k1⟩
  · have HL : Hid (∀ w, Calls Try.prog 44 #[.int .u64 a, .int .u64 b, .int .i64 n, .bool s] w fun e w' => e = .returned (.tuple #[.int .u64 (wrk 11 s n a b).1, .int .i64 (wrk 11 s n a b).2]) ∧ Below w.heap.size w w') := by
      intro w
      by_cases hz : cut n b = 0
      · have e1 : wrk 11 s n a b = (0, 10) := by simp [wrk, hz]
        rw [e1]
        exact rem_zero a b n s w h hb hz
      · cases s
        · have e1 : wrk 11 false n a b = (cut n a % cut n b, 0) := by
            have p := cut_lo h b
            have q := cut_lo h a
            simp only [wrk, hz, mn]
            simp
            rw [Int.tmod_eq_emod_of_nonneg q]
            exact remu_num h a b (by omega)
          rw [e1]
          exact rem_u a b n w h ha hb hz
        · have e1 : wrk 11 true n a b = (cut n ((sgn n a).tmod (sgn n b)), 0) := by simp [wrk, hz, mn]
          rw [e1]
          exact rem_s a b n w h ha hb hz
    generalize (wrk 11 s n a b).1 = R at *
    generalize (wrk 11 s n a b).2 = E at *
    go_enter Try.func17, Try.ntmps17
    go_wp2_with (go_at_call 44; refine (unhide HL _).mono ?_; rintro e w1 ⟨rfl, k1⟩)
    go_ret2
    exact ⟨rfl, bT (below_a _ _) k1⟩
  · have HL := hide (fun w => add_any a b n w h ha hb)
    have e1 : wrk 12 s n a b = (cut n (a + b), 0) := rfl
    rw [e1]
    generalize cut n (a + b) = R at *
    go_enter Try.func17, Try.ntmps17
    go_wp2_with (go_at_call 45; refine (unhide HL _).mono ?_; rintro e w1 ⟨rfl, k1⟩)
    go_ret2
    exact ⟨rfl, bT (below_a _ _) k1⟩
  · have HL := hide (fun w => sub_any a b n w h ha hb)
    have e1 : wrk 13 s n a b = (cut n (a - b), 0) := rfl
    rw [e1]
    generalize cut n (a - b) = R at *
    go_enter Try.func17, Try.ntmps17
    go_wp2_with (go_at_call 46; refine (unhide HL _).mono ?_; rintro e w1 ⟨rfl, k1⟩)
    go_ret2
    exact ⟨rfl, bT (below_a _ _) k1⟩
  · have e1 : wrk 22 s n a b = (bits .and .u64 a b, 0) := rfl
    rw [e1]
    go_enter Try.func17, Try.ntmps17
    go_wp2
    go_ret2
    exact ⟨rfl, below_a _ _⟩
  · have e1 : wrk 23 s n a b = (bits .xor .u64 a b, 0) := rfl
    rw [e1]
    go_enter Try.func17, Try.ntmps17
    go_wp2
    go_ret2
    exact ⟨rfl, below_a _ _⟩
  · have e1 : wrk 24 s n a b = (bits .or .u64 a b, 0) := rfl
    rw [e1]
    go_enter Try.func17, Try.ntmps17
    go_wp2
    go_ret2
    exact ⟨rfl, below_a _ _⟩
end Go.Proofs.Ytfkhbhjpnfajeaa
