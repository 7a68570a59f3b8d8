/-
  Cmp.
-/
import Derived.Test.YtonekpoblgigpaaDoorBigC
namespace Go.Proofs.YtonekpoblgigpaaDoor
open Go.RowKit
set_option linter.unusedSimpArgs false
set_option linter.unusedVariables false

theorem cm_neg (a b : Int) : -cm a b = cm b a := by
  unfold cm
  by_cases h1 : a < b
  · rw [if_pos h1, if_neg (by omega), if_neg (by omega)]; rfl
  · by_cases h2 : a = b
    · rw [if_neg h1, if_pos h2, if_neg (by omega), if_pos h2.symm]; rfl
    · rw [if_neg h1, if_neg h2, if_pos (by omega)]
theorem cm_congr {a b c d : Int} (h1 : a < b ↔ c < d) (h2 : a = b ↔ c = d) : cm a b = cm c d := by
  unfold cm
  by_cases h : a < b
  · rw [if_pos h, if_pos (h1.1 h)]
  · rw [if_neg h, if_neg (fun k => h (h1.2 k))]
    by_cases g : a = b
    · rw [if_pos g, if_pos (h2.1 g)]
    · rw [if_neg g, if_neg (fun k => g (h2.2 k))]
set_option maxRecDepth 100000 in
set_option maxHeartbeats 1000000 in
theorem cmp_big (p q : Nat) (x y : Int) (w : World) (hp : Big w p x) (hq : Big w q y) (hx : x.natAbs < 4294967296 ^ 8) (hy : y.natAbs < 4294967296 ^ 8) :
    Calls Tryd.prog 28 #[.pointer (some ⟨p, 0, none⟩), .pointer (some ⟨q, 0, none⟩)] w fun e w' => (∃ k, w' = w.drewN k) ∧ e = .returned (.int .i64 (cm x y)) := by
  obtain ⟨v, c0, c1, hD, hlt⟩ := hp.cells
  obtain ⟨u, d0, d1, hE, hlr⟩ := hq.cells
  have CM := hide (fun k => cmp_any v u x.natAbs y.natAbs (w.drewN k) hD hE (by omega) (by omega))
  have hr : -1 ≤ cm (x.natAbs : Int) (y.natAbs : Int) ∧ cm (x.natAbs : Int) (y.natAbs : Int) ≤ 1 := by unfold cm; split; omega; split <;> omega
  clear hp hq hD hE
  by_cases hxn : x < 0
  · have bx : decide (x < 0) = true := decide_eq_true hxn
    rw [bx] at c0
    by_cases hyn : y < 0
    · have bx : decide (y < 0) = true := decide_eq_true hyn
      rw [bx] at d0
      have hv : wrap64 (-cm (x.natAbs : Int) (y.natAbs : Int)) = cm x y := by
        rw [show wrap64 (-cm (x.natAbs : Int) (y.natAbs : Int)) = -cm (x.natAbs : Int) (y.natAbs : Int) by unfold wrap64; omega, cm_neg]
        exact cm_congr (by omega) (by omega)
      have HV := hide hv
      have HV2 := hide (show -cm (x.natAbs : Int) (y.natAbs : Int) = cm x y by rw [cm_neg]; exact cm_congr (by omega) (by omega))
      have hbb : (true != true) = false := rfl
      clear hxn hyn hv bx
      generalize cm (x.natAbs : Int) (y.natAbs : Int) = g at *
      go_enter Tryd.func28, Tryd.ntmps28
      go_wp2_with fail
      go_quiet (fail)
      go_wp2_with fail
      refine reg_start (fun W => W.cell? ⟨p, 1, none⟩ = some v ∧ W.cell? ⟨q, 1, none⟩ = some u) (by kernel_rfl) ?_
      refine reg_seg 0 8 2 (by kernel_rfl) (by decide) (by kernel_rfl) (by kernel_rfl) (fun _ _ _ _ _ h => h) ?_
      simp only [List.take_succ_cons, List.take_zero, List.drop_succ_cons, List.drop_zero]
      repeat (refine wpSteady_step (fun K hK => ?_); go_simp; first | (refine steady_of ?_ (fun W hW => ?_) (hK _ ?_); rotate_left; (obtain ⟨h1, h2⟩ := hW; go_simp; first | done | rfl); clear hK K) | (refine hK _ ?_; clear hK K))
      refine wpSteady_nil ?_
      refine reg_one 8 1 (by kernel_rfl) (by kernel_rfl) ⟨c1, d1⟩ ?_
      simp only [List.take_succ_cons, List.take_zero, List.drop_succ_cons, List.drop_zero]
      go_wp2_with fail
      refine (unhide CM _).mono ?_
      rintro e w1 ⟨⟨k, rfl⟩, rfl⟩
      go_wp2_with fail
      first | refine next_nil ?_ | refine next_go ?_
      refine reg_one 9 0 (by kernel_rfl) (by kernel_rfl) ⟨c1, d1⟩ ?_
      simp only [List.take_succ_cons, List.take_zero, List.drop_succ_cons, List.drop_zero]
      go_wp2_with fail
      first | refine next_nil ?_ | refine next_go ?_
      refine reg_end (by kernel_rfl) ⟨c1, d1⟩ ?_
      go_wp2_with fail
      go_ret
      refine ⟨?_, ?_⟩
      rotate_left
      first | exact congrArg (fun z => Ending.returned (Value.int .i64 z)) (unhide HV) | exact congrArg (fun z => Ending.returned (Value.int .i64 z)) (unhide HV2)
      first | exact drew_e1 _ _ | exact drew_e2 _ _ _ | exact drew_e3 _ _ _ _ | exact ⟨_, rfl⟩ | exact ⟨_, (World.drewN_drewN ..)⟩
    · have bx : decide (y < 0) = false := decide_eq_false hyn
      rw [bx] at d0
      have hv : cm x y = -1 := by unfold cm; rw [if_pos (by omega)]
      rw [hv]
      clear CM hr
      go_enter Tryd.func28, Tryd.ntmps28
      go_wp2_with fail
      go_quiet (fail)
      go_wp2_with fail
      go_ret
      exact ⟨⟨_, rfl⟩, rfl⟩
  · have bx : decide (x < 0) = false := decide_eq_false hxn
    rw [bx] at c0
    by_cases hyn : y < 0
    · have bx : decide (y < 0) = true := decide_eq_true hyn
      rw [bx] at d0
      have hv : cm x y = 1 := by unfold cm; rw [if_neg (by omega), if_neg (by omega)]
      rw [hv]
      clear CM hr
      go_enter Tryd.func28, Tryd.ntmps28
      go_wp2_with fail
      go_quiet (fail)
      go_wp2_with fail
      go_ret
      exact ⟨⟨_, rfl⟩, rfl⟩
    · have bx : decide (y < 0) = false := decide_eq_false hyn
      rw [bx] at d0
      have hv : cm (x.natAbs : Int) (y.natAbs : Int) = cm x y := cm_congr (by omega) (by omega)
      have HV := hide hv
      clear hxn hyn hv bx
      generalize cm (x.natAbs : Int) (y.natAbs : Int) = g at *
      go_enter Tryd.func28, Tryd.ntmps28
      go_wp2_with fail
      go_quiet (fail)
      go_wp2_with fail
      refine reg_start (fun W => W.cell? ⟨p, 1, none⟩ = some v ∧ W.cell? ⟨q, 1, none⟩ = some u) (by kernel_rfl) ?_
      refine reg_seg 0 8 2 (by kernel_rfl) (by decide) (by kernel_rfl) (by kernel_rfl) (fun _ _ _ _ _ h => h) ?_
      simp only [List.take_succ_cons, List.take_zero, List.drop_succ_cons, List.drop_zero]
      repeat (refine wpSteady_step (fun K hK => ?_); go_simp; first | (refine steady_of ?_ (fun W hW => ?_) (hK _ ?_); rotate_left; (obtain ⟨h1, h2⟩ := hW; go_simp; first | done | rfl); clear hK K) | (refine hK _ ?_; clear hK K))
      refine wpSteady_nil ?_
      refine reg_one 8 1 (by kernel_rfl) (by kernel_rfl) ⟨c1, d1⟩ ?_
      simp only [List.take_succ_cons, List.take_zero, List.drop_succ_cons, List.drop_zero]
      go_wp2_with fail
      refine (unhide CM _).mono ?_
      rintro e w1 ⟨⟨k, rfl⟩, rfl⟩
      go_wp2_with fail
      first | refine next_nil ?_ | refine next_go ?_
      refine reg_one 9 0 (by kernel_rfl) (by kernel_rfl) ⟨c1, d1⟩ ?_
      simp only [List.take_succ_cons, List.take_zero, List.drop_succ_cons, List.drop_zero]
      go_wp2_with fail
      first | refine next_nil ?_ | refine next_go ?_
      refine reg_end (by kernel_rfl) ⟨c1, d1⟩ ?_
      go_wp2_with fail
      go_ret
      refine ⟨?_, ?_⟩
      rotate_left
      first | exact congrArg (fun z => Ending.returned (Value.int .i64 z)) (unhide HV) | exact congrArg (fun z => Ending.returned (Value.int .i64 z)) (unhide HV2)
      first | exact drew_e1 _ _ | exact drew_e2 _ _ _ | exact drew_e3 _ _ _ _ | exact ⟨_, rfl⟩ | exact ⟨_, (World.drewN_drewN ..)⟩
end Go.Proofs.YtonekpoblgigpaaDoor
