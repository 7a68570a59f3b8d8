/-
  What fits is meant: the walk.
-/
import Derived.Test.YtfkhbhjpnfajeaaDoorTyL
import Derived.Test.YtfkhbhjpnfajeaaDoorTyM
import Derived.Test.YtfkhbhjpnfajeaaDoorBigN
import Derived.Test.YtfkhbhjpnfajeaaDoorBigD
namespace Go.Proofs.YtfkhbhjpnfajeaaDoor
open Go.RowKit
set_option linter.unusedSimpArgs false
set_option linter.unusedVariables false

theorem u_of' {x : Int} (h : (Lit.int .u64 x).wf = true) : U x := by
  have h1 : IntKind.u64.min = 0 := rfl
  have h2 : IntKind.u64.max = 18446744073709551615 := rfl
  simp only [Lit.wf, Bool.and_eq_true, decide_eq_true_eq] at h
  unfold U
  omega
theorem mean_le {n a b : Int} {s t : Bool} (ha : IsW a) (hb : IsW b) (h : a ≤ b) : conv (conv (conv n a s a) a s b) b t a = conv n a s a := by
  unfold conv
  rw [cut_mn_le ha hb h, cut_le ha hb h, cut_mn, cut_cut]
theorem mean_eq {X a b Y : Int} {s t : Bool} (hX : cut a X = X) (h : mn s a X = mn t b Y) : conv Y b t a = X := by
  unfold conv
  rw [← h, cut_mn, hX]
set_option maxHeartbeats 4000000 in
theorem typesMean_yes (n a : Int) (s : Bool) (b : Int) (t : Bool) (w : World) (hn : U n) (ha : IsW a) (hb : IsW b) : Calls Tryd.prog 4 #[.int .u64 n, .agg #[.int .i64 a, .bool s], .agg #[.int .i64 b, .bool t]] w fun e w' => e = .returned (.bool true) ∧ Below w.heap.size w w' := by
  have uX : U (conv n a s a) := u_conv ha
  have uY : U (conv (conv n a s a) a s b) := u_conv hb
  have HX := hide (fun (w : World) => convert_any n a s a s w ha ha hn)
  have HY := hide (fun (w : World) => convert_any (conv n a s a) a s b t w ha hb uX)
  have HZ := hide (fun (w : World) => convert_any (conv (conv n a s a) a s b) b t a s w hb ha uY)
  have MA := hide (fun (w : World) => meant_any (conv n a s a) a s w ha uX)
  have MB := hide (fun (w : World) => meant_any (conv (conv n a s a) a s b) b t w hb uY)
  have xa := mn_abs ha s (conv n a s a)
  have xb := mn_abs hb t (conv (conv n a s a) a s b)
  have f1 : a ≤ b → conv (conv (conv n a s a) a s b) b t a = conv n a s a := fun h => mean_le ha hb h
  have f2 : mn s a (conv n a s a) = mn t b (conv (conv n a s a) a s b) → conv (conv (conv n a s a) a s b) b t a = conv n a s a := fun h => mean_eq (cut_cut a _) h
  generalize conv (conv (conv n a s a) a s b) b t a = Z at *
  generalize conv (conv n a s a) a s b = Y at *
  generalize conv n a s a = X at *
  generalize mn s a X = M1 at *
  generalize mn t b Y = M2 at *
  have b8 : (18446744073709551616 : Nat) < 4294967296 ^ 8 := by decide
  have hcm : cm M1 M2 = 0 → M1 = M2 := by
    unfold cm
    split
    · intro h; omega
    · split
      · intro; assumption
      · intro h; omega
  generalize hC : cm M1 M2 = C at *
  by_cases hz : Z = X
  · subst hz
    clear f1 f2 hcm
    by_cases h1 : a ≤ b
    · have d1 : decide (a ≤ b) = true := by simpa using h1
      by_cases h2 : C = 0
      · subst h2
        go_enter Tryd.func4, Tryd.ntmps4
        go_wp2_with fail
        refine (alive7_any _).mono ?_
        rintro e w1 ⟨rfl, k1⟩
        have R := hide (Duo.new k1)
        obtain ⟨x0, x1⟩ := (unhide R).A.at2
        obtain ⟨x2, x3⟩ := (unhide R).B.at2
        go_wp2_with fail
        refine (tvalid_yes a s _ ha).mono ?_
        rintro e wn ⟨rfl, kn⟩
        clear x0 x1 x2 x3
        have R' := hide ((unhide R).step kn)
        clear R kn
        have R := R'
        clear R'
        obtain ⟨x0, x1⟩ := (unhide R).A.at2
        obtain ⟨x2, x3⟩ := (unhide R).B.at2
        go_wp2_with fail
        refine (tvalid_yes b t _ hb).mono ?_
        rintro e wn ⟨rfl, kn⟩
        clear x0 x1 x2 x3
        have R' := hide ((unhide R).step kn)
        clear R kn
        have R := R'
        clear R'
        obtain ⟨x0, x1⟩ := (unhide R).A.at2
        obtain ⟨x2, x3⟩ := (unhide R).B.at2
        go_wp2_with fail
        refine (unhide HX _).mono ?_
        rintro e wn ⟨rfl, kn⟩
        clear x0 x1 x2 x3
        have R' := hide ((unhide R).step kn)
        clear R kn
        have R := R'
        clear R'
        obtain ⟨x0, x1⟩ := (unhide R).A.at2
        obtain ⟨x2, x3⟩ := (unhide R).B.at2
        go_wp2_with fail
        refine (unhide HY _).mono ?_
        rintro e wn ⟨rfl, kn⟩
        clear x0 x1 x2 x3
        have R' := hide ((unhide R).step kn)
        clear R kn
        have R := R'
        clear R'
        obtain ⟨x0, x1⟩ := (unhide R).A.at2
        obtain ⟨x2, x3⟩ := (unhide R).B.at2
        go_wp2_with fail
        refine (unhide HZ _).mono ?_
        rintro e wn ⟨rfl, kn⟩
        clear x0 x1 x2 x3
        have R' := hide ((unhide R).step kn)
        clear R kn
        have R := R'
        clear R'
        obtain ⟨x0, x1⟩ := (unhide R).A.at2
        obtain ⟨x2, x3⟩ := (unhide R).B.at2
        go_wp2_with fail
        refine reg_start (fun W => W.cell? ⟨w.heap.size, 0, none⟩ = some (.int .i64 a) ∧ W.cell? ⟨w.heap.size, 1, none⟩ = some (.bool s) ∧ W.cell? ⟨w.heap.size + 1, 0, none⟩ = some (.int .i64 b) ∧ W.cell? ⟨w.heap.size + 1, 1, none⟩ = some (.bool t)) (by kernel_rfl) ?_
        refine reg_seg 0 5 10 (by kernel_rfl) (by decide) (by kernel_rfl) (by kernel_rfl) (fun _ _ _ _ _ h => h) ?_
        simp only [List.take_succ_cons, List.take_zero, List.drop_succ_cons, List.drop_zero]
        repeat (refine wpSteady_step (fun K hK => ?_); go_simp; first | (refine steady_of ?_ (fun W hW => ?_) (hK _ ?_); rotate_left; (obtain ⟨c1, c2, c3, c4⟩ := hW; go_simp; first | done | rfl); clear hK K) | (refine hK _ ?_; clear hK K))
        refine wpSteady_nil ?_
        refine reg_seg 6 5 5 (by kernel_rfl) (by decide) (by kernel_rfl) (by kernel_rfl) (fun _ _ _ _ _ h => h) ?_
        simp only [List.take_succ_cons, List.take_zero, List.drop_succ_cons, List.drop_zero]
        repeat (refine wpSteady_step (fun K hK => ?_); go_simp; first | (refine steady_of ?_ (fun W hW => ?_) (hK _ ?_); rotate_left; (obtain ⟨c1, c2, c3, c4⟩ := hW; go_simp; first | done | rfl); clear hK K) | (refine hK _ ?_; clear hK K))
        refine wpSteady_nil ?_
        refine reg_one 5 4 (by kernel_rfl) (by kernel_rfl) ⟨x0, x1, x2, x3⟩ ?_
        simp only [List.take_succ_cons, List.take_zero, List.drop_succ_cons, List.drop_zero]
        go_wp2_with fail
        refine (unhide MA _).mono ?_
        rintro e w2 ⟨p, rfl, hp, k2, G2⟩
        clear x0 x1 x2 x3
        have k2' := of_drew k2
        have R2 := hide ((unhide R).step k2')
        have HB2 := hide G2
        clear R k2 k2' G2
        obtain ⟨x0, x1⟩ := (unhide R2).A.at2
        obtain ⟨x2, x3⟩ := (unhide R2).B.at2
        go_wp2_with fail
        first | refine next_nil ?_ | refine next_go ?_
        refine reg_one 11 3 (by kernel_rfl) (by kernel_rfl) ⟨x0, x1, x2, x3⟩ ?_
        simp only [List.take_succ_cons, List.take_zero, List.drop_succ_cons, List.drop_zero]
        go_wp2_with fail
        refine (unhide MB _).mono ?_
        rintro e w3 ⟨q, rfl, hq, k3, G3⟩
        clear x0 x1 x2 x3
        have R := hide ((unhide R2).step k3)
        have HB3 := hide ((unhide HB2).step k3)
        have HC3 := hide G3
        clear R2 k3 G3
        obtain ⟨x0, x1⟩ := (unhide R).A.at2
        obtain ⟨x2, x3⟩ := (unhide R).B.at2
        go_wp2_with fail
        first | refine next_nil ?_ | refine next_go ?_
        refine reg_one 12 2 (by kernel_rfl) (by kernel_rfl) ⟨x0, x1, x2, x3⟩ ?_
        simp only [List.take_succ_cons, List.take_zero, List.drop_succ_cons, List.drop_zero]
        go_wp2_with fail
        refine (cmp_big p q M1 M2 w3 (unhide HB3) (unhide HC3) (by omega) (by omega)).mono ?_
        rintro e w4 ⟨⟨j, rfl⟩, rfl⟩
        have R' : Hid (Duo w (w3.drewN j) (.int .i64 a) (.bool s) (.int .i64 b) (.bool t)) := hide ((unhide R).step (below_drewN (Below.refl _ _) j))
        clear x0 x1 x2 x3 R HB3 HC3
        have R := R'
        clear R'
        obtain ⟨x0, x1⟩ := (unhide R).A.at2
        obtain ⟨x2, x3⟩ := (unhide R).B.at2
        generalize w3.drewN j = w4 at *
        go_wp2_with fail
        first | refine next_nil ?_ | refine next_go ?_
        refine reg_one 13 1 (by kernel_rfl) (by kernel_rfl) ⟨x0, x1, x2, x3⟩ ?_
        simp only [List.take_succ_cons, List.take_zero, List.drop_succ_cons, List.drop_zero]
        go_wp2_with fail
        first | refine next_nil ?_ | refine next_go ?_
        refine reg_one 14 0 (by kernel_rfl) (by kernel_rfl) ⟨x0, x1, x2, x3⟩ ?_
        simp only [List.take_succ_cons, List.take_zero, List.drop_succ_cons, List.drop_zero]
        go_wp2_with fail
        first | refine next_nil ?_ | refine next_go ?_
        refine reg_end (by kernel_rfl) ⟨x0, x1, x2, x3⟩ ?_
        go_wp2_with fail
        go_ret
        exact ⟨rfl, (unhide R).bel⟩
      · have d2 : (C == 0) = false := beq_eq_false_iff_ne.2 h2
        go_enter Tryd.func4, Tryd.ntmps4
        go_wp2_with fail
        refine (alive7_any _).mono ?_
        rintro e w1 ⟨rfl, k1⟩
        have R := hide (Duo.new k1)
        obtain ⟨x0, x1⟩ := (unhide R).A.at2
        obtain ⟨x2, x3⟩ := (unhide R).B.at2
        go_wp2_with fail
        refine (tvalid_yes a s _ ha).mono ?_
        rintro e wn ⟨rfl, kn⟩
        clear x0 x1 x2 x3
        have R' := hide ((unhide R).step kn)
        clear R kn
        have R := R'
        clear R'
        obtain ⟨x0, x1⟩ := (unhide R).A.at2
        obtain ⟨x2, x3⟩ := (unhide R).B.at2
        go_wp2_with fail
        refine (tvalid_yes b t _ hb).mono ?_
        rintro e wn ⟨rfl, kn⟩
        clear x0 x1 x2 x3
        have R' := hide ((unhide R).step kn)
        clear R kn
        have R := R'
        clear R'
        obtain ⟨x0, x1⟩ := (unhide R).A.at2
        obtain ⟨x2, x3⟩ := (unhide R).B.at2
        go_wp2_with fail
        refine (unhide HX _).mono ?_
        rintro e wn ⟨rfl, kn⟩
        clear x0 x1 x2 x3
        have R' := hide ((unhide R).step kn)
        clear R kn
        have R := R'
        clear R'
        obtain ⟨x0, x1⟩ := (unhide R).A.at2
        obtain ⟨x2, x3⟩ := (unhide R).B.at2
        go_wp2_with fail
        refine (unhide HY _).mono ?_
        rintro e wn ⟨rfl, kn⟩
        clear x0 x1 x2 x3
        have R' := hide ((unhide R).step kn)
        clear R kn
        have R := R'
        clear R'
        obtain ⟨x0, x1⟩ := (unhide R).A.at2
        obtain ⟨x2, x3⟩ := (unhide R).B.at2
        go_wp2_with fail
        refine (unhide HZ _).mono ?_
        rintro e wn ⟨rfl, kn⟩
        clear x0 x1 x2 x3
        have R' := hide ((unhide R).step kn)
        clear R kn
        have R := R'
        clear R'
        obtain ⟨x0, x1⟩ := (unhide R).A.at2
        obtain ⟨x2, x3⟩ := (unhide R).B.at2
        go_wp2_with fail
        refine reg_start (fun W => W.cell? ⟨w.heap.size, 0, none⟩ = some (.int .i64 a) ∧ W.cell? ⟨w.heap.size, 1, none⟩ = some (.bool s) ∧ W.cell? ⟨w.heap.size + 1, 0, none⟩ = some (.int .i64 b) ∧ W.cell? ⟨w.heap.size + 1, 1, none⟩ = some (.bool t)) (by kernel_rfl) ?_
        refine reg_seg 0 5 10 (by kernel_rfl) (by decide) (by kernel_rfl) (by kernel_rfl) (fun _ _ _ _ _ h => h) ?_
        simp only [List.take_succ_cons, List.take_zero, List.drop_succ_cons, List.drop_zero]
        repeat (refine wpSteady_step (fun K hK => ?_); go_simp; first | (refine steady_of ?_ (fun W hW => ?_) (hK _ ?_); rotate_left; (obtain ⟨c1, c2, c3, c4⟩ := hW; go_simp; first | done | rfl); clear hK K) | (refine hK _ ?_; clear hK K))
        refine wpSteady_nil ?_
        refine reg_seg 6 5 5 (by kernel_rfl) (by decide) (by kernel_rfl) (by kernel_rfl) (fun _ _ _ _ _ h => h) ?_
        simp only [List.take_succ_cons, List.take_zero, List.drop_succ_cons, List.drop_zero]
        repeat (refine wpSteady_step (fun K hK => ?_); go_simp; first | (refine steady_of ?_ (fun W hW => ?_) (hK _ ?_); rotate_left; (obtain ⟨c1, c2, c3, c4⟩ := hW; go_simp; first | done | rfl); clear hK K) | (refine hK _ ?_; clear hK K))
        refine wpSteady_nil ?_
        refine reg_one 5 4 (by kernel_rfl) (by kernel_rfl) ⟨x0, x1, x2, x3⟩ ?_
        simp only [List.take_succ_cons, List.take_zero, List.drop_succ_cons, List.drop_zero]
        go_wp2_with fail
        refine (unhide MA _).mono ?_
        rintro e w2 ⟨p, rfl, hp, k2, G2⟩
        clear x0 x1 x2 x3
        have k2' := of_drew k2
        have R2 := hide ((unhide R).step k2')
        have HB2 := hide G2
        clear R k2 k2' G2
        obtain ⟨x0, x1⟩ := (unhide R2).A.at2
        obtain ⟨x2, x3⟩ := (unhide R2).B.at2
        go_wp2_with fail
        first | refine next_nil ?_ | refine next_go ?_
        refine reg_one 11 3 (by kernel_rfl) (by kernel_rfl) ⟨x0, x1, x2, x3⟩ ?_
        simp only [List.take_succ_cons, List.take_zero, List.drop_succ_cons, List.drop_zero]
        go_wp2_with fail
        refine (unhide MB _).mono ?_
        rintro e w3 ⟨q, rfl, hq, k3, G3⟩
        clear x0 x1 x2 x3
        have R := hide ((unhide R2).step k3)
        have HB3 := hide ((unhide HB2).step k3)
        have HC3 := hide G3
        clear R2 k3 G3
        obtain ⟨x0, x1⟩ := (unhide R).A.at2
        obtain ⟨x2, x3⟩ := (unhide R).B.at2
        go_wp2_with fail
        first | refine next_nil ?_ | refine next_go ?_
        refine reg_one 12 2 (by kernel_rfl) (by kernel_rfl) ⟨x0, x1, x2, x3⟩ ?_
        simp only [List.take_succ_cons, List.take_zero, List.drop_succ_cons, List.drop_zero]
        go_wp2_with fail
        refine (cmp_big p q M1 M2 w3 (unhide HB3) (unhide HC3) (by omega) (by omega)).mono ?_
        rintro e w4 ⟨⟨j, rfl⟩, rfl⟩
        have R' : Hid (Duo w (w3.drewN j) (.int .i64 a) (.bool s) (.int .i64 b) (.bool t)) := hide ((unhide R).step (below_drewN (Below.refl _ _) j))
        clear x0 x1 x2 x3 R HB3 HC3
        have R := R'
        clear R'
        obtain ⟨x0, x1⟩ := (unhide R).A.at2
        obtain ⟨x2, x3⟩ := (unhide R).B.at2
        generalize w3.drewN j = w4 at *
        go_wp2_with fail
        first | refine next_nil ?_ | refine next_go ?_
        refine reg_one 13 1 (by kernel_rfl) (by kernel_rfl) ⟨x0, x1, x2, x3⟩ ?_
        simp only [List.take_succ_cons, List.take_zero, List.drop_succ_cons, List.drop_zero]
        go_wp2_with fail
        first | refine next_nil ?_ | refine next_go ?_
        refine reg_one 14 0 (by kernel_rfl) (by kernel_rfl) ⟨x0, x1, x2, x3⟩ ?_
        simp only [List.take_succ_cons, List.take_zero, List.drop_succ_cons, List.drop_zero]
        go_wp2_with fail
        first | refine next_nil ?_ | refine next_go ?_
        refine reg_end (by kernel_rfl) ⟨x0, x1, x2, x3⟩ ?_
        go_wp2_with fail
        go_ret
        exact ⟨rfl, (unhide R).bel⟩
    · have d1 : decide (a ≤ b) = false := by simpa using h1
      by_cases h2 : C = 0
      · subst h2
        go_enter Tryd.func4, Tryd.ntmps4
        go_wp2_with fail
        refine (alive7_any _).mono ?_
        rintro e w1 ⟨rfl, k1⟩
        have R := hide (Duo.new k1)
        obtain ⟨x0, x1⟩ := (unhide R).A.at2
        obtain ⟨x2, x3⟩ := (unhide R).B.at2
        go_wp2_with fail
        refine (tvalid_yes a s _ ha).mono ?_
        rintro e wn ⟨rfl, kn⟩
        clear x0 x1 x2 x3
        have R' := hide ((unhide R).step kn)
        clear R kn
        have R := R'
        clear R'
        obtain ⟨x0, x1⟩ := (unhide R).A.at2
        obtain ⟨x2, x3⟩ := (unhide R).B.at2
        go_wp2_with fail
        refine (tvalid_yes b t _ hb).mono ?_
        rintro e wn ⟨rfl, kn⟩
        clear x0 x1 x2 x3
        have R' := hide ((unhide R).step kn)
        clear R kn
        have R := R'
        clear R'
        obtain ⟨x0, x1⟩ := (unhide R).A.at2
        obtain ⟨x2, x3⟩ := (unhide R).B.at2
        go_wp2_with fail
        refine (unhide HX _).mono ?_
        rintro e wn ⟨rfl, kn⟩
        clear x0 x1 x2 x3
        have R' := hide ((unhide R).step kn)
        clear R kn
        have R := R'
        clear R'
        obtain ⟨x0, x1⟩ := (unhide R).A.at2
        obtain ⟨x2, x3⟩ := (unhide R).B.at2
        go_wp2_with fail
        refine (unhide HY _).mono ?_
        rintro e wn ⟨rfl, kn⟩
        clear x0 x1 x2 x3
        have R' := hide ((unhide R).step kn)
        clear R kn
        have R := R'
        clear R'
        obtain ⟨x0, x1⟩ := (unhide R).A.at2
        obtain ⟨x2, x3⟩ := (unhide R).B.at2
        go_wp2_with fail
        refine (unhide HZ _).mono ?_
        rintro e wn ⟨rfl, kn⟩
        clear x0 x1 x2 x3
        have R' := hide ((unhide R).step kn)
        clear R kn
        have R := R'
        clear R'
        obtain ⟨x0, x1⟩ := (unhide R).A.at2
        obtain ⟨x2, x3⟩ := (unhide R).B.at2
        go_wp2_with fail
        refine reg_start (fun W => W.cell? ⟨w.heap.size, 0, none⟩ = some (.int .i64 a) ∧ W.cell? ⟨w.heap.size, 1, none⟩ = some (.bool s) ∧ W.cell? ⟨w.heap.size + 1, 0, none⟩ = some (.int .i64 b) ∧ W.cell? ⟨w.heap.size + 1, 1, none⟩ = some (.bool t)) (by kernel_rfl) ?_
        refine reg_seg 0 5 10 (by kernel_rfl) (by decide) (by kernel_rfl) (by kernel_rfl) (fun _ _ _ _ _ h => h) ?_
        simp only [List.take_succ_cons, List.take_zero, List.drop_succ_cons, List.drop_zero]
        repeat (refine wpSteady_step (fun K hK => ?_); go_simp; first | (refine steady_of ?_ (fun W hW => ?_) (hK _ ?_); rotate_left; (obtain ⟨c1, c2, c3, c4⟩ := hW; go_simp; first | done | rfl); clear hK K) | (refine hK _ ?_; clear hK K))
        refine wpSteady_nil ?_
        refine reg_seg 6 5 5 (by kernel_rfl) (by decide) (by kernel_rfl) (by kernel_rfl) (fun _ _ _ _ _ h => h) ?_
        simp only [List.take_succ_cons, List.take_zero, List.drop_succ_cons, List.drop_zero]
        repeat (refine wpSteady_step (fun K hK => ?_); go_simp; first | (refine steady_of ?_ (fun W hW => ?_) (hK _ ?_); rotate_left; (obtain ⟨c1, c2, c3, c4⟩ := hW; go_simp; first | done | rfl); clear hK K) | (refine hK _ ?_; clear hK K))
        refine wpSteady_nil ?_
        refine reg_one 5 4 (by kernel_rfl) (by kernel_rfl) ⟨x0, x1, x2, x3⟩ ?_
        simp only [List.take_succ_cons, List.take_zero, List.drop_succ_cons, List.drop_zero]
        go_wp2_with fail
        refine (unhide MA _).mono ?_
        rintro e w2 ⟨p, rfl, hp, k2, G2⟩
        clear x0 x1 x2 x3
        have k2' := of_drew k2
        have R2 := hide ((unhide R).step k2')
        have HB2 := hide G2
        clear R k2 k2' G2
        obtain ⟨x0, x1⟩ := (unhide R2).A.at2
        obtain ⟨x2, x3⟩ := (unhide R2).B.at2
        go_wp2_with fail
        first | refine next_nil ?_ | refine next_go ?_
        refine reg_one 11 3 (by kernel_rfl) (by kernel_rfl) ⟨x0, x1, x2, x3⟩ ?_
        simp only [List.take_succ_cons, List.take_zero, List.drop_succ_cons, List.drop_zero]
        go_wp2_with fail
        refine (unhide MB _).mono ?_
        rintro e w3 ⟨q, rfl, hq, k3, G3⟩
        clear x0 x1 x2 x3
        have R := hide ((unhide R2).step k3)
        have HB3 := hide ((unhide HB2).step k3)
        have HC3 := hide G3
        clear R2 k3 G3
        obtain ⟨x0, x1⟩ := (unhide R).A.at2
        obtain ⟨x2, x3⟩ := (unhide R).B.at2
        go_wp2_with fail
        first | refine next_nil ?_ | refine next_go ?_
        refine reg_one 12 2 (by kernel_rfl) (by kernel_rfl) ⟨x0, x1, x2, x3⟩ ?_
        simp only [List.take_succ_cons, List.take_zero, List.drop_succ_cons, List.drop_zero]
        go_wp2_with fail
        refine (cmp_big p q M1 M2 w3 (unhide HB3) (unhide HC3) (by omega) (by omega)).mono ?_
        rintro e w4 ⟨⟨j, rfl⟩, rfl⟩
        have R' : Hid (Duo w (w3.drewN j) (.int .i64 a) (.bool s) (.int .i64 b) (.bool t)) := hide ((unhide R).step (below_drewN (Below.refl _ _) j))
        clear x0 x1 x2 x3 R HB3 HC3
        have R := R'
        clear R'
        obtain ⟨x0, x1⟩ := (unhide R).A.at2
        obtain ⟨x2, x3⟩ := (unhide R).B.at2
        generalize w3.drewN j = w4 at *
        go_wp2_with fail
        first | refine next_nil ?_ | refine next_go ?_
        refine reg_one 13 1 (by kernel_rfl) (by kernel_rfl) ⟨x0, x1, x2, x3⟩ ?_
        simp only [List.take_succ_cons, List.take_zero, List.drop_succ_cons, List.drop_zero]
        go_wp2_with fail
        first | refine next_nil ?_ | refine next_go ?_
        refine reg_one 14 0 (by kernel_rfl) (by kernel_rfl) ⟨x0, x1, x2, x3⟩ ?_
        simp only [List.take_succ_cons, List.take_zero, List.drop_succ_cons, List.drop_zero]
        go_wp2_with fail
        first | refine next_nil ?_ | refine next_go ?_
        refine reg_end (by kernel_rfl) ⟨x0, x1, x2, x3⟩ ?_
        go_wp2_with fail
        go_ret
        exact ⟨rfl, (unhide R).bel⟩
      · have d2 : (C == 0) = false := beq_eq_false_iff_ne.2 h2
        go_enter Tryd.func4, Tryd.ntmps4
        go_wp2_with fail
        refine (alive7_any _).mono ?_
        rintro e w1 ⟨rfl, k1⟩
        have R := hide (Duo.new k1)
        obtain ⟨x0, x1⟩ := (unhide R).A.at2
        obtain ⟨x2, x3⟩ := (unhide R).B.at2
        go_wp2_with fail
        refine (tvalid_yes a s _ ha).mono ?_
        rintro e wn ⟨rfl, kn⟩
        clear x0 x1 x2 x3
        have R' := hide ((unhide R).step kn)
        clear R kn
        have R := R'
        clear R'
        obtain ⟨x0, x1⟩ := (unhide R).A.at2
        obtain ⟨x2, x3⟩ := (unhide R).B.at2
        go_wp2_with fail
        refine (tvalid_yes b t _ hb).mono ?_
        rintro e wn ⟨rfl, kn⟩
        clear x0 x1 x2 x3
        have R' := hide ((unhide R).step kn)
        clear R kn
        have R := R'
        clear R'
        obtain ⟨x0, x1⟩ := (unhide R).A.at2
        obtain ⟨x2, x3⟩ := (unhide R).B.at2
        go_wp2_with fail
        refine (unhide HX _).mono ?_
        rintro e wn ⟨rfl, kn⟩
        clear x0 x1 x2 x3
        have R' := hide ((unhide R).step kn)
        clear R kn
        have R := R'
        clear R'
        obtain ⟨x0, x1⟩ := (unhide R).A.at2
        obtain ⟨x2, x3⟩ := (unhide R).B.at2
        go_wp2_with fail
        refine (unhide HY _).mono ?_
        rintro e wn ⟨rfl, kn⟩
        clear x0 x1 x2 x3
        have R' := hide ((unhide R).step kn)
        clear R kn
        have R := R'
        clear R'
        obtain ⟨x0, x1⟩ := (unhide R).A.at2
        obtain ⟨x2, x3⟩ := (unhide R).B.at2
        go_wp2_with fail
        refine (unhide HZ _).mono ?_
        rintro e wn ⟨rfl, kn⟩
        clear x0 x1 x2 x3
        have R' := hide ((unhide R).step kn)
        clear R kn
        have R := R'
        clear R'
        obtain ⟨x0, x1⟩ := (unhide R).A.at2
        obtain ⟨x2, x3⟩ := (unhide R).B.at2
        go_wp2_with fail
        refine reg_start (fun W => W.cell? ⟨w.heap.size, 0, none⟩ = some (.int .i64 a) ∧ W.cell? ⟨w.heap.size, 1, none⟩ = some (.bool s) ∧ W.cell? ⟨w.heap.size + 1, 0, none⟩ = some (.int .i64 b) ∧ W.cell? ⟨w.heap.size + 1, 1, none⟩ = some (.bool t)) (by kernel_rfl) ?_
        refine reg_seg 0 5 10 (by kernel_rfl) (by decide) (by kernel_rfl) (by kernel_rfl) (fun _ _ _ _ _ h => h) ?_
        simp only [List.take_succ_cons, List.take_zero, List.drop_succ_cons, List.drop_zero]
        repeat (refine wpSteady_step (fun K hK => ?_); go_simp; first | (refine steady_of ?_ (fun W hW => ?_) (hK _ ?_); rotate_left; (obtain ⟨c1, c2, c3, c4⟩ := hW; go_simp; first | done | rfl); clear hK K) | (refine hK _ ?_; clear hK K))
        refine wpSteady_nil ?_
        refine reg_seg 6 5 5 (by kernel_rfl) (by decide) (by kernel_rfl) (by kernel_rfl) (fun _ _ _ _ _ h => h) ?_
        simp only [List.take_succ_cons, List.take_zero, List.drop_succ_cons, List.drop_zero]
        repeat (refine wpSteady_step (fun K hK => ?_); go_simp; first | (refine steady_of ?_ (fun W hW => ?_) (hK _ ?_); rotate_left; (obtain ⟨c1, c2, c3, c4⟩ := hW; go_simp; first | done | rfl); clear hK K) | (refine hK _ ?_; clear hK K))
        refine wpSteady_nil ?_
        refine reg_one 5 4 (by kernel_rfl) (by kernel_rfl) ⟨x0, x1, x2, x3⟩ ?_
        simp only [List.take_succ_cons, List.take_zero, List.drop_succ_cons, List.drop_zero]
        go_wp2_with fail
        refine (unhide MA _).mono ?_
        rintro e w2 ⟨p, rfl, hp, k2, G2⟩
        clear x0 x1 x2 x3
        have k2' := of_drew k2
        have R2 := hide ((unhide R).step k2')
        have HB2 := hide G2
        clear R k2 k2' G2
        obtain ⟨x0, x1⟩ := (unhide R2).A.at2
        obtain ⟨x2, x3⟩ := (unhide R2).B.at2
        go_wp2_with fail
        first | refine next_nil ?_ | refine next_go ?_
        refine reg_one 11 3 (by kernel_rfl) (by kernel_rfl) ⟨x0, x1, x2, x3⟩ ?_
        simp only [List.take_succ_cons, List.take_zero, List.drop_succ_cons, List.drop_zero]
        go_wp2_with fail
        refine (unhide MB _).mono ?_
        rintro e w3 ⟨q, rfl, hq, k3, G3⟩
        clear x0 x1 x2 x3
        have R := hide ((unhide R2).step k3)
        have HB3 := hide ((unhide HB2).step k3)
        have HC3 := hide G3
        clear R2 k3 G3
        obtain ⟨x0, x1⟩ := (unhide R).A.at2
        obtain ⟨x2, x3⟩ := (unhide R).B.at2
        go_wp2_with fail
        first | refine next_nil ?_ | refine next_go ?_
        refine reg_one 12 2 (by kernel_rfl) (by kernel_rfl) ⟨x0, x1, x2, x3⟩ ?_
        simp only [List.take_succ_cons, List.take_zero, List.drop_succ_cons, List.drop_zero]
        go_wp2_with fail
        refine (cmp_big p q M1 M2 w3 (unhide HB3) (unhide HC3) (by omega) (by omega)).mono ?_
        rintro e w4 ⟨⟨j, rfl⟩, rfl⟩
        have R' : Hid (Duo w (w3.drewN j) (.int .i64 a) (.bool s) (.int .i64 b) (.bool t)) := hide ((unhide R).step (below_drewN (Below.refl _ _) j))
        clear x0 x1 x2 x3 R HB3 HC3
        have R := R'
        clear R'
        obtain ⟨x0, x1⟩ := (unhide R).A.at2
        obtain ⟨x2, x3⟩ := (unhide R).B.at2
        generalize w3.drewN j = w4 at *
        go_wp2_with fail
        first | refine next_nil ?_ | refine next_go ?_
        refine reg_one 13 1 (by kernel_rfl) (by kernel_rfl) ⟨x0, x1, x2, x3⟩ ?_
        simp only [List.take_succ_cons, List.take_zero, List.drop_succ_cons, List.drop_zero]
        go_wp2_with fail
        first | refine next_nil ?_ | refine next_go ?_
        refine reg_one 14 0 (by kernel_rfl) (by kernel_rfl) ⟨x0, x1, x2, x3⟩ ?_
        simp only [List.take_succ_cons, List.take_zero, List.drop_succ_cons, List.drop_zero]
        go_wp2_with fail
        first | refine next_nil ?_ | refine next_go ?_
        refine reg_end (by kernel_rfl) ⟨x0, x1, x2, x3⟩ ?_
        go_wp2_with fail
        go_ret
        exact ⟨rfl, (unhide R).bel⟩
  · have h1 : ¬ a ≤ b := fun h => hz (f1 h)
    have d1 : decide (a ≤ b) = false := by simpa using h1
    have h2 : C ≠ 0 := fun h => hz (f2 (hcm h))
    have d2 : (C == 0) = false := beq_eq_false_iff_ne.2 h2
    clear f1 f2 hcm
    go_enter Tryd.func4, Tryd.ntmps4
    go_wp2_with fail
    refine (alive7_any _).mono ?_
    rintro e w1 ⟨rfl, k1⟩
    have R := hide (Duo.new k1)
    obtain ⟨x0, x1⟩ := (unhide R).A.at2
    obtain ⟨x2, x3⟩ := (unhide R).B.at2
    go_wp2_with fail
    refine (tvalid_yes a s _ ha).mono ?_
    rintro e wn ⟨rfl, kn⟩
    clear x0 x1 x2 x3
    have R' := hide ((unhide R).step kn)
    clear R kn
    have R := R'
    clear R'
    obtain ⟨x0, x1⟩ := (unhide R).A.at2
    obtain ⟨x2, x3⟩ := (unhide R).B.at2
    go_wp2_with fail
    refine (tvalid_yes b t _ hb).mono ?_
    rintro e wn ⟨rfl, kn⟩
    clear x0 x1 x2 x3
    have R' := hide ((unhide R).step kn)
    clear R kn
    have R := R'
    clear R'
    obtain ⟨x0, x1⟩ := (unhide R).A.at2
    obtain ⟨x2, x3⟩ := (unhide R).B.at2
    go_wp2_with fail
    refine (unhide HX _).mono ?_
    rintro e wn ⟨rfl, kn⟩
    clear x0 x1 x2 x3
    have R' := hide ((unhide R).step kn)
    clear R kn
    have R := R'
    clear R'
    obtain ⟨x0, x1⟩ := (unhide R).A.at2
    obtain ⟨x2, x3⟩ := (unhide R).B.at2
    go_wp2_with fail
    refine (unhide HY _).mono ?_
    rintro e wn ⟨rfl, kn⟩
    clear x0 x1 x2 x3
    have R' := hide ((unhide R).step kn)
    clear R kn
    have R := R'
    clear R'
    obtain ⟨x0, x1⟩ := (unhide R).A.at2
    obtain ⟨x2, x3⟩ := (unhide R).B.at2
    go_wp2_with fail
    refine (unhide HZ _).mono ?_
    rintro e wn ⟨rfl, kn⟩
    clear x0 x1 x2 x3
    have R' := hide ((unhide R).step kn)
    clear R kn
    have R := R'
    clear R'
    obtain ⟨x0, x1⟩ := (unhide R).A.at2
    obtain ⟨x2, x3⟩ := (unhide R).B.at2
    go_wp2_with fail
    refine reg_start (fun W => W.cell? ⟨w.heap.size, 0, none⟩ = some (.int .i64 a) ∧ W.cell? ⟨w.heap.size, 1, none⟩ = some (.bool s) ∧ W.cell? ⟨w.heap.size + 1, 0, none⟩ = some (.int .i64 b) ∧ W.cell? ⟨w.heap.size + 1, 1, none⟩ = some (.bool t)) (by kernel_rfl) ?_
    refine reg_seg 0 5 10 (by kernel_rfl) (by decide) (by kernel_rfl) (by kernel_rfl) (fun _ _ _ _ _ h => h) ?_
    simp only [List.take_succ_cons, List.take_zero, List.drop_succ_cons, List.drop_zero]
    repeat (refine wpSteady_step (fun K hK => ?_); go_simp; first | (refine steady_of ?_ (fun W hW => ?_) (hK _ ?_); rotate_left; (obtain ⟨c1, c2, c3, c4⟩ := hW; go_simp; first | done | rfl); clear hK K) | (refine hK _ ?_; clear hK K))
    refine wpSteady_nil ?_
    refine reg_seg 6 5 5 (by kernel_rfl) (by decide) (by kernel_rfl) (by kernel_rfl) (fun _ _ _ _ _ h => h) ?_
    simp only [List.take_succ_cons, List.take_zero, List.drop_succ_cons, List.drop_zero]
    repeat (refine wpSteady_step (fun K hK => ?_); go_simp; first | (refine steady_of ?_ (fun W hW => ?_) (hK _ ?_); rotate_left; (obtain ⟨c1, c2, c3, c4⟩ := hW; go_simp; first | done | rfl); clear hK K) | (refine hK _ ?_; clear hK K))
    refine wpSteady_nil ?_
    refine reg_one 5 4 (by kernel_rfl) (by kernel_rfl) ⟨x0, x1, x2, x3⟩ ?_
    simp only [List.take_succ_cons, List.take_zero, List.drop_succ_cons, List.drop_zero]
    go_wp2_with fail
    refine (unhide MA _).mono ?_
    rintro e w2 ⟨p, rfl, hp, k2, G2⟩
    clear x0 x1 x2 x3
    have k2' := of_drew k2
    have R2 := hide ((unhide R).step k2')
    have HB2 := hide G2
    clear R k2 k2' G2
    obtain ⟨x0, x1⟩ := (unhide R2).A.at2
    obtain ⟨x2, x3⟩ := (unhide R2).B.at2
    go_wp2_with fail
    first | refine next_nil ?_ | refine next_go ?_
    refine reg_one 11 3 (by kernel_rfl) (by kernel_rfl) ⟨x0, x1, x2, x3⟩ ?_
    simp only [List.take_succ_cons, List.take_zero, List.drop_succ_cons, List.drop_zero]
    go_wp2_with fail
    refine (unhide MB _).mono ?_
    rintro e w3 ⟨q, rfl, hq, k3, G3⟩
    clear x0 x1 x2 x3
    have R := hide ((unhide R2).step k3)
    have HB3 := hide ((unhide HB2).step k3)
    have HC3 := hide G3
    clear R2 k3 G3
    obtain ⟨x0, x1⟩ := (unhide R).A.at2
    obtain ⟨x2, x3⟩ := (unhide R).B.at2
    go_wp2_with fail
    first | refine next_nil ?_ | refine next_go ?_
    refine reg_one 12 2 (by kernel_rfl) (by kernel_rfl) ⟨x0, x1, x2, x3⟩ ?_
    simp only [List.take_succ_cons, List.take_zero, List.drop_succ_cons, List.drop_zero]
    go_wp2_with fail
    refine (cmp_big p q M1 M2 w3 (unhide HB3) (unhide HC3) (by omega) (by omega)).mono ?_
    rintro e w4 ⟨⟨j, rfl⟩, rfl⟩
    have R' : Hid (Duo w (w3.drewN j) (.int .i64 a) (.bool s) (.int .i64 b) (.bool t)) := hide ((unhide R).step (below_drewN (Below.refl _ _) j))
    clear x0 x1 x2 x3 R HB3 HC3
    have R := R'
    clear R'
    obtain ⟨x0, x1⟩ := (unhide R).A.at2
    obtain ⟨x2, x3⟩ := (unhide R).B.at2
    generalize w3.drewN j = w4 at *
    go_wp2_with fail
    first | refine next_nil ?_ | refine next_go ?_
    refine reg_one 13 1 (by kernel_rfl) (by kernel_rfl) ⟨x0, x1, x2, x3⟩ ?_
    simp only [List.take_succ_cons, List.take_zero, List.drop_succ_cons, List.drop_zero]
    go_wp2_with fail
    first | refine next_nil ?_ | refine next_go ?_
    refine reg_one 14 0 (by kernel_rfl) (by kernel_rfl) ⟨x0, x1, x2, x3⟩ ?_
    simp only [List.take_succ_cons, List.take_zero, List.drop_succ_cons, List.drop_zero]
    go_wp2_with fail
    first | refine next_nil ?_ | refine next_go ?_
    refine reg_end (by kernel_rfl) ⟨x0, x1, x2, x3⟩ ?_
    go_wp2_with fail
    go_ret
    exact ⟨rfl, (unhide R).bel⟩
theorem walk_typesMean (n a : Int) (s : Bool) (b : Int) (t : Bool) (w : World) (hn : (Lit.int .u64 n).wf = true) : Calls Tryd.prog 4 #[.int .u64 n, .agg #[.int .i64 a, .bool s], .agg #[.int .i64 b, .bool t]] w fun e w' => e = .returned (.bool true) ∧ Below w.heap.size w w' := by
  rcases isW_or a with ha | ha
  · rcases isW_or b with hb | hb
    · exact typesMean_yes n a s b t w (u_of' hn) ha hb
    · skip
      go_enter Tryd.func4, Tryd.ntmps4
      go_wp2_with fail
      refine (alive7_any _).mono ?_
      rintro e w1 ⟨rfl, k1⟩
      have R := hide (Duo.new k1)
      obtain ⟨x0, x1⟩ := (unhide R).A.at2
      obtain ⟨x2, x3⟩ := (unhide R).B.at2
      go_wp2_with fail
      refine (tvalid_yes a s _ ha).mono ?_
      rintro e wn ⟨rfl, kn⟩
      clear x0 x1 x2 x3
      have R' := hide ((unhide R).step kn)
      clear R kn
      have R := R'
      clear R'
      obtain ⟨x0, x1⟩ := (unhide R).A.at2
      obtain ⟨x2, x3⟩ := (unhide R).B.at2
      go_wp2_with fail
      refine (tvalid_no b t _ hb).mono ?_
      rintro e wn ⟨rfl, kn⟩
      clear x0 x1 x2 x3
      have R' := hide ((unhide R).step kn)
      clear R kn
      have R := R'
      clear R'
      obtain ⟨x0, x1⟩ := (unhide R).A.at2
      obtain ⟨x2, x3⟩ := (unhide R).B.at2
      go_wp2_with fail
      go_ret
      exact ⟨rfl, (unhide R).bel⟩
  · skip
    go_enter Tryd.func4, Tryd.ntmps4
    go_wp2_with fail
    refine (alive7_any _).mono ?_
    rintro e w1 ⟨rfl, k1⟩
    have R := hide (Duo.new k1)
    obtain ⟨x0, x1⟩ := (unhide R).A.at2
    obtain ⟨x2, x3⟩ := (unhide R).B.at2
    go_wp2_with fail
    refine (tvalid_no a s _ ha).mono ?_
    rintro e wn ⟨rfl, kn⟩
    clear x0 x1 x2 x3
    have R' := hide ((unhide R).step kn)
    clear R kn
    have R := R'
    clear R'
    obtain ⟨x0, x1⟩ := (unhide R).A.at2
    obtain ⟨x2, x3⟩ := (unhide R).B.at2
    go_wp2_with fail
    go_ret
    exact ⟨rfl, (unhide R).bel⟩
end Go.Proofs.YtfkhbhjpnfajeaaDoor
