/-
  Constant expressions: the program's own pieces: one kid.
-/
import Derived.Test.YtjddpfojllefgaaGreatCcC
import Derived.Test.YtjddpfojllefgaaGreatReg
namespace Go.Proofs.YtjddpfojllefgaaGreat
open Go.RowKit
set_option linter.unusedSimpArgs false
set_option linter.unusedVariables false

set_option maxHeartbeats 1000000 in
theorem wone_un (k xn xb n1 y1 V B : Int) (xs s1 S : Bool) (nm : ByteArray) (ka : Option Addr) (kl kc : Nat) (h5 : (k == 5) = false)
    (HU : ∀ w : World, Calls Tryz.prog 40 #[.int .i64 k, .int .u64 n1, .agg #[.int .i64 y1, .bool s1]] w fun e w' => e = .returned (.tuple #[.int .u64 V, .agg #[.int .i64 B, .bool S], .int .i64 0]) ∧ Below w.heap.size w w') (w : World) :
    Calls Tryz.prog 24 #[.agg #[.int .i64 k, .int .u64 xn, .int .i64 xb, .bool xs, .string nm, .slice ka kl kc], .agg #[.int .u64 n1, .int .i64 y1, .bool s1]] w fun e w' => e = .returned (.tuple #[.agg #[.int .u64 V, .int .i64 B, .bool S], .int .i64 0]) ∧ Below w.heap.size w w' := by
  have HU := hideI HU
  have S0 := hideI (Tw.begin w #[.int .i64 k, .int .u64 xn, .int .i64 xb, .bool xs, .string nm, .slice ka kl kc] #[.int .u64 n1, .int .i64 y1, .bool s1] #[.int .u64 0, .int .i64 0, .bool false] 27 46 46)
  have a0 := (unhideI S0).A.2.1 0 _ rfl
  have a2 := (unhideI S0).A.2.1 2 _ rfl
  have a3 := (unhideI S0).A.2.1 3 _ rfl
  obtain ⟨c0, c1, c2⟩ := (unhideI S0).B.at3
  have hsA := (unhideI S0).A.1
  have hsB := (unhideI S0).B.1
  generalize hW0 : ((w.alloc (.cells #[.int .i64 k, .int .u64 xn, .int .i64 xb, .bool xs, .string nm, .slice ka kl kc] 27)).alloc (.cells #[.int .u64 n1, .int .i64 y1, .bool s1] 46)).alloc (.cells #[.int .u64 0, .int .i64 0, .bool false] 46) = W0 at *
  go_enter Tryz.func24, Tryz.ntmps24
  go_wp2_with fail
  refine (unhideI HU _).mono ?_
  rintro e w1 ⟨rfl, k1⟩
  have S1 := hideI ((unhideI S0).next k1)
  have ka1 := below_a w1 (.cells #[.int .i64 B, .bool S] 24)
  have SR := hideI ((unhideI S1).next ka1)
  clear k1 S0 a0 a2 a3 c0 c1 c2 hsA hsB HU ka1
  obtain ⟨z0, z1, z2⟩ := (unhideI SR).R.at3
  have zf := (unhideI SR).R.2.2
  have zl := (unhideI SR).R.1
  go_wp2_with fail
  obtain ⟨p0, p1, p2⟩ := ((unhideI SR).R.three (.int .u64 V) (.int .i64 B) (.bool S)).at3
  exact bodyPost_ret (v := .tuple #[.agg #[.int .u64 V, .int .i64 B, .bool S], .int .i64 0]) (by simp [results, Tryz.results24, go_sem, p0, p1, p2]) rfl ⟨rfl, below_3 (unhideI SR).d (by omega) _ _ _⟩
set_option maxHeartbeats 1000000 in
theorem wone_cast (xn xb n1 y1 V : Int) (xs s1 : Bool) (nm : ByteArray) (ka : Option Addr) (kl kc : Nat)
    (HC : ∀ w : World, Calls Tryz.prog 39 #[.int .u64 n1, .agg #[.int .i64 y1, .bool s1], .agg #[.int .i64 xb, .bool xs]] w fun e w' => e = .returned (.int .u64 V) ∧ Below w.heap.size w w') (w : World) :
    Calls Tryz.prog 24 #[.agg #[.int .i64 5, .int .u64 xn, .int .i64 xb, .bool xs, .string nm, .slice ka kl kc], .agg #[.int .u64 n1, .int .i64 y1, .bool s1]] w fun e w' => e = .returned (.tuple #[.agg #[.int .u64 V, .int .i64 xb, .bool xs], .int .i64 0]) ∧ Below w.heap.size w w' := by
  have HC := hideI HC
  obtain ⟨k, hk⟩ : ∃ k : Int, k = 5 := ⟨5, rfl⟩
  rw [← hk]
  have S0 := hideI (Tw.begin w #[.int .i64 k, .int .u64 xn, .int .i64 xb, .bool xs, .string nm, .slice ka kl kc] #[.int .u64 n1, .int .i64 y1, .bool s1] #[.int .u64 0, .int .i64 0, .bool false] 27 46 46)
  have a0 := (unhideI S0).A.2.1 0 _ rfl
  have a2 := (unhideI S0).A.2.1 2 _ rfl
  have a3 := (unhideI S0).A.2.1 3 _ rfl
  obtain ⟨c0, c1, c2⟩ := (unhideI S0).B.at3
  have hsA := (unhideI S0).A.1
  have hsB := (unhideI S0).B.1
  generalize hW0 : ((w.alloc (.cells #[.int .i64 k, .int .u64 xn, .int .i64 xb, .bool xs, .string nm, .slice ka kl kc] 27)).alloc (.cells #[.int .u64 n1, .int .i64 y1, .bool s1] 46)).alloc (.cells #[.int .u64 0, .int .i64 0, .bool false] 46) = W0 at *
  rw [hk] at a0
  subst hk
  go_enter Tryz.func24, Tryz.ntmps24
  go_wp2_with fail
  refine reg_start (fun W => W.cell? ⟨w.heap.size, 2, none⟩ = some (.int .i64 xb) ∧ W.cell? ⟨w.heap.size, 3, none⟩ = some (.bool xs) ∧ W.cell? ⟨w.heap.size + 1, 0, none⟩ = some (.int .u64 n1) ∧ W.cell? ⟨w.heap.size + 1, 1, none⟩ = some (.int .i64 y1) ∧ W.cell? ⟨w.heap.size + 1, 2, none⟩ = some (.bool s1)) (by kernel_rfl) ?_
  have S1 := hideI ((unhideI S0).next (Below.refl _ _).drew)
  clear S0 a0 a2 a3 c0 c1 c2
  generalize W0.drew = W1 at *
  have CL := hideI (fun (W : World) (r : List Value) (s : Tw w W [.int .i64 5, .int .u64 xn, .int .i64 xb, .bool xs, .string nm, .slice ka kl kc] [.int .u64 n1, .int .i64 y1, .bool s1] r) => (⟨s.A.2.1 2 _ rfl, s.A.2.1 3 _ rfl, s.B.2.1 0 _ rfl, s.B.2.1 1 _ rfl, s.B.2.1 2 _ rfl⟩ : W.cell? ⟨w.heap.size, 2, none⟩ = some (.int .i64 xb) ∧ W.cell? ⟨w.heap.size, 3, none⟩ = some (.bool xs) ∧ W.cell? ⟨w.heap.size + 1, 0, none⟩ = some (.int .u64 n1) ∧ W.cell? ⟨w.heap.size + 1, 1, none⟩ = some (.int .i64 y1) ∧ W.cell? ⟨w.heap.size + 1, 2, none⟩ = some (.bool s1)))
  refine reg_seg 0 6 6 (by kernel_rfl) (by decide) (by kernel_rfl) (by kernel_rfl) (fun _ _ _ _ _ h => h) ?_
  simp only [List.take_succ_cons, List.take_zero, List.drop_succ_cons, List.drop_zero]
  repeat (refine wpSteady_step (fun K hK => ?_); go_simp; first | (refine steady_of ?_ (fun W hW => ?_) (hK _ ?_); rotate_left; (obtain ⟨d0, d1, d2, d3, d4⟩ := hW; go_simp; first | done | rfl); clear hK K) | (refine hK _ ?_; clear hK K))
  refine wpSteady_nil ?_
  refine reg_seg 7 2 4 (by kernel_rfl) (by decide) (by kernel_rfl) (by kernel_rfl) (fun _ _ _ _ _ h => h) ?_
  simp only [List.take_succ_cons, List.take_zero, List.drop_succ_cons, List.drop_zero]
  repeat (refine wpSteady_step (fun K hK => ?_); go_simp; first | (refine steady_of ?_ (fun W hW => ?_) (hK _ ?_); rotate_left; (obtain ⟨d0, d1, d2, d3, d4⟩ := hW; go_simp; first | done | rfl); clear hK K) | (refine hK _ ?_; clear hK K))
  refine wpSteady_nil ?_
  refine reg_one 6 3 (by kernel_rfl) (by kernel_rfl) (unhideI CL _ _ (unhideI S1)) ?_
  simp only [List.take_succ_cons, List.take_zero, List.drop_succ_cons, List.drop_zero]
  go_wp2_with fail
  refine (unhideI HC _).mono ?_
  rintro e w2 ⟨rfl, k2⟩
  have SR := hideI ((unhideI S1).next k2)
  clear k2 S1 HC
  obtain ⟨z0, z1, z2⟩ := (unhideI SR).R.at3
  have zf := (unhideI SR).R.2.2
  have zl := (unhideI SR).R.1
  go_wp2_with fail
  first | refine next_nil ?_ | refine next_go ?_
  refine reg_seg 9 1 2 (by kernel_rfl) (by decide) (by kernel_rfl) (by kernel_rfl) (fun _ _ _ _ _ h => h) ?_
  simp only [List.take_succ_cons, List.take_zero, List.drop_succ_cons, List.drop_zero]
  repeat (refine wpSteady_step (fun K hK => ?_); go_simp; first | (refine steady_of ?_ (fun W hW => ?_) (hK _ ?_); rotate_left; (obtain ⟨d0, d1, d2, d3, d4⟩ := hW; go_simp; first | done | rfl); clear hK K) | (refine hK _ ?_; clear hK K))
  refine wpSteady_nil ?_
  refine reg_one 10 1 (by kernel_rfl) (by kernel_rfl) (unhideI CL _ _ (unhideI SR)) ?_
  simp only [List.take_succ_cons, List.take_zero, List.drop_succ_cons, List.drop_zero]
  go_wp2_with fail
  first | refine next_nil ?_ | refine next_go ?_
  have SP := hideI ((unhideI SR).put (.int .u64 V) (.int .i64 xb) (.bool xs))
  obtain ⟨p0, p1, p2⟩ := (unhideI SP).R.at3
  refine reg_one 11 0 (by kernel_rfl) (by kernel_rfl) (unhideI CL _ _ (unhideI SP)) ?_
  simp only [List.take_succ_cons, List.take_zero, List.drop_succ_cons, List.drop_zero]
  go_wp2_with fail
  first | refine next_nil ?_ | refine next_go ?_
  refine reg_end (by kernel_rfl) (unhideI CL _ _ (unhideI SP)) ?_
  go_wp2_with fail
  exact bodyPost_ret (v := .tuple #[.agg #[.int .u64 V, .int .i64 xb, .bool xs], .int .i64 0]) (by simp [results, Tryz.results24, go_sem, p0, p1, p2]) rfl ⟨rfl, (unhideI SP).d⟩
end Go.Proofs.YtjddpfojllefgaaGreat
