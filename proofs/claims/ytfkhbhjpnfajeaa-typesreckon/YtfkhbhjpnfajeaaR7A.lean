/-
  The document's answer on types of numbers: Valid, Wide, Meant and Convert.
-/
import Derived.Test.YtfkhbhjpnfajeaaTyC
import Derived.Test.YtfkhbhjpnfajeaaTyF
import Derived.Test.YtfkhbhjpnfajeaaBigN
import Derived.Test.YtfkhbhjpnfajeaaBigD
namespace Go.Proofs.Ytfkhbhjpnfajeaa
open Go.RowKit
set_option linter.unusedSimpArgs false
set_option linter.unusedVariables false

theorem rvalid7_yes (b : Int) (s : Bool) (w : World) (h : IsW b) : Calls Try.prog 18 #[.agg #[.int .i64 b, .bool s]] w fun e w' => e = .returned (.bool true) ∧ Below w.heap.size w w' := by
  go_enter Try.func18, Try.ntmps18
  go_wp2_with (go_at_call 47; refine (rwidth_yes _ h _).mono ?_; rintro e w1 ⟨rfl, k1⟩)
  go_ret
  exact ⟨rfl, bT (below_a _ _) k1⟩
theorem rvalid7_no (b : Int) (s : Bool) (w : World) (h : NoW b) : Calls Try.prog 18 #[.agg #[.int .i64 b, .bool s]] w fun e w' => e = .returned (.bool false) ∧ Below w.heap.size w w' := by
  go_enter Try.func18, Try.ntmps18
  go_wp2_with (go_at_call 47; refine (rwidth_no _ _ h).mono ?_; rintro e w1 ⟨rfl, k1⟩)
  go_ret
  exact ⟨rfl, bT (below_a _ _) k1⟩
theorem rwide_any (b : Int) (s : Bool) (w : World) : Calls Try.prog 19 #[.agg #[.int .i64 b, .bool s]] w fun e w' => e = .returned (.agg #[.int .i64 (pb b), .bool (ps b s)]) ∧ Below w.heap.size w w' := by
  by_cases h : b < 16
  · have e1 : pb b = 16 := by unfold pb; rw [if_pos h]
    have e2 : ps b s = true := by unfold ps; rw [if_pos h]
    rw [e1, e2]
    have h0 : decide (b < 16) = true := by simpa using h
    clear e1 e2
    go_enter Try.func19, Try.ntmps19
    go_wp2
    exact bodyPost_ret (v := .agg #[.int .i64 16, .bool true]) (by simp [results, Try.results19, go_sem]) rfl ⟨rfl, (by repeat (first | exact (Below.refl _ _) | refine Below.setCell ?_ (by first | exact Nat.le_refl _ | (simp; done) | omega | (simp; omega)) _ | refine Below.alloc ?_ (by first | (simp; done) | omega | (simp; omega)) _))⟩
  · have e1 : pb b = b := by unfold pb; rw [if_neg h]
    have e2 : ps b s = s := by unfold ps; rw [if_neg h]
    rw [e1, e2]
    have h0 : decide (b < 16) = false := by simpa using h
    clear e1 e2
    go_enter Try.func19, Try.ntmps19
    go_wp2
    exact bodyPost_ret (v := .agg #[.int .i64 b, .bool s]) (by simp [results, Try.results19, go_sem]) rfl ⟨rfl, (by repeat (first | exact (Below.refl _ _) | refine Below.setCell ?_ (by first | exact Nat.le_refl _ | (simp; done) | omega | (simp; omega)) _ | refine Below.alloc ?_ (by first | (simp; done) | omega | (simp; omega)) _))⟩
theorem rmeant_any (x b : Int) (s : Bool) (w : World) (h : IsW b) (hx : U x) : Calls Try.prog 23 #[.int .u64 x, .agg #[.int .i64 b, .bool s]] w fun e w' => ∃ p, e = .returned (.pointer (some ⟨p, 0, none⟩)) ∧ w.heap.size ≤ p ∧ Below w.heap.size w w' ∧ Big w' p (mn s b x) := by
  go_enter Try.func23, Try.ntmps23
  go_wp2_with fail
  refine (meant_any x b s _ h hx).mono ?_
  rintro e w1 ⟨p, rfl, hp, k1, B1⟩
  have hp' : w.heap.size ≤ p := by simp at hp; omega
  have K1 := hide (bT (below_a _ _) k1)
  have HB := hide B1
  clear k1 B1 hp
  go_wp2_with fail
  go_ret
  exact ⟨p, rfl, hp', unhide K1, unhide HB⟩
set_option maxHeartbeats 1000000 in
theorem rconvert_any (x a : Int) (s : Bool) (b : Int) (t : Bool) (w : World) (ha : IsW a) (hb : IsW b) (hx : U x) : Calls Try.prog 21 #[.int .u64 x, .agg #[.int .i64 a, .bool s], .agg #[.int .i64 b, .bool t]] w fun e w' => e = .returned (.int .u64 (conv x a s b)) ∧ Below w.heap.size w w' := by
  have MA := hide (fun (w : World) => rmeant_any x a s w ha hx)
  have xa := mn_abs ha s x
  have b6 : (18446744073709551616 : Nat) < 4294967296 ^ 6 := by decide
  unfold conv
  generalize mn s a x = M at *
  go_enter Try.func21, Try.ntmps21
  go_wp2_with fail
  have R0 := hide (Duo.new (w := w) (T := 24) (a0 := .int .i64 a) (a1 := .bool s) (b0 := .int .i64 b) (b1 := .bool t) (Below.refl _ _))
  generalize (w.alloc (.cells #[.int .i64 a, .bool s] 24)).alloc (.cells #[.int .i64 b, .bool t] 24) = w0 at *
  obtain ⟨x0, x1⟩ := (unhide R0).A.at2
  obtain ⟨x2, x3⟩ := (unhide R0).B.at2
  refine reg_start (fun W => W.cell? ⟨w.heap.size, 0, none⟩ = some (.int .i64 a) ∧ W.cell? ⟨w.heap.size, 1, none⟩ = some (.bool s) ∧ W.cell? ⟨w.heap.size + 1, 0, none⟩ = some (.int .i64 b)) (by kernel_rfl) ?_
  refine reg_seg 0 2 5 (by kernel_rfl) (by decide) (by kernel_rfl) (by kernel_rfl) (fun _ _ _ _ _ h => h) ?_
  simp only [List.take_succ_cons, List.take_zero, List.drop_succ_cons, List.drop_zero]
  repeat (refine wpSteady_step (fun K hK => ?_); go_simp; first | (refine steady_of ?_ (fun W hW => ?_) (hK _ ?_); rotate_left; (obtain ⟨c1, c2, c3⟩ := hW; go_simp; first | done | rfl); clear hK K) | (refine hK _ ?_; clear hK K))
  refine wpSteady_nil ?_
  refine reg_seg 3 2 3 (by kernel_rfl) (by decide) (by kernel_rfl) (by kernel_rfl) (fun _ _ _ _ _ h => h) ?_
  simp only [List.take_succ_cons, List.take_zero, List.drop_succ_cons, List.drop_zero]
  repeat (refine wpSteady_step (fun K hK => ?_); go_simp; first | (refine steady_of ?_ (fun W hW => ?_) (hK _ ?_); rotate_left; (obtain ⟨c1, c2, c3⟩ := hW; go_simp; first | done | rfl); clear hK K) | (refine hK _ ?_; clear hK K))
  refine wpSteady_nil ?_
  refine reg_one 2 2 (by kernel_rfl) (by kernel_rfl) ⟨x0, x1, x2⟩ ?_
  simp only [List.take_succ_cons, List.take_zero, List.drop_succ_cons, List.drop_zero]
  go_wp2_with fail
  refine (unhide MA _).mono ?_
  rintro e w2 ⟨p, rfl, hp, k2, G2⟩
  clear x0 x1 x2 x3
  have k2' := of_drew k2
  have R2 := hide ((unhide R0).step k2')
  have HB2 := hide G2
  clear R0 k2 k2' G2
  obtain ⟨x0, x1⟩ := (unhide R2).A.at2
  obtain ⟨x2, x3⟩ := (unhide R2).B.at2
  go_wp2_with fail
  first | refine next_nil ?_ | refine next_go ?_
  refine reg_one 5 1 (by kernel_rfl) (by kernel_rfl) ⟨x0, x1, x2⟩ ?_
  simp only [List.take_succ_cons, List.take_zero, List.drop_succ_cons, List.drop_zero]
  go_wp2_with fail
  refine (fitW p M b _ (unhide HB2) hb (by omega)).mono ?_
  rintro e w3 ⟨rfl, k3⟩
  clear x0 x1 x2 x3
  have R := hide ((unhide R2).step k3)
  clear R2 k3 HB2
  obtain ⟨x0, x1⟩ := (unhide R).A.at2
  obtain ⟨x2, x3⟩ := (unhide R).B.at2
  go_wp2_with fail
  first | refine next_nil ?_ | refine next_go ?_
  refine reg_one 6 0 (by kernel_rfl) (by kernel_rfl) ⟨x0, x1, x2⟩ ?_
  simp only [List.take_succ_cons, List.take_zero, List.drop_succ_cons, List.drop_zero]
  go_wp2_with fail
  first | refine next_nil ?_ | refine next_go ?_
  refine reg_end (by kernel_rfl) ⟨x0, x1, x2⟩ ?_
  go_wp2_with fail
  go_ret
  exact ⟨rfl, (unhide R).bel⟩
end Go.Proofs.Ytfkhbhjpnfajeaa
