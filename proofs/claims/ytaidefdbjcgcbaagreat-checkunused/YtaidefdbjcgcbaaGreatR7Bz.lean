/-
  The document's answer on types of numbers: Common.
-/
import Derived.Test.YtaidefdbjcgcbaaGreatBigNz
import Derived.Test.YtaidefdbjcgcbaaGreatRegz
import Derived.BigRegion
import Derived.Deep.DeepCutAuto
namespace Go.Proofs.YtaidefdbjcgcbaaGreat
open Go.RowKit
set_option linter.unusedSimpArgs false
set_option linter.unusedVariables false

/-- What is there on the way: three blocks, and up to two more. -/
structure Sq (w : World) (a0 a1 b0 b1 : Value) (f5 f6 : Bool) (p5 p6 : Nat) (W : World) : Prop where
  tri : Tri w W a0 a1 b0 b1 (.int .i64 0) (.bool false)
  b5 : f5 = true → w.heap.size + 2 < p5 ∧ Box W p5 [.int .i64 0, .bool false]
  b6 : f6 = true → w.heap.size + 2 < p6 ∧ Box W p6 [.int .i64 0, .bool false]
  ne : f5 = true → f6 = true → p5 ≠ p6
section
variable {w W W' : World} {a0 a1 b0 b1 : Value} {f5 f6 : Bool} {p5 p6 : Nat}
theorem Sq.call (h : Sq w a0 a1 b0 b1 f5 f6 p5 p6 W) (k : Below W.heap.size W W') : Sq w a0 a1 b0 b1 f5 f6 p5 p6 W' := ⟨h.tri.step k, fun e => ⟨(h.b5 e).1, (h.b5 e).2.step k⟩, fun e => ⟨(h.b6 e).1, (h.b6 e).2.step k⟩, h.ne⟩
theorem Sq.op4 {T : TypeId} (h : Sq w a0 a1 b0 b1 false f6 p5 p6 W) : Sq w a0 a1 b0 b1 true f6 W.heap.size p6 (W.alloc (.cells #[.int .i64 0, .bool false] T)) := by
  have k := below_a W (.cells #[.int .i64 0, .bool false] T)
  have hl := h.tri.C.1
  exact ⟨h.tri.step k, fun _ => ⟨by omega, Box.new W #[.int .i64 0, .bool false] T⟩, fun e => ⟨(h.b6 e).1, (h.b6 e).2.step k⟩, fun _ e => by have := (h.b6 e).2.1; omega⟩
theorem Sq.op5 {T : TypeId} (h : Sq w a0 a1 b0 b1 f5 false p5 p6 W) : Sq w a0 a1 b0 b1 f5 true p5 W.heap.size (W.alloc (.cells #[.int .i64 0, .bool false] T)) := by
  have k := below_a W (.cells #[.int .i64 0, .bool false] T)
  have hl := h.tri.C.1
  exact ⟨h.tri.step k, fun e => ⟨(h.b5 e).1, (h.b5 e).2.step k⟩, fun _ => ⟨by omega, Box.new W #[.int .i64 0, .bool false] T⟩, fun e _ => by have := (h.b5 e).2.1; omega⟩
end
set_option maxHeartbeats 4000000 in
theorem rcommon_any (a : Int) (s : Bool) (b : Int) (t : Bool) (w : World) : Calls Tryz.prog 67 #[.agg #[.int .i64 a, .bool s], .agg #[.int .i64 b, .bool t]] w fun e w' => e = .returned (.agg #[.int .i64 (cb a b), .bool (cs a s b t)]) ∧ Below w.heap.size w w' := by
  have e1 : Hid (cb a b = if pb a < pb b then pb b else pb a) := rfl
  have e2 : Hid (cs a s b t = if pb b < pb a then ps a s else if pb a < pb b then ps b t else ps a s && ps b t) := rfl
  have HA := hide (rwide_any a s)
  have HB := hide (rwide_any b t)
  generalize cb a b = X at *
  generalize cs a s b t = Y at *
  generalize pb a = A at *
  generalize pb b = B at *
  generalize ps a s = S at *
  generalize ps b t = U at *
  go_enter Tryz.func67, Tryz.ntmps67
  go_upto_region 1 with fail
  have T : Hid (Sq w (.int .i64 a) (.bool s) (.int .i64 b) (.bool t) false false 0 0 ((((w.alloc (.cells #[.int .i64 a, .bool s] 34)).alloc (.cells #[.int .i64 b, .bool t] 34)).alloc (.cells #[.int .i64 0, .bool false] 34)).drew)) := ⟨Tri.new (Below.refl _ _), (fun h => by cases h), (fun h => by cases h), (fun h => by cases h)⟩
  have HC : Hid (∀ W : World, Tri w W (.int .i64 a) (.bool s) (.int .i64 b) (.bool t) (.int .i64 0) (.bool false) → (W.cell? ⟨w.heap.size, 0, none⟩ = some (.int .i64 a) ∧ W.cell? ⟨w.heap.size, 1, none⟩ = some (.bool s) ∧ W.cell? ⟨w.heap.size + 1, 0, none⟩ = some (.int .i64 b) ∧ W.cell? ⟨w.heap.size + 1, 1, none⟩ = some (.bool t))) := fun W h => ⟨h.A.at2.1, h.A.at2.2, h.B.at2.1, h.B.at2.2⟩
  refine reg_start (fun W => W.cell? ⟨w.heap.size, 0, none⟩ = some (.int .i64 a) ∧ W.cell? ⟨w.heap.size, 1, none⟩ = some (.bool s) ∧ W.cell? ⟨w.heap.size + 1, 0, none⟩ = some (.int .i64 b) ∧ W.cell? ⟨w.heap.size + 1, 1, none⟩ = some (.bool t)) (by kernel_rfl) ?_
  generalize ((((w.alloc (.cells #[.int .i64 a, .bool s] 34)).alloc (.cells #[.int .i64 b, .bool t] 34)).alloc (.cells #[.int .i64 0, .bool false] 34)).drew) = W at *
  refine reg_seg 0 1 7 (by kernel_rfl) (by decide) (by kernel_rfl) (by kernel_rfl) (fun _ _ _ _ _ h => h) ?_
  simp only [List.take_succ_cons, List.take_zero, List.drop_succ_cons, List.drop_zero]
  repeat (refine wpSteady_step (fun K hK => ?_); go_simp; first | (refine steady_of ?_ (fun W hW => ?_) (hK _ ?_); rotate_left; (obtain ⟨c1, c2, c3, c4⟩ := hW; go_simp; first | done | rfl); clear hK K) | (refine hK _ ?_; clear hK K))
  refine wpSteady_nil ?_
  refine reg_seg 2 1 6 (by kernel_rfl) (by decide) (by kernel_rfl) (by kernel_rfl) (fun _ _ _ _ _ h => h) ?_
  simp only [List.take_succ_cons, List.take_zero, List.drop_succ_cons, List.drop_zero]
  repeat (refine wpSteady_step (fun K hK => ?_); go_simp; first | (refine steady_of ?_ (fun W hW => ?_) (hK _ ?_); rotate_left; (obtain ⟨c1, c2, c3, c4⟩ := hW; go_simp; first | done | rfl); clear hK K) | (refine hK _ ?_; clear hK K))
  refine wpSteady_nil ?_
  apply reg_meet2 (R := fun p5 p6 W => Sq w (.int .i64 a) (.bool s) (.int .i64 b) (.bool t) true true p5 p6 W)
  · intro hm
    refine reg_three 1 4 5 5 (by kernel_rfl) (by kernel_rfl) ((unhide HC) W (unhide T).tri) ?_ ?_ ?_
    · skip
      simp only [List.take_succ_cons, List.take_zero, List.drop_succ_cons, List.drop_zero]
      go_wp2_with fail
      refine (unhide HA _).mono ?_
      rintro e wn ⟨rfl, kn⟩
      have T' := hide ((unhide T).call kn)
      have T := T'
      clear kn T'
      generalize wn = W at *
      go_wp2_with fail
      first | refine next_nil ?_ | refine next_go ?_
      refine reg_three 3 4 5 4 (by kernel_rfl) (by kernel_rfl) ((unhide HC) W (unhide T).tri) ?_ ?_ ?_
      · skip
        simp only [List.take_succ_cons, List.take_zero, List.drop_succ_cons, List.drop_zero]
        go_wp2_with fail
        refine (unhide HB _).mono ?_
        rintro e wn ⟨rfl, kn⟩
        have T' := hide ((unhide T).call kn)
        have T := T'
        clear kn T'
        generalize wn = W at *
        go_wp2_with fail
        first | refine next_nil ?_ | refine next_go ?_
        refine reg_two 4 5 3 (by kernel_rfl) (by kernel_rfl) ((unhide HC) W (unhide T).tri) ?_ ?_
        · skip
          simp only [List.take_succ_cons, List.take_zero, List.drop_succ_cons, List.drop_zero]
          go_wp2_with fail
          have T' := hide ((unhide T).op4 (T := 34))
          have T := T'
          clear T'
          generalize W.alloc (.cells #[.int .i64 0, .bool false] 34) = W' at *
          generalize W.heap.size = p5 at *
          generalize W' = W at *
          first | refine next_nil ?_ | refine next_go ?_
          refine reg_one 5 2 (by kernel_rfl) (by kernel_rfl) ((unhide HC) W (unhide T).tri) ?_
          simp only [List.take_succ_cons, List.take_zero, List.drop_succ_cons, List.drop_zero]
          go_wp2_with fail
          have T' := hide ((unhide T).op5 (T := 34))
          have T := T'
          clear T'
          generalize W.alloc (.cells #[.int .i64 0, .bool false] 34) = W' at *
          generalize W.heap.size = p6 at *
          generalize W' = W at *
          first | refine next_nil ?_ | refine next_go ?_
          exact hm p5 p6 W (unhide T)
        · skip
          simp only [List.take_succ_cons, List.take_zero, List.drop_succ_cons, List.drop_zero]
          go_wp2_with fail
          have T' := hide ((unhide T).op5 (T := 34))
          have T := T'
          clear T'
          generalize W.alloc (.cells #[.int .i64 0, .bool false] 34) = W' at *
          generalize W.heap.size = p6 at *
          generalize W' = W at *
          first | refine next_nil ?_ | refine next_go ?_
          refine reg_one 4 2 (by kernel_rfl) (by kernel_rfl) ((unhide HC) W (unhide T).tri) ?_
          simp only [List.take_succ_cons, List.take_zero, List.drop_succ_cons, List.drop_zero]
          go_wp2_with fail
          have T' := hide ((unhide T).op4 (T := 34))
          have T := T'
          clear T'
          generalize W.alloc (.cells #[.int .i64 0, .bool false] 34) = W' at *
          generalize W.heap.size = p5 at *
          generalize W' = W at *
          first | refine next_nil ?_ | refine next_go ?_
          exact hm p5 p6 W (unhide T)
      · skip
        simp only [List.take_succ_cons, List.take_zero, List.drop_succ_cons, List.drop_zero]
        go_wp2_with fail
        have T' := hide ((unhide T).op4 (T := 34))
        have T := T'
        clear T'
        generalize W.alloc (.cells #[.int .i64 0, .bool false] 34) = W' at *
        generalize W.heap.size = p5 at *
        generalize W' = W at *
        first | refine next_nil ?_ | refine next_go ?_
        refine reg_two 3 5 3 (by kernel_rfl) (by kernel_rfl) ((unhide HC) W (unhide T).tri) ?_ ?_
        · skip
          simp only [List.take_succ_cons, List.take_zero, List.drop_succ_cons, List.drop_zero]
          go_wp2_with fail
          refine (unhide HB _).mono ?_
          rintro e wn ⟨rfl, kn⟩
          have T' := hide ((unhide T).call kn)
          have T := T'
          clear kn T'
          generalize wn = W at *
          go_wp2_with fail
          first | refine next_nil ?_ | refine next_go ?_
          refine reg_one 5 2 (by kernel_rfl) (by kernel_rfl) ((unhide HC) W (unhide T).tri) ?_
          simp only [List.take_succ_cons, List.take_zero, List.drop_succ_cons, List.drop_zero]
          go_wp2_with fail
          have T' := hide ((unhide T).op5 (T := 34))
          have T := T'
          clear T'
          generalize W.alloc (.cells #[.int .i64 0, .bool false] 34) = W' at *
          generalize W.heap.size = p6 at *
          generalize W' = W at *
          first | refine next_nil ?_ | refine next_go ?_
          exact hm p5 p6 W (unhide T)
        · skip
          simp only [List.take_succ_cons, List.take_zero, List.drop_succ_cons, List.drop_zero]
          go_wp2_with fail
          have T' := hide ((unhide T).op5 (T := 34))
          have T := T'
          clear T'
          generalize W.alloc (.cells #[.int .i64 0, .bool false] 34) = W' at *
          generalize W.heap.size = p6 at *
          generalize W' = W at *
          first | refine next_nil ?_ | refine next_go ?_
          refine reg_one 3 2 (by kernel_rfl) (by kernel_rfl) ((unhide HC) W (unhide T).tri) ?_
          simp only [List.take_succ_cons, List.take_zero, List.drop_succ_cons, List.drop_zero]
          go_wp2_with fail
          refine (unhide HB _).mono ?_
          rintro e wn ⟨rfl, kn⟩
          have T' := hide ((unhide T).call kn)
          have T := T'
          clear kn T'
          generalize wn = W at *
          go_wp2_with fail
          first | refine next_nil ?_ | refine next_go ?_
          exact hm p5 p6 W (unhide T)
      · skip
        simp only [List.take_succ_cons, List.take_zero, List.drop_succ_cons, List.drop_zero]
        go_wp2_with fail
        have T' := hide ((unhide T).op5 (T := 34))
        have T := T'
        clear T'
        generalize W.alloc (.cells #[.int .i64 0, .bool false] 34) = W' at *
        generalize W.heap.size = p6 at *
        generalize W' = W at *
        first | refine next_nil ?_ | refine next_go ?_
        refine reg_two 3 4 3 (by kernel_rfl) (by kernel_rfl) ((unhide HC) W (unhide T).tri) ?_ ?_
        · skip
          simp only [List.take_succ_cons, List.take_zero, List.drop_succ_cons, List.drop_zero]
          go_wp2_with fail
          refine (unhide HB _).mono ?_
          rintro e wn ⟨rfl, kn⟩
          have T' := hide ((unhide T).call kn)
          have T := T'
          clear kn T'
          generalize wn = W at *
          go_wp2_with fail
          first | refine next_nil ?_ | refine next_go ?_
          refine reg_one 4 2 (by kernel_rfl) (by kernel_rfl) ((unhide HC) W (unhide T).tri) ?_
          simp only [List.take_succ_cons, List.take_zero, List.drop_succ_cons, List.drop_zero]
          go_wp2_with fail
          have T' := hide ((unhide T).op4 (T := 34))
          have T := T'
          clear T'
          generalize W.alloc (.cells #[.int .i64 0, .bool false] 34) = W' at *
          generalize W.heap.size = p5 at *
          generalize W' = W at *
          first | refine next_nil ?_ | refine next_go ?_
          exact hm p5 p6 W (unhide T)
        · skip
          simp only [List.take_succ_cons, List.take_zero, List.drop_succ_cons, List.drop_zero]
          go_wp2_with fail
          have T' := hide ((unhide T).op4 (T := 34))
          have T := T'
          clear T'
          generalize W.alloc (.cells #[.int .i64 0, .bool false] 34) = W' at *
          generalize W.heap.size = p5 at *
          generalize W' = W at *
          first | refine next_nil ?_ | refine next_go ?_
          refine reg_one 3 2 (by kernel_rfl) (by kernel_rfl) ((unhide HC) W (unhide T).tri) ?_
          simp only [List.take_succ_cons, List.take_zero, List.drop_succ_cons, List.drop_zero]
          go_wp2_with fail
          refine (unhide HB _).mono ?_
          rintro e wn ⟨rfl, kn⟩
          have T' := hide ((unhide T).call kn)
          have T := T'
          clear kn T'
          generalize wn = W at *
          go_wp2_with fail
          first | refine next_nil ?_ | refine next_go ?_
          exact hm p5 p6 W (unhide T)
    · skip
      simp only [List.take_succ_cons, List.take_zero, List.drop_succ_cons, List.drop_zero]
      go_wp2_with fail
      have T' := hide ((unhide T).op4 (T := 34))
      have T := T'
      clear T'
      generalize W.alloc (.cells #[.int .i64 0, .bool false] 34) = W' at *
      generalize W.heap.size = p5 at *
      generalize W' = W at *
      first | refine next_nil ?_ | refine next_go ?_
      refine reg_two 1 5 4 (by kernel_rfl) (by kernel_rfl) ((unhide HC) W (unhide T).tri) ?_ ?_
      · skip
        simp only [List.take_succ_cons, List.take_zero, List.drop_succ_cons, List.drop_zero]
        go_wp2_with fail
        refine (unhide HA _).mono ?_
        rintro e wn ⟨rfl, kn⟩
        have T' := hide ((unhide T).call kn)
        have T := T'
        clear kn T'
        generalize wn = W at *
        go_wp2_with fail
        first | refine next_nil ?_ | refine next_go ?_
        refine reg_two 3 5 3 (by kernel_rfl) (by kernel_rfl) ((unhide HC) W (unhide T).tri) ?_ ?_
        · skip
          simp only [List.take_succ_cons, List.take_zero, List.drop_succ_cons, List.drop_zero]
          go_wp2_with fail
          refine (unhide HB _).mono ?_
          rintro e wn ⟨rfl, kn⟩
          have T' := hide ((unhide T).call kn)
          have T := T'
          clear kn T'
          generalize wn = W at *
          go_wp2_with fail
          first | refine next_nil ?_ | refine next_go ?_
          refine reg_one 5 2 (by kernel_rfl) (by kernel_rfl) ((unhide HC) W (unhide T).tri) ?_
          simp only [List.take_succ_cons, List.take_zero, List.drop_succ_cons, List.drop_zero]
          go_wp2_with fail
          have T' := hide ((unhide T).op5 (T := 34))
          have T := T'
          clear T'
          generalize W.alloc (.cells #[.int .i64 0, .bool false] 34) = W' at *
          generalize W.heap.size = p6 at *
          generalize W' = W at *
          first | refine next_nil ?_ | refine next_go ?_
          exact hm p5 p6 W (unhide T)
        · skip
          simp only [List.take_succ_cons, List.take_zero, List.drop_succ_cons, List.drop_zero]
          go_wp2_with fail
          have T' := hide ((unhide T).op5 (T := 34))
          have T := T'
          clear T'
          generalize W.alloc (.cells #[.int .i64 0, .bool false] 34) = W' at *
          generalize W.heap.size = p6 at *
          generalize W' = W at *
          first | refine next_nil ?_ | refine next_go ?_
          refine reg_one 3 2 (by kernel_rfl) (by kernel_rfl) ((unhide HC) W (unhide T).tri) ?_
          simp only [List.take_succ_cons, List.take_zero, List.drop_succ_cons, List.drop_zero]
          go_wp2_with fail
          refine (unhide HB _).mono ?_
          rintro e wn ⟨rfl, kn⟩
          have T' := hide ((unhide T).call kn)
          have T := T'
          clear kn T'
          generalize wn = W at *
          go_wp2_with fail
          first | refine next_nil ?_ | refine next_go ?_
          exact hm p5 p6 W (unhide T)
      · skip
        simp only [List.take_succ_cons, List.take_zero, List.drop_succ_cons, List.drop_zero]
        go_wp2_with fail
        have T' := hide ((unhide T).op5 (T := 34))
        have T := T'
        clear T'
        generalize W.alloc (.cells #[.int .i64 0, .bool false] 34) = W' at *
        generalize W.heap.size = p6 at *
        generalize W' = W at *
        first | refine next_nil ?_ | refine next_go ?_
        refine reg_one 1 3 (by kernel_rfl) (by kernel_rfl) ((unhide HC) W (unhide T).tri) ?_
        simp only [List.take_succ_cons, List.take_zero, List.drop_succ_cons, List.drop_zero]
        go_wp2_with fail
        refine (unhide HA _).mono ?_
        rintro e wn ⟨rfl, kn⟩
        have T' := hide ((unhide T).call kn)
        have T := T'
        clear kn T'
        generalize wn = W at *
        go_wp2_with fail
        first | refine next_nil ?_ | refine next_go ?_
        refine reg_one 3 2 (by kernel_rfl) (by kernel_rfl) ((unhide HC) W (unhide T).tri) ?_
        simp only [List.take_succ_cons, List.take_zero, List.drop_succ_cons, List.drop_zero]
        go_wp2_with fail
        refine (unhide HB _).mono ?_
        rintro e wn ⟨rfl, kn⟩
        have T' := hide ((unhide T).call kn)
        have T := T'
        clear kn T'
        generalize wn = W at *
        go_wp2_with fail
        first | refine next_nil ?_ | refine next_go ?_
        exact hm p5 p6 W (unhide T)
    · skip
      simp only [List.take_succ_cons, List.take_zero, List.drop_succ_cons, List.drop_zero]
      go_wp2_with fail
      have T' := hide ((unhide T).op5 (T := 34))
      have T := T'
      clear T'
      generalize W.alloc (.cells #[.int .i64 0, .bool false] 34) = W' at *
      generalize W.heap.size = p6 at *
      generalize W' = W at *
      first | refine next_nil ?_ | refine next_go ?_
      refine reg_two 1 4 4 (by kernel_rfl) (by kernel_rfl) ((unhide HC) W (unhide T).tri) ?_ ?_
      · skip
        simp only [List.take_succ_cons, List.take_zero, List.drop_succ_cons, List.drop_zero]
        go_wp2_with fail
        refine (unhide HA _).mono ?_
        rintro e wn ⟨rfl, kn⟩
        have T' := hide ((unhide T).call kn)
        have T := T'
        clear kn T'
        generalize wn = W at *
        go_wp2_with fail
        first | refine next_nil ?_ | refine next_go ?_
        refine reg_two 3 4 3 (by kernel_rfl) (by kernel_rfl) ((unhide HC) W (unhide T).tri) ?_ ?_
        · skip
          simp only [List.take_succ_cons, List.take_zero, List.drop_succ_cons, List.drop_zero]
          go_wp2_with fail
          refine (unhide HB _).mono ?_
          rintro e wn ⟨rfl, kn⟩
          have T' := hide ((unhide T).call kn)
          have T := T'
          clear kn T'
          generalize wn = W at *
          go_wp2_with fail
          first | refine next_nil ?_ | refine next_go ?_
          refine reg_one 4 2 (by kernel_rfl) (by kernel_rfl) ((unhide HC) W (unhide T).tri) ?_
          simp only [List.take_succ_cons, List.take_zero, List.drop_succ_cons, List.drop_zero]
          go_wp2_with fail
          have T' := hide ((unhide T).op4 (T := 34))
          have T := T'
          clear T'
          generalize W.alloc (.cells #[.int .i64 0, .bool false] 34) = W' at *
          generalize W.heap.size = p5 at *
          generalize W' = W at *
          first | refine next_nil ?_ | refine next_go ?_
          exact hm p5 p6 W (unhide T)
        · skip
          simp only [List.take_succ_cons, List.take_zero, List.drop_succ_cons, List.drop_zero]
          go_wp2_with fail
          have T' := hide ((unhide T).op4 (T := 34))
          have T := T'
          clear T'
          generalize W.alloc (.cells #[.int .i64 0, .bool false] 34) = W' at *
          generalize W.heap.size = p5 at *
          generalize W' = W at *
          first | refine next_nil ?_ | refine next_go ?_
          refine reg_one 3 2 (by kernel_rfl) (by kernel_rfl) ((unhide HC) W (unhide T).tri) ?_
          simp only [List.take_succ_cons, List.take_zero, List.drop_succ_cons, List.drop_zero]
          go_wp2_with fail
          refine (unhide HB _).mono ?_
          rintro e wn ⟨rfl, kn⟩
          have T' := hide ((unhide T).call kn)
          have T := T'
          clear kn T'
          generalize wn = W at *
          go_wp2_with fail
          first | refine next_nil ?_ | refine next_go ?_
          exact hm p5 p6 W (unhide T)
      · skip
        simp only [List.take_succ_cons, List.take_zero, List.drop_succ_cons, List.drop_zero]
        go_wp2_with fail
        have T' := hide ((unhide T).op4 (T := 34))
        have T := T'
        clear T'
        generalize W.alloc (.cells #[.int .i64 0, .bool false] 34) = W' at *
        generalize W.heap.size = p5 at *
        generalize W' = W at *
        first | refine next_nil ?_ | refine next_go ?_
        refine reg_one 1 3 (by kernel_rfl) (by kernel_rfl) ((unhide HC) W (unhide T).tri) ?_
        simp only [List.take_succ_cons, List.take_zero, List.drop_succ_cons, List.drop_zero]
        go_wp2_with fail
        refine (unhide HA _).mono ?_
        rintro e wn ⟨rfl, kn⟩
        have T' := hide ((unhide T).call kn)
        have T := T'
        clear kn T'
        generalize wn = W at *
        go_wp2_with fail
        first | refine next_nil ?_ | refine next_go ?_
        refine reg_one 3 2 (by kernel_rfl) (by kernel_rfl) ((unhide HC) W (unhide T).tri) ?_
        simp only [List.take_succ_cons, List.take_zero, List.drop_succ_cons, List.drop_zero]
        go_wp2_with fail
        refine (unhide HB _).mono ?_
        rintro e wn ⟨rfl, kn⟩
        have T' := hide ((unhide T).call kn)
        have T := T'
        clear kn T'
        generalize wn = W at *
        go_wp2_with fail
        first | refine next_nil ?_ | refine next_go ?_
        exact hm p5 p6 W (unhide T)
  · intro p5 p6 W T0
    have l5 := (T0.b5 rfl).1
    have l6 := (T0.b6 rfl).1
    have hne := T0.ne rfl rfl
    have G5 := hide (T0.b5 rfl).2
    have G6 := hide (T0.b6 rfl).2
    have T := hide T0.tri
    clear T0
    obtain ⟨x0, x1⟩ := (unhide G5).at2
    have x2 := (unhide G5).2.2
    refine reg_one 6 1 (by kernel_rfl) (by kernel_rfl) ((unhide HC) W (unhide T)) ?_
    simp only [List.take_succ_cons, List.take_zero, List.drop_succ_cons, List.drop_zero]
    go_wp2_with fail
    first | refine next_nil ?_ | refine next_go ?_
    have T' : Hid (Tri w ((W.setCell ⟨p5, 0, none⟩ (.int .i64 A)).setCell ⟨p5, 1, none⟩ (.bool S)) (.int .i64 a) (.bool s) (.int .i64 b) (.bool t) (.int .i64 0) (.bool false)) := ⟨below_2 (unhide T).bel (by omega) _ _, ((unhide T).A.other (by omega)).other (by omega), ((unhide T).B.other (by omega)).other (by omega), ((unhide T).C.other (by omega)).other (by omega)⟩
    have P5 := hide ((unhide G5).put (.int .i64 A) (.bool S))
    have P6 := hide (((unhide G6).other (b' := p5) (j := 0) (u := .int .i64 A) (Ne.symm hne)).other (b' := p5) (j := 1) (u := .bool S) (Ne.symm hne))
    clear T G5 G6 x0 x1 x2
    generalize (W.setCell ⟨p5, 0, none⟩ (.int .i64 A)).setCell ⟨p5, 1, none⟩ (.bool S) = W1 at *
    obtain ⟨x0, x1⟩ := (unhide P6).at2
    have x2 := (unhide P6).2.2
    refine reg_one 7 0 (by kernel_rfl) (by kernel_rfl) ((unhide HC) W1 (unhide T')) ?_
    simp only [List.take_succ_cons, List.take_zero, List.drop_succ_cons, List.drop_zero]
    go_wp2_with fail
    first | refine next_nil ?_ | refine next_go ?_
    have T2 : Hid (Tri w ((W1.setCell ⟨p6, 0, none⟩ (.int .i64 B)).setCell ⟨p6, 1, none⟩ (.bool U)) (.int .i64 a) (.bool s) (.int .i64 b) (.bool t) (.int .i64 0) (.bool false)) := ⟨below_2 (unhide T').bel (by omega) _ _, ((unhide T').A.other (by omega)).other (by omega), ((unhide T').B.other (by omega)).other (by omega), ((unhide T').C.other (by omega)).other (by omega)⟩
    have Q6 := hide ((unhide P6).put (.int .i64 B) (.bool U))
    have Q5 := hide (((unhide P5).other (b' := p6) (j := 0) (u := .int .i64 B) hne).other (b' := p6) (j := 1) (u := .bool U) hne)
    clear T' P5 P6 x0 x1 x2
    generalize (W1.setCell ⟨p6, 0, none⟩ (.int .i64 B)).setCell ⟨p6, 1, none⟩ (.bool U) = W2 at *
    refine reg_end (by kernel_rfl) ((unhide HC) W2 (unhide T2)) ?_
    have KE := hide (unhide T2).bel
    obtain ⟨x0, x1⟩ := (unhide Q5).at2
    obtain ⟨x2, x3⟩ := (unhide Q6).at2
    obtain ⟨x4, x5⟩ := (unhide T2).C.at2
    have f2 := (unhide T2).C.2.2
    have p0 := (unhide T2).C.put0
    have p1 := (unhide T2).C.put1
    unfold Hid at e1 e2
    by_cases h1 : A = B
    · have d1 : (A == B) = true := beq_iff_eq.2 h1
      rw [if_neg (by omega)] at e1
      rw [if_neg (by omega), if_neg (by omega)] at e2
      cases U
      · have e2' : Y = false := by rw [e2]; simp
        have e1' : X = B := by rw [e1]; exact h1
        clear e1 e2 h1
        subst e1' e2'
        go_wp2_with fail
        exact bodyPost_ret (v := .agg #[.int .i64 X, .bool false]) (by simp [results, Tryz.results67, go_sem, p0, p1]) rfl ⟨rfl, below_2 (unhide KE) (by omega) _ _⟩
      · have e2' : Y = S := by rw [e2]; simp
        clear e2 h1
        subst e1 e2'
        go_wp2_with fail
        exact bodyPost_ret (v := .agg #[.int .i64 X, .bool Y]) (by simp [results, Tryz.results67, go_sem, p0, p1]) rfl ⟨rfl, below_2 (unhide KE) (by omega) _ _⟩
    · have d1 : (A == B) = false := beq_eq_false_iff_ne.2 h1
      by_cases h2 : A < B
      · have d2 : decide (A < B) = true := by simpa using h2
        rw [if_pos h2] at e1
        rw [if_neg (by omega), if_pos h2] at e2
        subst e1 e2
        go_wp2_with fail
        exact bodyPost_ret (v := .agg #[.int .i64 X, .bool Y]) (by simp [results, Tryz.results67, go_sem, p0, p1]) rfl ⟨rfl, below_2 (unhide KE) (by omega) _ _⟩
      · have d2 : decide (A < B) = false := by simpa using h2
        rw [if_neg h2] at e1
        rw [if_pos (by omega)] at e2
        subst e1 e2
        go_wp2_with fail
        exact bodyPost_ret (v := .agg #[.int .i64 X, .bool Y]) (by simp [results, Tryz.results67, go_sem, p0, p1]) rfl ⟨rfl, below_2 (unhide KE) (by omega) _ _⟩
end Go.Proofs.YtaidefdbjcgcbaaGreat
