/-
  The common type is one of the two, made as wide as a word (or the wider's), whichever stands first: the walk.
-/
import Derived.Test.YtfkhbhjpnfajeaaDoorTyL
namespace Go.Proofs.YtfkhbhjpnfajeaaDoor
open Go.RowKit
set_option linter.unusedSimpArgs false
set_option linter.unusedVariables false

theorem common_to (a : Int) (s : Bool) (b : Int) (t : Bool) (X : Int) (S : Bool) (w : World) (h1 : cb a b = X) (h2 : cs a s b t = S) : Calls Tryd.prog 19 #[.agg #[.int .i64 a, .bool s], .agg #[.int .i64 b, .bool t]] w fun e w' => e = .returned (.agg #[.int .i64 X, .bool S]) ∧ Below w.heap.size w w' := by
  rw [← h1, ← h2]
  exact common_any a s b t w
theorem promote_to (a : Int) (s : Bool) (X : Int) (S : Bool) (w : World) (h1 : pb a = X) (h2 : ps a s = S) : Calls Tryd.prog 16 #[.agg #[.int .i64 a, .bool s]] w fun e w' => e = .returned (.agg #[.int .i64 X, .bool S]) ∧ Below w.heap.size w w' := by
  rw [← h1, ← h2]
  exact promote_any a s w
set_option maxHeartbeats 2000000 in
theorem typesCommon_yes (a : Int) (s : Bool) (b : Int) (t : Bool) (c : Int) (u : Bool) (w : World) (ha : IsW a) (hb : IsW b) (hc : IsW c) : Calls Tryd.prog 5 #[.agg #[.int .i64 a, .bool s], .agg #[.int .i64 b, .bool t], .agg #[.int .i64 c, .bool u]] w fun e w' => e = .returned (.bool true) ∧ Below w.heap.size w w' := by
  obtain ⟨c1, c2, i1, i2, l1, l2, r1, r2, g1, g2, g3, hp, a1, a2⟩ := cm_all ha hb hc s t u
  have CM := hide common_to
  have PM := hide promote_to
  generalize cb = f at *
  generalize cs = g at *
  generalize pb = p at *
  generalize ps = q at *
  generalize hX : f a b = X at *
  generalize hS : g a s b t = S at *
  generalize hZ : f b c = Z at *
  generalize hQ : g b t c u = Q at *
  generalize hY : f a Z = Y at *
  generalize hV : g a s Z Q = V at *
  generalize hPA : p a = PA at *
  generalize hSA : q a s = SA at *
  generalize hPB : p b = PB at *
  generalize hSB : q b t = SB at *
  have g1 : decide (a ≤ X) = true := by simpa using g1
  have g2 : decide (b ≤ X) = true := by simpa using g2
  have g3 : decide (16 ≤ X) = true := by simpa using g3
  have V1 := hide (fun (w : World) => tvalid_yes a s w ha)
  have V2 := hide (fun (w : World) => tvalid_yes b t w hb)
  have V3 := hide (fun (w : World) => tvalid_yes c u w hc)
  go_enter Tryd.func5, Tryd.ntmps5
  go_wp2_with fail
  refine (alive7_any _).mono ?_
  rintro e w1 ⟨rfl, k1⟩
  have R := hide (Tri.new' k1)
  obtain ⟨x0, x1⟩ := (unhide R).A.at2
  obtain ⟨x2, x3⟩ := (unhide R).B.at2
  obtain ⟨x4, x5⟩ := (unhide R).C.at2
  go_wp2_with fail
  refine (unhide V1 _).mono ?_
  rintro e wn ⟨rfl, kn⟩
  clear x0 x1 x2 x3 x4 x5
  have R' := hide ((unhide R).step kn)
  clear R kn
  have R := R'
  clear R'
  obtain ⟨x0, x1⟩ := (unhide R).A.at2
  obtain ⟨x2, x3⟩ := (unhide R).B.at2
  obtain ⟨x4, x5⟩ := (unhide R).C.at2
  go_wp2_with fail
  refine (unhide V2 _).mono ?_
  rintro e wn ⟨rfl, kn⟩
  clear x0 x1 x2 x3 x4 x5
  have R' := hide ((unhide R).step kn)
  clear R kn
  have R := R'
  clear R'
  obtain ⟨x0, x1⟩ := (unhide R).A.at2
  obtain ⟨x2, x3⟩ := (unhide R).B.at2
  obtain ⟨x4, x5⟩ := (unhide R).C.at2
  go_wp2_with fail
  refine (unhide V3 _).mono ?_
  rintro e wn ⟨rfl, kn⟩
  clear x0 x1 x2 x3 x4 x5
  have R' := hide ((unhide R).step kn)
  clear R kn
  have R := R'
  clear R'
  obtain ⟨x0, x1⟩ := (unhide R).A.at2
  obtain ⟨x2, x3⟩ := (unhide R).B.at2
  obtain ⟨x4, x5⟩ := (unhide R).C.at2
  go_wp2_with fail
  refine (unhide CM a s b t X S _ hX hS).mono ?_
  rintro e wn ⟨rfl, kn⟩
  clear x0 x1 x2 x3 x4 x5
  have R' := hide ((unhide R).step kn)
  clear R kn
  have R := R'
  clear R'
  obtain ⟨x0, x1⟩ := (unhide R).A.at2
  obtain ⟨x2, x3⟩ := (unhide R).B.at2
  obtain ⟨x4, x5⟩ := (unhide R).C.at2
  go_wp2_with fail
  have R4 := hide ((unhide R).more (T := 23) (u := .int .i64 X) (v := .bool S))
  generalize hwn : wn.alloc (.cells #[.int .i64 X, .bool S] 23) = w4 at *
  clear x0 x1 x2 x3 x4 x5
  have R := hide (unhide R4).1
  obtain ⟨x0, x1⟩ := (unhide R).A.at2
  obtain ⟨x2, x3⟩ := (unhide R).B.at2
  obtain ⟨x4, x5⟩ := (unhide R).C.at2
  obtain ⟨x6, x7⟩ := (unhide R4).2.at2
  have l0 := (unhide R).A.1
  have l1 := (unhide R).B.1
  have l2 := (unhide R).C.1
  have l3 := (unhide R4).2.1
  by_cases hq : X = PA ∧ S = SA
  · obtain ⟨rfl, rfl⟩ := hq
    refine wp_region_later (by kernel_rfl) (by kernel_rfl) ?_
    intro L hne lt hlc hlf hlm
    dsimp only [List.append]
    repeat (go_big_quiet_step (first | (go_at_call 19; exact later_call hlm (unhide CM _ _ _ _ _ _ _ (by assumption) (by assumption))) | (go_at_call 16; exact later_call hlm (unhide PM _ _ _ _ _ (by assumption) (by assumption)))))
    refine wpQuiet_nil ?_
    intro wq kq
    clear hlm hlf hlc lt hne L
    obtain ⟨hqc, hqf⟩ := below_cells kq
    go_wp2_with fail
    go_ret
    exact ⟨rfl, bT (unhide R).bel kq⟩
  · have hq' : X = PB ∧ S = SB := hp.resolve_left hq
    by_cases hz : X = PA
    · have hb2 : (S == SA) = false := beq_eq_false_iff_ne.2 (fun h => hq ⟨hz, h⟩)
      clear hq hp
      subst hz
      obtain ⟨e1, e2⟩ := hq'
      rw [← e1] at hPB
      rw [← e2] at hSB
      clear e1 e2
      refine wp_region_later (by kernel_rfl) (by kernel_rfl) ?_
      intro L hne lt hlc hlf hlm
      dsimp only [List.append]
      repeat (go_big_quiet_step (first | (go_at_call 19; exact later_call hlm (unhide CM _ _ _ _ _ _ _ (by assumption) (by assumption))) | (go_at_call 16; exact later_call hlm (unhide PM _ _ _ _ _ (by assumption) (by assumption)))))
      refine wpQuiet_nil ?_
      intro wq kq
      clear hlm hlf hlc lt hne L
      obtain ⟨hqc, hqf⟩ := below_cells kq
      go_wp2_with fail
      go_ret
      exact ⟨rfl, bT (unhide R).bel kq⟩
    · have hb2 : (X == PA) = false := beq_eq_false_iff_ne.2 hz
      clear hq hp hz
      obtain ⟨e1, e2⟩ := hq'
      rw [← e1] at hPB
      rw [← e2] at hSB
      clear e1 e2
      refine wp_region_later (by kernel_rfl) (by kernel_rfl) ?_
      intro L hne lt hlc hlf hlm
      dsimp only [List.append]
      repeat (go_big_quiet_step (first | (go_at_call 19; exact later_call hlm (unhide CM _ _ _ _ _ _ _ (by assumption) (by assumption))) | (go_at_call 16; exact later_call hlm (unhide PM _ _ _ _ _ (by assumption) (by assumption)))))
      refine wpQuiet_nil ?_
      intro wq kq
      clear hlm hlf hlc lt hne L
      obtain ⟨hqc, hqf⟩ := below_cells kq
      go_wp2_with fail
      go_ret
      exact ⟨rfl, bT (unhide R).bel kq⟩
end Go.Proofs.YtfkhbhjpnfajeaaDoor
