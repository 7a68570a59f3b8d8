/-
  The common type is one of the two, made as wide as a word (or the wider's), whichever stands first: the walk, where one is no type, too.
-/
import Derived.Test.YtfkhbhjpnfajeaaDoorTypesCommon0
namespace Go.Proofs.YtfkhbhjpnfajeaaDoor
open Go.RowKit
set_option linter.unusedSimpArgs false
set_option linter.unusedVariables false

set_option maxHeartbeats 2000000 in
theorem walk_typesCommon (a : Int) (s : Bool) (b : Int) (t : Bool) (c : Int) (u : Bool) (w : World) : Calls Tryd.prog 5 #[.agg #[.int .i64 a, .bool s], .agg #[.int .i64 b, .bool t], .agg #[.int .i64 c, .bool u]] w fun e w' => e = .returned (.bool true) ∧ Below w.heap.size w w' := by
  rcases isW_or a with ha | ha
  · rcases isW_or b with hb | hb
    · rcases isW_or c with hc | hc
      · exact typesCommon_yes a s b t c u w ha hb hc
      · skip
        go_enter Tryd.func5, Tryd.ntmps5
        go_wp2_with fail
        refine (alive7_any _).mono ?_
        rintro e w1 ⟨rfl, k1⟩
        have R := hide (Tri.new' k1)
        obtain ⟨x0, x1⟩ := (unhide R).A.at2
        obtain ⟨x2, x3⟩ := (unhide R).B.at2
        obtain ⟨x4, x5⟩ := (unhide R).C.at2
        go_wp2_with fail
        refine (tvalid_yes a s _ ha).mono ?_
        rintro e wn ⟨rfl, kn⟩
        clear x0 x1 x2 x3 x4 x5
        have R' := hide ((unhide R).step kn)
        clear R kn
        have R := R'
        clear R'
        obtain ⟨x0, x1⟩ := (unhide R).A.at2
        obtain ⟨x2, x3⟩ := (unhide R).B.at2
        obtain ⟨x4, x5⟩ := (unhide R).C.at2
        go_wp2_with fail
        refine (tvalid_yes b t _ hb).mono ?_
        rintro e wn ⟨rfl, kn⟩
        clear x0 x1 x2 x3 x4 x5
        have R' := hide ((unhide R).step kn)
        clear R kn
        have R := R'
        clear R'
        obtain ⟨x0, x1⟩ := (unhide R).A.at2
        obtain ⟨x2, x3⟩ := (unhide R).B.at2
        obtain ⟨x4, x5⟩ := (unhide R).C.at2
        go_wp2_with fail
        refine (tvalid_no c u _ hc).mono ?_
        rintro e wn ⟨rfl, kn⟩
        clear x0 x1 x2 x3 x4 x5
        have R' := hide ((unhide R).step kn)
        clear R kn
        have R := R'
        clear R'
        obtain ⟨x0, x1⟩ := (unhide R).A.at2
        obtain ⟨x2, x3⟩ := (unhide R).B.at2
        obtain ⟨x4, x5⟩ := (unhide R).C.at2
        go_wp2_with fail
        go_ret
        exact ⟨rfl, (unhide R).bel⟩
    · skip
      go_enter Tryd.func5, Tryd.ntmps5
      go_wp2_with fail
      refine (alive7_any _).mono ?_
      rintro e w1 ⟨rfl, k1⟩
      have R := hide (Tri.new' k1)
      obtain ⟨x0, x1⟩ := (unhide R).A.at2
      obtain ⟨x2, x3⟩ := (unhide R).B.at2
      obtain ⟨x4, x5⟩ := (unhide R).C.at2
      go_wp2_with fail
      refine (tvalid_yes a s _ ha).mono ?_
      rintro e wn ⟨rfl, kn⟩
      clear x0 x1 x2 x3 x4 x5
      have R' := hide ((unhide R).step kn)
      clear R kn
      have R := R'
      clear R'
      obtain ⟨x0, x1⟩ := (unhide R).A.at2
      obtain ⟨x2, x3⟩ := (unhide R).B.at2
      obtain ⟨x4, x5⟩ := (unhide R).C.at2
      go_wp2_with fail
      refine (tvalid_no b t _ hb).mono ?_
      rintro e wn ⟨rfl, kn⟩
      clear x0 x1 x2 x3 x4 x5
      have R' := hide ((unhide R).step kn)
      clear R kn
      have R := R'
      clear R'
      obtain ⟨x0, x1⟩ := (unhide R).A.at2
      obtain ⟨x2, x3⟩ := (unhide R).B.at2
      obtain ⟨x4, x5⟩ := (unhide R).C.at2
      go_wp2_with fail
      go_ret
      exact ⟨rfl, (unhide R).bel⟩
  · skip
    go_enter Tryd.func5, Tryd.ntmps5
    go_wp2_with fail
    refine (alive7_any _).mono ?_
    rintro e w1 ⟨rfl, k1⟩
    have R := hide (Tri.new' k1)
    obtain ⟨x0, x1⟩ := (unhide R).A.at2
    obtain ⟨x2, x3⟩ := (unhide R).B.at2
    obtain ⟨x4, x5⟩ := (unhide R).C.at2
    go_wp2_with fail
    refine (tvalid_no a s _ ha).mono ?_
    rintro e wn ⟨rfl, kn⟩
    clear x0 x1 x2 x3 x4 x5
    have R' := hide ((unhide R).step kn)
    clear R kn
    have R := R'
    clear R'
    obtain ⟨x0, x1⟩ := (unhide R).A.at2
    obtain ⟨x2, x3⟩ := (unhide R).B.at2
    obtain ⟨x4, x5⟩ := (unhide R).C.at2
    go_wp2_with fail
    go_ret
    exact ⟨rfl, (unhide R).bel⟩
end Go.Proofs.YtfkhbhjpnfajeaaDoor
