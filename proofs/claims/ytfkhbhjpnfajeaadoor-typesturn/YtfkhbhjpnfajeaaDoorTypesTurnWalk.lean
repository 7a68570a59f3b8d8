/-
  Names tell types: the walk.
-/
import Derived.Test.YtfkhbhjpnfajeaaDoorTyL
import Derived.Test.YtfkhbhjpnfajeaaDoorTyP
namespace Go.Proofs.YtfkhbhjpnfajeaaDoor
open Go.RowKit
set_option linter.unusedSimpArgs false
set_option linter.unusedVariables false

set_option maxHeartbeats 2000000 in
theorem walk_typesTurn (b : Int) (s : Bool) (z : ByteArray) (w : World) : Calls Tryd.prog 7 #[.agg #[.int .i64 b, .bool s], .string z] w fun e w' => e = .returned (.bool true) ∧ Below w.heap.size w w' := by
  have HE := hide (fun (w : World) => named_any z w)
  rcases isW_or b with hb | hb
  · have HD := hide (fun (w : World) => named_any (nmT b s) w)
    rw [(named_name hb s).1, (named_name hb s).2.1, (named_name hb s).2.2] at HD
    cases hz : nk z
    · rw [hz] at HE
      go_enter Tryd.func7, Tryd.ntmps7
      go_wp2_with fail
      refine (alive7_any _).mono ?_
      rintro e w1 ⟨rfl, k1⟩
      have R := hide (And.intro (bT (below_a w (.cells #[.int .i64 b, .bool s] 23)) k1) ((Box.new w #[.int .i64 b, .bool s] 23).step k1))
      clear k1
      obtain ⟨x0, x1⟩ := (unhide R).2.at2
      go_wp2_with fail
      refine (tvalid_yes b s _ hb).mono ?_
      rintro e wn ⟨rfl, kn⟩
      clear x0 x1
      have R' := hide (And.intro (bT (unhide R).1 kn) ((unhide R).2.step kn))
      clear R kn
      have R := R'
      clear R'
      obtain ⟨x0, x1⟩ := (unhide R).2.at2
      go_wp2_with fail
      refine (name_yes b s _ hb).mono ?_
      rintro e wn ⟨rfl, kn⟩
      clear x0 x1
      have R' := hide (And.intro (bT (unhide R).1 kn) ((unhide R).2.step kn))
      clear R kn
      have R := R'
      clear R'
      obtain ⟨x0, x1⟩ := (unhide R).2.at2
      go_wp2_with fail
      refine (unhide HD _).mono ?_
      rintro e wn ⟨rfl, kn⟩
      clear x0 x1
      have R' := hide (And.intro (bT (unhide R).1 kn) ((unhide R).2.step kn))
      clear R kn
      have R := R'
      clear R'
      obtain ⟨x0, x1⟩ := (unhide R).2.at2
      have R' := hide (And.intro (bT (unhide R).1 (below_a wn (.cells #[.int .i64 b, .bool s] 23))) ((unhide R).2.step (below_a wn (.cells #[.int .i64 b, .bool s] 23))))
      have lw := (unhide R).2.1
      go_wp2_with fail
      clear R x0 x1 lw
      have R := R'
      clear R'
      generalize wn.alloc (.cells #[.int .i64 b, .bool s] 23) = wm at *
      obtain ⟨x0, x1⟩ := (unhide R).2.at2
      go_wp2_with fail
      refine (unhide HE _).mono ?_
      rintro e wn ⟨rfl, kn⟩
      have K := hide (bT (unhide R).1 kn)
      clear x0 x1 kn R
      go_wp2_with fail
      go_ret
      exact ⟨rfl, bT (unhide K) (below_a _ _)⟩
    · rw [hz] at HE
      obtain ⟨h1, h2⟩ := named_yes hz
      have HV := hide (fun (w : World) => tvalid_yes _ (ng z) w h1)
      have HN := hide (fun (w : World) => name_yes _ (ng z) w h1)
      rw [h2] at HN
      generalize nb z = NB at *
      generalize ng z = NG at *
      go_enter Tryd.func7, Tryd.ntmps7
      go_wp2_with fail
      refine (alive7_any _).mono ?_
      rintro e w1 ⟨rfl, k1⟩
      have R := hide (And.intro (bT (below_a w (.cells #[.int .i64 b, .bool s] 23)) k1) ((Box.new w #[.int .i64 b, .bool s] 23).step k1))
      clear k1
      obtain ⟨x0, x1⟩ := (unhide R).2.at2
      go_wp2_with fail
      refine (tvalid_yes b s _ hb).mono ?_
      rintro e wn ⟨rfl, kn⟩
      clear x0 x1
      have R' := hide (And.intro (bT (unhide R).1 kn) ((unhide R).2.step kn))
      clear R kn
      have R := R'
      clear R'
      obtain ⟨x0, x1⟩ := (unhide R).2.at2
      go_wp2_with fail
      refine (name_yes b s _ hb).mono ?_
      rintro e wn ⟨rfl, kn⟩
      clear x0 x1
      have R' := hide (And.intro (bT (unhide R).1 kn) ((unhide R).2.step kn))
      clear R kn
      have R := R'
      clear R'
      obtain ⟨x0, x1⟩ := (unhide R).2.at2
      go_wp2_with fail
      refine (unhide HD _).mono ?_
      rintro e wn ⟨rfl, kn⟩
      clear x0 x1
      have R' := hide (And.intro (bT (unhide R).1 kn) ((unhide R).2.step kn))
      clear R kn
      have R := R'
      clear R'
      obtain ⟨x0, x1⟩ := (unhide R).2.at2
      have R' := hide (And.intro (bT (unhide R).1 (below_a wn (.cells #[.int .i64 b, .bool s] 23))) ((unhide R).2.step (below_a wn (.cells #[.int .i64 b, .bool s] 23))))
      have lw := (unhide R).2.1
      go_wp2_with fail
      clear R x0 x1 lw
      have R := R'
      clear R'
      generalize wn.alloc (.cells #[.int .i64 b, .bool s] 23) = wm at *
      obtain ⟨x0, x1⟩ := (unhide R).2.at2
      go_wp2_with fail
      refine (unhide HE _).mono ?_
      rintro e wn ⟨rfl, kn⟩
      have K := hide (bT (unhide R).1 kn)
      clear x0 x1 kn R
      have B := hide (Box.new wn #[.int .i64 NB, .bool NG] 23)
      have K' := hide (bT (unhide K) (below_a wn (.cells #[.int .i64 NB, .bool NG] 23)))
      go_wp2_with fail
      generalize wn.alloc (.cells #[.int .i64 NB, .bool NG] 23) = wm at *
      generalize wn.heap.size = pp at *
      refine (unhide HV _).mono ?_
      rintro e wk ⟨rfl, kk⟩
      obtain ⟨y0, y1⟩ := ((unhide B).step kk).at2
      have K2 := hide (bT (unhide K') kk)
      clear kk
      go_wp2_with fail
      refine (unhide HN _).mono ?_
      rintro e wj ⟨rfl, kj⟩
      go_wp2_with fail
      go_ret
      exact ⟨rfl, bT (unhide K2) kj⟩
  · cases hz : nk z
    · rw [hz] at HE
      go_enter Tryd.func7, Tryd.ntmps7
      go_wp2_with fail
      refine (alive7_any _).mono ?_
      rintro e w1 ⟨rfl, k1⟩
      have R := hide (And.intro (bT (below_a w (.cells #[.int .i64 b, .bool s] 23)) k1) ((Box.new w #[.int .i64 b, .bool s] 23).step k1))
      clear k1
      obtain ⟨x0, x1⟩ := (unhide R).2.at2
      go_wp2_with fail
      refine (tvalid_no b s _ hb).mono ?_
      rintro e wn ⟨rfl, kn⟩
      clear x0 x1
      have R' := hide (And.intro (bT (unhide R).1 kn) ((unhide R).2.step kn))
      clear R kn
      have R := R'
      clear R'
      obtain ⟨x0, x1⟩ := (unhide R).2.at2
      go_wp2_with fail
      refine (unhide HE _).mono ?_
      rintro e wn ⟨rfl, kn⟩
      have K := hide (bT (unhide R).1 kn)
      clear x0 x1 kn R
      go_wp2_with fail
      go_ret
      exact ⟨rfl, bT (unhide K) (below_a _ _)⟩
    · rw [hz] at HE
      obtain ⟨h1, h2⟩ := named_yes hz
      have HV := hide (fun (w : World) => tvalid_yes _ (ng z) w h1)
      have HN := hide (fun (w : World) => name_yes _ (ng z) w h1)
      rw [h2] at HN
      generalize nb z = NB at *
      generalize ng z = NG at *
      go_enter Tryd.func7, Tryd.ntmps7
      go_wp2_with fail
      refine (alive7_any _).mono ?_
      rintro e w1 ⟨rfl, k1⟩
      have R := hide (And.intro (bT (below_a w (.cells #[.int .i64 b, .bool s] 23)) k1) ((Box.new w #[.int .i64 b, .bool s] 23).step k1))
      clear k1
      obtain ⟨x0, x1⟩ := (unhide R).2.at2
      go_wp2_with fail
      refine (tvalid_no b s _ hb).mono ?_
      rintro e wn ⟨rfl, kn⟩
      clear x0 x1
      have R' := hide (And.intro (bT (unhide R).1 kn) ((unhide R).2.step kn))
      clear R kn
      have R := R'
      clear R'
      obtain ⟨x0, x1⟩ := (unhide R).2.at2
      go_wp2_with fail
      refine (unhide HE _).mono ?_
      rintro e wn ⟨rfl, kn⟩
      have K := hide (bT (unhide R).1 kn)
      clear x0 x1 kn R
      have B := hide (Box.new wn #[.int .i64 NB, .bool NG] 23)
      have K' := hide (bT (unhide K) (below_a wn (.cells #[.int .i64 NB, .bool NG] 23)))
      go_wp2_with fail
      generalize wn.alloc (.cells #[.int .i64 NB, .bool NG] 23) = wm at *
      generalize wn.heap.size = pp at *
      refine (unhide HV _).mono ?_
      rintro e wk ⟨rfl, kk⟩
      obtain ⟨y0, y1⟩ := ((unhide B).step kk).at2
      have K2 := hide (bT (unhide K') kk)
      clear kk
      go_wp2_with fail
      refine (unhide HN _).mono ?_
      rintro e wj ⟨rfl, kj⟩
      go_wp2_with fail
      go_ret
      exact ⟨rfl, bT (unhide K2) kj⟩
end Go.Proofs.YtfkhbhjpnfajeaaDoor
