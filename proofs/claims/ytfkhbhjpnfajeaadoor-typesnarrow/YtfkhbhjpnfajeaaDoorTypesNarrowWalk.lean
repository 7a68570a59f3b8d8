/-
  Sums, differences, products and bits may be reckoned in a wider type: the walk.
-/
import Derived.Test.YtfkhbhjpnfajeaaDoorTyL
import Derived.Test.YtfkhbhjpnfajeaaDoorTyM
namespace Go.Proofs.YtfkhbhjpnfajeaaDoor
open Go.RowKit
set_option linter.unusedSimpArgs false
set_option linter.unusedVariables false

theorem u_of {x : Int} (h : (Lit.int .u64 x).wf = true) : U x := by
  have h1 : IntKind.u64.min = 0 := rfl
  have h2 : IntKind.u64.max = 18446744073709551615 := rfl
  simp only [Lit.wf, Bool.and_eq_true, decide_eq_true_eq] at h
  unfold U
  omega
set_option maxHeartbeats 2000000 in
theorem typesNarrow_yes (k a b x : Int) (s : Bool) (W : Int) (t : Bool) (w : World) (hk : nwB k) (ha : U a) (hb : U b) (hx : IsW x) (hW : IsW W) (h16 : 16 ≤ x) (hle : x ≤ W) : Calls Tryd.prog 6 #[.int .i64 k, .int .u64 a, .int .u64 b, .agg #[.int .i64 x, .bool s], .agg #[.int .i64 W, .bool t]] w fun e w' => e = .returned (.bool true) ∧ Below w.heap.size w w' := by
  have d1 : decide (x < 16) = false := by simp; omega
  have d2 : decide (W < x) = false := by simp; omega
  have uA : U (conv a x s W) := u_conv hW
  have uB : U (conv b x s W) := u_conv hW
  have HB1 := hide (fun (w : World) => binary_work k a b x x s s w (nw_wk hk) hx hx ha hb)
  have HB2 := hide (fun (w : World) => binary_work k (conv a x s W) (conv b x s W) W W t t w (nw_wk hk) hW hW uA uB)
  have uQ : U (wrk k (cs W t W t) (cb W W) (conv (conv a x s W) W t (cb W W)) (conv (conv b x s W) W t (cb W W))).1 := by
    have hc := isW_c hW hW
    generalize conv (conv a x s W) W t (cb W W) = A
    generalize conv (conv b x s W) W t (cb W W) = B
    have bw : ∀ op, U (bits op .u64 A B) := fun op => by have := bits_within op .u64 A B; have h1 : IntKind.u64.min = 0 := rfl; have h2 : IntKind.u64.max = 18446744073709551615 := rfl; unfold U; omega
    rcases hk with rfl | rfl | rfl | rfl | rfl | rfl
    · exact u_cut hc _
    · exact u_cut hc _
    · exact u_cut hc _
    · exact bw .and
    · exact bw .xor
    · exact bw .or
  have HC := hide (fun (w : World) => convert_any _ W t x s w hW hx uQ)
  rw [narrow hk hx hW h16 hle] at HC
  rw [nw_ok hk] at HB1 HB2
  clear uQ
  have CA := hide (fun (w : World) => convert_any a x s W t w hx hW ha)
  have CB := hide (fun (w : World) => convert_any b x s W t w hx hW hb)
  generalize (wrk k (cs x s x s) (cb x x) (conv a x s (cb x x)) (conv b x s (cb x x))).1 = P at *
  generalize (wrk k (cs W t W t) (cb W W) (conv (conv a x s W) W t (cb W W)) (conv (conv b x s W) W t (cb W W))).1 = Q at *
  have hkk : nwB k := hk
  rcases hk with rfl | rfl | rfl | rfl | rfl | rfl
  all_goals
    skip
    go_enter Tryd.func6, Tryd.ntmps6
    go_wp2_with fail
    refine (alive7_any _).mono ?_
    rintro e w1 ⟨rfl, k1⟩
    have R := hide (Duo.new k1)
    obtain ⟨x0, x1⟩ := (unhide R).A.at2
    obtain ⟨x2, x3⟩ := (unhide R).B.at2
    go_wp2_with fail
    refine (tvalid_yes x s _ hx).mono ?_
    rintro e wn ⟨rfl, kn⟩
    clear x0 x1 x2 x3
    have R' := hide ((unhide R).step kn)
    clear R kn
    have R := R'
    clear R'
    obtain ⟨x0, x1⟩ := (unhide R).A.at2
    obtain ⟨x2, x3⟩ := (unhide R).B.at2
    go_wp2_with fail
    refine (tvalid_yes W t _ hW).mono ?_
    rintro e wn ⟨rfl, kn⟩
    clear x0 x1 x2 x3
    have R' := hide ((unhide R).step kn)
    clear R kn
    have R := R'
    clear R'
    obtain ⟨x0, x1⟩ := (unhide R).A.at2
    obtain ⟨x2, x3⟩ := (unhide R).B.at2
    go_wp2_with fail
    refine (unhide HB1 _).mono ?_
    rintro e wn ⟨rfl, kn⟩
    clear x0 x1 x2 x3
    have R' := hide ((unhide R).step kn)
    clear R kn
    have R := R'
    clear R'
    obtain ⟨x0, x1⟩ := (unhide R).A.at2
    obtain ⟨x2, x3⟩ := (unhide R).B.at2
    go_wp2_with fail
    have l0 := (unhide R).A.1
    have l1 := (unhide R).B.1
    refine wp_region_later (by kernel_rfl) (by kernel_rfl) ?_
    intro L hne lt hlc hlf hlm
    repeat (go_big_quiet_step (first | (go_at_call 23; exact later_call hlm (convert_any _ _ _ _ _ _ (by assumption) (by assumption) (by assumption))) | (go_at_call 28; exact later_call hlm (unhide HB2 _))))
    refine wpQuiet_nil ?_
    intro wq kq
    clear hlm hlf hlc lt hne L
    obtain ⟨hqc, hqf⟩ := below_cells kq
    clear x0 x1 x2 x3 hqc hqf l0 l1
    have R' := hide ((unhide R).step kq)
    clear R kq
    have R := R'
    clear R'
    obtain ⟨x0, x1⟩ := (unhide R).A.at2
    obtain ⟨x2, x3⟩ := (unhide R).B.at2
    go_wp2_with fail
    refine (unhide HC _).mono ?_
    rintro e wn ⟨rfl, kn⟩
    clear x0 x1 x2 x3
    have R' := hide ((unhide R).step kn)
    clear R kn
    have R := R'
    clear R'
    obtain ⟨x0, x1⟩ := (unhide R).A.at2
    obtain ⟨x2, x3⟩ := (unhide R).B.at2
    go_wp2_with fail
    go_ret
    exact ⟨rfl, (unhide R).bel⟩
set_option maxHeartbeats 2000000 in
theorem walk_typesNarrow (k a b x : Int) (s : Bool) (W : Int) (t : Bool) (w : World) (hk0 : (Lit.int .i64 k).wf = true) (ha : (Lit.int .u64 a).wf = true) (hb : (Lit.int .u64 b).wf = true) : Calls Tryd.prog 6 #[.int .i64 k, .int .u64 a, .int .u64 b, .agg #[.int .i64 x, .bool s], .agg #[.int .i64 W, .bool t]] w fun e w' => e = .returned (.bool true) ∧ Below w.heap.size w w' := by
  clear hk0
  have ha := u_of ha
  have hb := u_of hb
  rcases isW_or x with hx | hx
  · rcases isW_or W with hW | hW
    · by_cases h16 : 16 ≤ x
      · by_cases hle : x ≤ W
        · by_cases hk : nwB k
          · exact typesNarrow_yes k a b x s W t w hk ha hb hx hW h16 hle
          · unfold nwB at hk
            have d1 : decide (x < 16) = false := by simp; omega
            have d2 : decide (W < x) = false := by simp; omega
            have n1 : (k != 12) = true := bne_iff_ne.2 (by omega)
            have n2 : (k != 13) = true := bne_iff_ne.2 (by omega)
            have n3 : (k != 9) = true := bne_iff_ne.2 (by omega)
            have n4 : (k != 22) = true := bne_iff_ne.2 (by omega)
            have n5 : (k != 24) = true := bne_iff_ne.2 (by omega)
            have n6 : (k != 23) = true := bne_iff_ne.2 (by omega)
            go_enter Tryd.func6, Tryd.ntmps6
            go_wp2_with fail
            refine (alive7_any _).mono ?_
            rintro e w1 ⟨rfl, k1⟩
            have R := hide (Duo.new k1)
            obtain ⟨x0, x1⟩ := (unhide R).A.at2
            obtain ⟨x2, x3⟩ := (unhide R).B.at2
            go_wp2_with fail
            refine (tvalid_yes x s _ hx).mono ?_
            rintro e wn ⟨rfl, kn⟩
            clear x0 x1 x2 x3
            have R' := hide ((unhide R).step kn)
            clear R kn
            have R := R'
            clear R'
            obtain ⟨x0, x1⟩ := (unhide R).A.at2
            obtain ⟨x2, x3⟩ := (unhide R).B.at2
            go_wp2_with fail
            refine (tvalid_yes W t _ hW).mono ?_
            rintro e wn ⟨rfl, kn⟩
            clear x0 x1 x2 x3
            have R' := hide ((unhide R).step kn)
            clear R kn
            have R := R'
            clear R'
            obtain ⟨x0, x1⟩ := (unhide R).A.at2
            obtain ⟨x2, x3⟩ := (unhide R).B.at2
            go_wp2_with fail
            go_ret
            exact ⟨rfl, (unhide R).bel⟩
        · have d1 : decide (x < 16) = false := by simp; omega
          have d2 : decide (W < x) = true := by simp; omega
          go_enter Tryd.func6, Tryd.ntmps6
          go_wp2_with fail
          refine (alive7_any _).mono ?_
          rintro e w1 ⟨rfl, k1⟩
          have R := hide (Duo.new k1)
          obtain ⟨x0, x1⟩ := (unhide R).A.at2
          obtain ⟨x2, x3⟩ := (unhide R).B.at2
          go_wp2_with fail
          refine (tvalid_yes x s _ hx).mono ?_
          rintro e wn ⟨rfl, kn⟩
          clear x0 x1 x2 x3
          have R' := hide ((unhide R).step kn)
          clear R kn
          have R := R'
          clear R'
          obtain ⟨x0, x1⟩ := (unhide R).A.at2
          obtain ⟨x2, x3⟩ := (unhide R).B.at2
          go_wp2_with fail
          refine (tvalid_yes W t _ hW).mono ?_
          rintro e wn ⟨rfl, kn⟩
          clear x0 x1 x2 x3
          have R' := hide ((unhide R).step kn)
          clear R kn
          have R := R'
          clear R'
          obtain ⟨x0, x1⟩ := (unhide R).A.at2
          obtain ⟨x2, x3⟩ := (unhide R).B.at2
          go_wp2_with fail
          go_ret
          exact ⟨rfl, (unhide R).bel⟩
      · have d1 : decide (x < 16) = true := by simp; omega
        go_enter Tryd.func6, Tryd.ntmps6
        go_wp2_with fail
        refine (alive7_any _).mono ?_
        rintro e w1 ⟨rfl, k1⟩
        have R := hide (Duo.new k1)
        obtain ⟨x0, x1⟩ := (unhide R).A.at2
        obtain ⟨x2, x3⟩ := (unhide R).B.at2
        go_wp2_with fail
        refine (tvalid_yes x s _ hx).mono ?_
        rintro e wn ⟨rfl, kn⟩
        clear x0 x1 x2 x3
        have R' := hide ((unhide R).step kn)
        clear R kn
        have R := R'
        clear R'
        obtain ⟨x0, x1⟩ := (unhide R).A.at2
        obtain ⟨x2, x3⟩ := (unhide R).B.at2
        go_wp2_with fail
        refine (tvalid_yes W t _ hW).mono ?_
        rintro e wn ⟨rfl, kn⟩
        clear x0 x1 x2 x3
        have R' := hide ((unhide R).step kn)
        clear R kn
        have R := R'
        clear R'
        obtain ⟨x0, x1⟩ := (unhide R).A.at2
        obtain ⟨x2, x3⟩ := (unhide R).B.at2
        go_wp2_with fail
        go_ret
        exact ⟨rfl, (unhide R).bel⟩
    · skip
      go_enter Tryd.func6, Tryd.ntmps6
      go_wp2_with fail
      refine (alive7_any _).mono ?_
      rintro e w1 ⟨rfl, k1⟩
      have R := hide (Duo.new k1)
      obtain ⟨x0, x1⟩ := (unhide R).A.at2
      obtain ⟨x2, x3⟩ := (unhide R).B.at2
      go_wp2_with fail
      refine (tvalid_yes x s _ hx).mono ?_
      rintro e wn ⟨rfl, kn⟩
      clear x0 x1 x2 x3
      have R' := hide ((unhide R).step kn)
      clear R kn
      have R := R'
      clear R'
      obtain ⟨x0, x1⟩ := (unhide R).A.at2
      obtain ⟨x2, x3⟩ := (unhide R).B.at2
      go_wp2_with fail
      refine (tvalid_no W t _ hW).mono ?_
      rintro e wn ⟨rfl, kn⟩
      clear x0 x1 x2 x3
      have R' := hide ((unhide R).step kn)
      clear R kn
      have R := R'
      clear R'
      obtain ⟨x0, x1⟩ := (unhide R).A.at2
      obtain ⟨x2, x3⟩ := (unhide R).B.at2
      go_wp2_with fail
      go_ret
      exact ⟨rfl, (unhide R).bel⟩
  · skip
    go_enter Tryd.func6, Tryd.ntmps6
    go_wp2_with fail
    refine (alive7_any _).mono ?_
    rintro e w1 ⟨rfl, k1⟩
    have R := hide (Duo.new k1)
    obtain ⟨x0, x1⟩ := (unhide R).A.at2
    obtain ⟨x2, x3⟩ := (unhide R).B.at2
    go_wp2_with fail
    refine (tvalid_no x s _ hx).mono ?_
    rintro e wn ⟨rfl, kn⟩
    clear x0 x1 x2 x3
    have R' := hide ((unhide R).step kn)
    clear R kn
    have R := R'
    clear R'
    obtain ⟨x0, x1⟩ := (unhide R).A.at2
    obtain ⟨x2, x3⟩ := (unhide R).B.at2
    go_wp2_with fail
    go_ret
    exact ⟨rfl, (unhide R).bel⟩
end Go.Proofs.YtfkhbhjpnfajeaaDoor
