/-
  The document's answer on rows of words: Words, taken away.
-/
import Derived.Test.YtmjnihepgglbdaaWcX
namespace Go.Proofs.Ytmjnihepgglbdaa
open Go.RowKit
set_option linter.unusedSimpArgs false
set_option linter.unusedVariables false

set_option maxRecDepth 100000 in
set_option maxHeartbeats 20000000 in
theorem rwords_sub_pos (LA LB : List Int) (va vb : Value) (m : Nat) (w : World) (ha : Ints w va LA) (hb : Ints w vb LB) (l1 : LA.length = m) (l2 : LB.length = m) (hm1 : 1 ≤ m) (hm4 : m ≤ 4) (x y : Int) (hx : jw (LA.map lw) = x) (hy : jw (LB.map lw) = y) (bx : 0 ≤ x ∧ x < 2 ^ (16 * m)) (by' : 0 ≤ y ∧ y < 2 ^ (16 * m)) (z s : Int) (hz : x - y = z) (hzn : ¬ z < 0) (hs : sgw (16 * m) x - sgw (16 * m) y = s) :
    Calls Try.prog 9 #[va, vb, .bool false] w fun e w' => RwRet m z s w e w' := by
  unfold RwRet
  obtain ⟨i0, hi0, hz0, hz1, hz2⟩ := info_parts (show (Try.prog.info? 3).map (fun i => (i.zero, i.size, i.bytes)) = some (some (.int .i64 0), 1, 8) by kernel_rfl)
  have HA := hide ha
  have HB := hide hb
  have NAf := fun W h => numberW_any LA va W h (by omega)
  have NBf := fun W h => numberW_any LB vb W h (by omega)
  rw [hx] at NAf
  rw [hy] at NBf
  obtain ⟨ao, ca, rfl, hm, -⟩ := ha.at
  obtain ⟨bo, cb, rfl, hm2, -⟩ := hb.at
  rw [l1] at NAf HA ⊢
  rw [l2] at NBf HB ⊢
  clear ha hb hm hm2 hx hy l1 l2
  have e0 : ((m : Int) == 0) = false := beq_eq_false_iff_ne.2 (by omega)
  have e1 : ((m : Int) != (m : Int)) = false := by simp
  have e4 : ¬ (4 : Int) < (m : Int) := by omega
  have K2 := hide (((Below.refl w.heap.size w).alloc (Nat.le_refl _) (.cells #[.bool false, .bool false, .bool false, .bool false] 24)).alloc (by simp) (.cells #[.int .i64 (16 * (m : Int))] 3))
  have hs2 : ((w.alloc (.cells #[.bool false, .bool false, .bool false, .bool false] 24)).alloc (.cells #[.int .i64 (16 * (m : Int))] 3)).heap.size = w.heap.size + 2 := by simp
  have C2 : ((w.alloc (.cells #[.bool false, .bool false, .bool false, .bool false] 24)).alloc (.cells #[.int .i64 (16 * (m : Int))] 3)).cell? ⟨w.heap.size + 1, 0, none⟩ = some (.int .i64 ((16 * m : Nat) : Int)) := by simp [go_sem]
  have HC2 := hide C2
  have FB2 := hide ((Box.new w #[.bool false, .bool false, .bool false, .bool false] 24).step (below_a _ (.cells #[.int .i64 (16 * (m : Int))] 3)))
  have HS2 := hide hs2
  have hn16 : ((16 * m : Nat) : Int) = 16 * (m : Int) := by omega
  obtain ⟨pn0, pn1⟩ := p64 (k := 16 * m) (by omega)
  have sgx := sgw_abs (n := 16 * m) (by omega) bx
  have sgy := sgw_abs (n := 16 * m) (by omega) by'
  have TW := hide (fun W => two_any (16 * m) W (by omega))
  rw [hn16] at TW
  clear C2 hs2
  have TH := hide (fun W => two_any (16 * m - 1) W (by omega))
  rw [show ((16 * m - 1 : Nat) : Int) = 16 * (m : Int) - 1 by omega] at TH
  obtain ⟨ph0, ph1⟩ := p64 (k := 16 * m - 1) (by omega)
  have zb : -18446744073709551616 < z ∧ z < 2 * 2 ^ (16 * m) := by omega
  have sb : s.natAbs ≤ 2 * 18446744073709551616 := by omega
  obtain ⟨r, hr⟩ : ∃ r, z % 2 ^ (16 * m) = r := ⟨_, rfl⟩
  have rb0 : 0 ≤ r := by rw [← hr]; exact Int.emod_nonneg _ (by omega)
  have rb1 : r < 2 ^ (16 * m) := by rw [← hr]; exact Int.emod_lt_of_pos _ pn0
  have sgr := sgw_abs (n := 16 * m) (by omega) ⟨rb0, rb1⟩
  have DK := hide (dok (by omega) hm4 zb.1 zb.2)
  rw [hr]
  generalize hP : (2 : Int) ^ (16 * m) = P at *
  generalize hH : (2 : Int) ^ (16 * m - 1) = H at *
  have HHR := hide hr
  clear hP hH hr
  go_enter Try.func9, Try.ntmps9
  go_wp2_with fail
  generalize (w.alloc (.cells #[.bool false, .bool false, .bool false, .bool false] 24)).alloc (.cells #[.int .i64 (16 * (m : Int))] 3) = w2 at *
  refine (NAf _ ((unhide HA).step (unhide K2))).mono ?_
  rintro e w3 ⟨rfl, k3, b3⟩
  have K3 := hide ((unhide K2).trans (k3.mono (by have := unhide HS2; omega)))
  have HC3 := hide (cell_keep k3 (by have := unhide HS2; omega) (unhide HC2))
  have FB3 := hide ((unhide FB2).step k3)
  have X3 := hide b3
  have hs3 := k3.size
  have lx3 := b3.lt
  clear NAf k3 b3 HC2
  go_wp2_with fail
  refine (NBf _ ((unhide HB).step (unhide K3))).mono ?_
  rintro e w4 ⟨rfl, k4, b4⟩
  have k6 := (below_a w4 (.cells #[.bool false, .slice none 0 0] 42)).trans ((below_a _ (.cells #[.bool false, .slice none 0 0] 42)).mono (by simp))
  have Z6 := hide ((Big.new w4).step (below_a _ (.cells #[.bool false, .slice none 0 0] 42)))
  have S6 := Big.new (w4.alloc (.cells #[.bool false, .slice none 0 0] 42))
  rw [show (w4.alloc (.cells #[.bool false, .slice none 0 0] 42)).heap.size = w4.heap.size + 1 by simp] at S6
  have HS6 := hide S6
  have hs6 := hide (show ((w4.alloc (.cells #[.bool false, .slice none 0 0] 42)).alloc (.cells #[.bool false, .slice none 0 0] 42)).heap.size = w4.heap.size + 2 by simp)
  have K6 := hide ((unhide K3).trans ((k4.mono (by have := unhide HS2; omega)).trans (k6.mono (by have := unhide HS2; have := k4.size; omega))))
  have X6 := hide (((unhide X3).step k4).step k6)
  have Y6 := hide (b4.step k6)
  have HC6 := hide (cell_keep k6 (by have := unhide HS2; have := k4.size; omega) (cell_keep k4 (by have := unhide HS2; omega) (unhide HC3)))
  have FB6 := hide (((unhide FB3).step k4).step k6)
  have hs4 := k4.size
  have ly4 := b4.lt
  clear NBf k4 b4 k6 HC3 X3 S6 K3
  go_wp2_with fail
  generalize (w4.alloc (.cells #[.bool false, .slice none 0 0] 42)).alloc (.cells #[.bool false, .slice none 0 0] 42) = w6 at *
  have big7 : (18446744073709551616 : Int) < 4294967296 ^ 7 := by decide
  have big6' : (18446744073709551616 : Int) < 4294967296 ^ 6 := by decide
  have lw2 : w.heap.size + 1 < w2.heap.size := by have := unhide HS2; omega
  have ls6 : w4.heap.size + 1 < w6.heap.size := by have := unhide hs6; omega
  clear HS2 hs6
  generalize w4.heap.size = pz at *
  generalize w3.heap.size = py at *
  generalize w2.heap.size = px at *
  refine (sub_big pz px py x y w6 (unhide Z6).int (unhide X6) (unhide Y6) (by omega) (by omega) (by omega)).mono ?_
  rintro e w7 ⟨rfl, k7, b7⟩
  rw [hz] at b7
  have Z7 := hide b7
  have X7 := hide ((unhide X6).tn k7 (unhide Z6).int (by omega))
  have Y7 := hide ((unhide Y6).tn k7 (unhide Z6).int (by omega))
  have S7 := hide ((unhide HS6).tn k7 (unhide Z6).int (by omega))
  have HC7 := hide ((World.cell?_of_block (w := w6) (a := ⟨w.heap.size + 1, 0, none⟩) (k7.block (w.heap.size + 1) (by omega) (by omega))).trans (unhide HC6))
  have FB7 := hide ((unhide FB6).tn k7 (by omega))
  have K7 := hide (below_tnw (unhide K6) k7 (by omega) (by omega))
  have ls7 := k7.size
  clear k7 b7 X6 Y6 Z6 HS6 HC6 K6
  go_wp2_with fail
  refine (signW_any (16 * m) px (w.heap.size + 1) x w7 (unhide X7) (by omega) (unhide HC7) (by omega) (by omega) (by omega)).mono ?_
  rintro e w8 ⟨p1, rfl, q1, k8, b8⟩
  have P8 := hide b8
  have X8 := hide ((unhide X7).step k8)
  have Y8 := hide ((unhide Y7).step k8)
  have Z8 := hide ((unhide Z7).step k8)
  have S8 := hide ((unhide S7).step k8)
  have HC8 := hide (cell_keep k8 (by omega) (unhide HC7))
  have FB8 := hide ((unhide FB7).step k8)
  have K8 := hide ((unhide K7).trans (k8.mono (by have := (unhide K7).size; omega)))
  have ls8 := k8.size
  clear k8 b8 X7 Y7 Z7 S7 HC7 K7
  go_wp2_with fail
  refine (signW_any (16 * m) py (w.heap.size + 1) y w8 (unhide Y8) (by omega) (unhide HC8) (by omega) (by omega) (by omega)).mono ?_
  rintro e w9 ⟨p2, rfl, q2, k9, b9⟩
  have Q9 := hide b9
  have P9 := hide ((unhide P8).step k9)
  have Z9 := hide ((unhide Z8).step k9)
  have S9 := hide ((unhide S8).step k9)
  have HC9 := hide (cell_keep k9 (by omega) (unhide HC8))
  have FB9 := hide ((unhide FB8).step k9)
  have K9 := hide ((unhide K8).trans (k9.mono (by have := (unhide K8).size; omega)))
  have ls9 := k9.size
  clear k9 b9 X8 Y8 Z8 S8 P8 HC8 K8
  go_wp2_with fail
  refine (sub_big (pz + 1) p1 p2 (sgw (16 * m) x) (sgw (16 * m) y) w9 (unhide S9).int (unhide P9) (unhide Q9) (by omega) (by omega) (by omega)).mono ?_
  rintro e w10 ⟨rfl, k10, b10⟩
  rw [hs] at b10
  have S10 := hide b10
  have Z10 := hide ((unhide Z9).tn k10 (unhide S9).int (by omega))
  have HC10 := hide ((World.cell?_of_block (w := w9) (a := ⟨w.heap.size + 1, 0, none⟩) (k10.block (w.heap.size + 1) (by omega) (by omega))).trans (unhide HC9))
  have FB10 := hide ((unhide FB9).tn k10 (by omega))
  have K10 := hide (below_tnw (unhide K9) k10 (by omega) (by omega))
  have ls10 := k10.size
  clear k10 b10 P9 Q9 Z9 S9 HC9 K9
  have k11 := below_a w10 (.cells #[.bool false, .slice none 0 0] 42)
  have R11 := hide (Big.new w10)
  have S11 := hide ((unhide S10).step k11)
  have Z11 := hide ((unhide Z10).step k11)
  have C11 := cell_keep k11 (by omega) (unhide HC10)
  rw [hn16] at C11
  have HC11 := hide C11
  have FB11 := hide ((unhide FB10).step k11)
  have K11 := hide ((unhide K10).trans (k11.mono (by have := (unhide K10).size; omega)))
  have ls11 : w10.heap.size < (w10.alloc (.cells #[.bool false, .slice none 0 0] 42)).heap.size := by simp
  clear k11 S10 Z10 HC10 K10
  go_wp2_with fail
  generalize w10.alloc (.cells #[.bool false, .slice none 0 0] 42) = w11 at *
  refine (unhide TW w11).mono ?_
  rintro e w12 ⟨rfl, k12, b12⟩
  have T12 := hide b12
  have R12 := hide ((unhide R11).int.step k12)
  have S12 := hide ((unhide S11).step k12)
  have Z12 := hide ((unhide Z11).step k12)
  have HC12 := hide (cell_keep k12 (by omega) (unhide HC11))
  have FB12 := hide ((unhide FB11).step k12)
  have K12 := hide ((unhide K11).trans (k12.mono (by have := (unhide K11).size; omega)))
  have ls12 := k12.size
  have lt12 := b12.lt
  clear k12 b12 R11 S11 Z11 HC11 K11
  go_wp2_with fail
  refine (mod_any w10.heap.size pz w11.heap.size z P w12 (unhide R12) (unhide Z12) (unhide T12) (unhide DK) (by omega) (by omega) pn0).mono ?_
  rintro e w13 ⟨rfl, k13, b13⟩
  rw [unhide HHR] at b13
  have R13 := hide b13
  have S13 := hide ((unhide S12).tn k13 (unhide R12) (by omega))
  have Z13 := hide ((unhide Z12).tn k13 (unhide R12) (by omega))
  have HC13 := hide ((World.cell?_of_block (w := w12) (a := ⟨w.heap.size + 1, 0, none⟩) (k13.block (w.heap.size + 1) (by omega) (by omega))).trans (unhide HC12))
  have FB13 := hide ((unhide FB12).tn k13 (by omega))
  have K13 := hide (below_tnw (unhide K12) k13 (by omega) (by omega))
  have ls13 := k13.size
  clear FB2 FB3 FB6 FB7 FB8 FB9 FB10 FB11 FB12 k13 b13 R12 S12 Z12 HC12 K12 T12
  have HQ : Hid (∀ W : World, Below w13.heap.size w13 W → W.cell? ⟨w.heap.size + 1, 0, none⟩ = some (.int .i64 (16 * (m : Int)))) := fun W k => cell_keep k (by omega) (unhide HC13)
  have q8 : (4 * 18446744073709551616 : Int) < 4294967296 ^ 8 := by decide
  have pr13 : w10.heap.size < w13.heap.size := (unhide R13).lt
  generalize w10.heap.size = pr at *
  clear HC13 sgx sgy big7 big6'
  have hzs : ¬ z.sign < 0 := by rw [Int.sign_neg_iff]; omega
  go_upto_region 14 with fail
  refine reg_start (fun W => W.cell? ⟨w.heap.size + 1, 0, none⟩ = some (.int .i64 (16 * (m : Int)))) (by kernel_rfl) ?_
  have T := hide (wst_start w13)
  generalize w13.drew = W at *
  refine reg_seg 0 1 27 (by kernel_rfl) (by decide) (by kernel_rfl) (by kernel_rfl) (fun _ _ _ _ _ h => h) ?_
  simp only [List.take_succ_cons, List.take_zero, List.drop_succ_cons, List.drop_zero]
  repeat (refine wpSteady_step (fun K hK => ?_); go_simp; first | (refine steady_of ?_ (fun W hW => ?_) (hK _ ?_); rotate_left; (obtain hc9 := hW; go_simp; first | done | rfl); clear hK K) | (refine hK _ ?_; clear hK K))
  refine wpSteady_nil ?_
  refine reg_seg 10 1 26 (by kernel_rfl) (by decide) (by kernel_rfl) (by kernel_rfl) (fun _ _ _ _ _ h => h) ?_
  simp only [List.take_succ_cons, List.take_zero, List.drop_succ_cons, List.drop_zero]
  repeat (refine wpSteady_step (fun K hK => ?_); go_simp; first | (refine steady_of ?_ (fun W hW => ?_) (hK _ ?_); rotate_left; (obtain hc9 := hW; go_simp; first | done | rfl); clear hK K) | (refine hK _ ?_; clear hK K))
  refine wpSteady_nil ?_
  refine reg_seg 13 3 23 (by kernel_rfl) (by decide) (by kernel_rfl) (by kernel_rfl) (fun _ _ _ _ _ h => h) ?_
  simp only [List.take_succ_cons, List.take_zero, List.drop_succ_cons, List.drop_zero]
  repeat (refine wpSteady_step (fun K hK => ?_); go_simp; first | (refine steady_of ?_ (fun W hW => ?_) (hK _ ?_); rotate_left; (obtain hc9 := hW; go_simp; first | done | rfl); clear hK K) | (refine hK _ ?_; clear hK K))
  refine wpSteady_nil ?_
  refine reg_seg 19 2 21 (by kernel_rfl) (by decide) (by kernel_rfl) (by kernel_rfl) (fun _ _ _ _ _ h => h) ?_
  simp only [List.take_succ_cons, List.take_zero, List.drop_succ_cons, List.drop_zero]
  repeat (refine wpSteady_step (fun K hK => ?_); go_simp; first | (refine steady_of ?_ (fun W hW => ?_) (hK _ ?_); rotate_left; (obtain hc9 := hW; go_simp; first | done | rfl); clear hK K) | (refine hK _ ?_; clear hK K))
  refine wpSteady_nil ?_
  refine reg_seg 22 1 20 (by kernel_rfl) (by decide) (by kernel_rfl) (by kernel_rfl) (fun _ _ _ _ _ h => h) ?_
  simp only [List.take_succ_cons, List.take_zero, List.drop_succ_cons, List.drop_zero]
  repeat (refine wpSteady_step (fun K hK => ?_); go_simp; first | (refine steady_of ?_ (fun W hW => ?_) (hK _ ?_); rotate_left; (obtain hc9 := hW; go_simp; first | done | rfl); clear hK K) | (refine hK _ ?_; clear hK K))
  refine wpSteady_nil ?_
  apply reg_meetW (R := fun pf px py' p3 W => Wst w13 true pf W)
  · intro hm
    refine reg_two 1 26 19 (by kernel_rfl) (by kernel_rfl) (unhide HQ W (unhide T).kw) ?_ ?_
    · skip
      simp only [List.take_succ_cons, List.take_zero, List.drop_succ_cons, List.drop_zero]
      go_wp2_with fail
      refine (sign_any pz z W ((unhide Z13).step (unhide T).kw) (by omega)).mono ?_
      rintro e wn ⟨hwn, rfl⟩
      subst wn
      go_wp2_with fail
      first | refine next_nil ?_ | refine next_go ?_
      refine reg_seg 2 4 15 (by kernel_rfl) (by decide) (by kernel_rfl) (by kernel_rfl) (fun _ _ _ _ _ h => h) ?_
      simp only [List.take_succ_cons, List.take_zero, List.drop_succ_cons, List.drop_zero]
      repeat (refine wpSteady_step (fun K hK => ?_); go_simp; first | (refine steady_of ?_ (fun W hW => ?_) (hK _ ?_); rotate_left; (obtain hc9 := hW; go_simp; first | done | rfl); clear hK K) | (refine hK _ ?_; clear hK K))
      refine wpSteady_nil ?_
      refine reg_two 6 26 14 (by kernel_rfl) (by kernel_rfl) (unhide HQ W (unhide T).kw) ?_ ?_
      · skip
        simp only [List.take_succ_cons, List.take_zero, List.drop_succ_cons, List.drop_zero]
        go_wp2_with fail
        refine (unhide TW W).mono ?_
        rintro e wn ⟨rfl, kn, bn⟩
        have T' := hide ((unhide T).call kn)
        have T := T'
        have X := hide bn
        clear kn bn T'
        generalize W.heap.size = px at *
        generalize wn = W at *
        go_wp2_with fail
        first | refine next_nil ?_ | refine next_go ?_
        refine reg_two 7 26 13 (by kernel_rfl) (by kernel_rfl) (unhide HQ W (unhide T).kw) ?_ ?_
        · skip
          simp only [List.take_succ_cons, List.take_zero, List.drop_succ_cons, List.drop_zero]
          go_wp2_with fail
          refine (cmp_big pz px z P W ((unhide Z13).step (unhide T).kw) (unhide X) (by omega) (by omega)).mono ?_
          rintro e wn ⟨kn, rfl⟩
          have T' := hide ((unhide T).call (drewB kn))
          have T := T'
          clear kn T'
          generalize wn = W at *
          go_wp2_with fail
          first | refine next_nil ?_ | refine next_go ?_
          refine reg_seg 8 2 11 (by kernel_rfl) (by decide) (by kernel_rfl) (by kernel_rfl) (fun _ _ _ _ _ h => h) ?_
          simp only [List.take_succ_cons, List.take_zero, List.drop_succ_cons, List.drop_zero]
          repeat (refine wpSteady_step (fun K hK => ?_); go_simp; first | (refine steady_of ?_ (fun W hW => ?_) (hK _ ?_); rotate_left; (obtain hc9 := hW; go_simp; first | done | rfl); clear hK K) | (refine hK _ ?_; clear hK K))
          refine wpSteady_nil ?_
          refine reg_two 11 26 10 (by kernel_rfl) (by kernel_rfl) (unhide HQ W (unhide T).kw) ?_ ?_
          · skip
            simp only [List.take_succ_cons, List.take_zero, List.drop_succ_cons, List.drop_zero]
            go_wp2_with fail
            refine (sign_any pr r W ((unhide R13).step (unhide T).kw) (by omega)).mono ?_
            rintro e wn ⟨hwn, rfl⟩
            subst wn
            go_wp2_with fail
            first | refine next_nil ?_ | refine next_go ?_
            refine reg_seg 12 1 9 (by kernel_rfl) (by decide) (by kernel_rfl) (by kernel_rfl) (fun _ _ _ _ _ h => h) ?_
            simp only [List.take_succ_cons, List.take_zero, List.drop_succ_cons, List.drop_zero]
            repeat (refine wpSteady_step (fun K hK => ?_); go_simp; first | (refine steady_of ?_ (fun W hW => ?_) (hK _ ?_); rotate_left; (obtain hc9 := hW; go_simp; first | done | rfl); clear hK K) | (refine hK _ ?_; clear hK K))
            refine wpSteady_nil ?_
            refine reg_two 16 26 8 (by kernel_rfl) (by kernel_rfl) (unhide HQ W (unhide T).kw) ?_ ?_
            · skip
              simp only [List.take_succ_cons, List.take_zero, List.drop_succ_cons, List.drop_zero]
              go_wp2_with fail
              refine (unhide TH W).mono ?_
              rintro e wn ⟨rfl, kn, bn⟩
              have T' := hide ((unhide T).call kn)
              have T := T'
              have X := hide bn
              clear kn bn T'
              generalize W.heap.size = py' at *
              generalize wn = W at *
              go_wp2_with fail
              first | refine next_nil ?_ | refine next_go ?_
              refine reg_two 17 26 7 (by kernel_rfl) (by kernel_rfl) (unhide HQ W (unhide T).kw) ?_ ?_
              · skip
                simp only [List.take_succ_cons, List.take_zero, List.drop_succ_cons, List.drop_zero]
                go_wp2_with fail
                refine (cmp_big pr py' r H W ((unhide R13).step (unhide T).kw) (unhide X) (by omega) (by omega)).mono ?_
                rintro e wn ⟨kn, rfl⟩
                have T' := hide ((unhide T).call (drewB kn))
                have T := T'
                clear kn T'
                generalize wn = W at *
                go_wp2_with fail
                first | refine next_nil ?_ | refine next_go ?_
                refine reg_seg 18 1 6 (by kernel_rfl) (by decide) (by kernel_rfl) (by kernel_rfl) (fun _ _ _ _ _ h => h) ?_
                simp only [List.take_succ_cons, List.take_zero, List.drop_succ_cons, List.drop_zero]
                repeat (refine wpSteady_step (fun K hK => ?_); go_simp; first | (refine steady_of ?_ (fun W hW => ?_) (hK _ ?_); rotate_left; (obtain hc9 := hW; go_simp; first | done | rfl); clear hK K) | (refine hK _ ?_; clear hK K))
                refine wpSteady_nil ?_
                refine reg_two 21 26 5 (by kernel_rfl) (by kernel_rfl) (unhide HQ W (unhide T).kw) ?_ ?_
                · skip
                  simp only [List.take_succ_cons, List.take_zero, List.drop_succ_cons, List.drop_zero]
                  go_wp2_with fail
                  refine (signW_any (16 * m) pr (w.heap.size + 1) r W ((unhide R13).step (unhide T).kw) (by have := (unhide T).kw.size; omega) (unhide HQ W (unhide T).kw) (by omega) (by omega) (by omega)).mono ?_
                  rintro e wn ⟨p3, rfl, q3, kn, bn⟩
                  have T' := hide ((unhide T).call kn)
                  have T := T'
                  have X := hide bn
                  clear kn bn T' q3
                  generalize wn = W at *
                  go_wp2_with fail
                  first | refine next_nil ?_ | refine next_go ?_
                  refine reg_two 23 26 4 (by kernel_rfl) (by kernel_rfl) (unhide HQ W (unhide T).kw) ?_ ?_
                  · skip
                    simp only [List.take_succ_cons, List.take_zero, List.drop_succ_cons, List.drop_zero]
                    go_wp2_with fail
                    refine (cmp_big p3 (pz + 1) (sgw (16 * m) r) s W (unhide X) ((unhide S13).step (unhide T).kw) (by omega) (by omega)).mono ?_
                    rintro e wn ⟨kn, rfl⟩
                    have T' := hide ((unhide T).call (drewB kn))
                    have T := T'
                    clear kn T'
                    generalize wn = W at *
                    go_wp2_with fail
                    first | refine next_nil ?_ | refine next_go ?_
                    refine reg_seg 24 2 2 (by kernel_rfl) (by decide) (by kernel_rfl) (by kernel_rfl) (fun _ _ _ _ _ h => h) ?_
                    simp only [List.take_succ_cons, List.take_zero, List.drop_succ_cons, List.drop_zero]
                    repeat (refine wpSteady_step (fun K hK => ?_); go_simp; first | (refine steady_of ?_ (fun W hW => ?_) (hK _ ?_); rotate_left; (obtain hc9 := hW; go_simp; first | done | rfl); clear hK K) | (refine hK _ ?_; clear hK K))
                    refine wpSteady_nil ?_
                    refine reg_one 26 1 (by kernel_rfl) (by kernel_rfl) (unhide HQ W (unhide T).kw) ?_
                    simp only [List.take_succ_cons, List.take_zero, List.drop_succ_cons, List.drop_zero]
                    go_wp2_with fail
                    have T' := hide ((unhide T).al (T := 24))
                    have T := T'
                    clear T'
                    generalize W.alloc (.cells #[.bool false, .bool false, .bool false, .bool false] 24) = W' at *
                    generalize W.heap.size = pf at *
                    generalize W' = W at *
                    first | refine next_nil ?_ | refine next_go ?_
                    refine reg_said #[true, true, true, true, true, true, true, true, true, true, true, true, true, true, true, true, true, true, true, true, true, true, true, true, true, true, true, false] (by kernel_rfl) ?_
                    exact hm pf px py' p3 W (unhide T)
                  · skip
                    simp only [List.take_succ_cons, List.take_zero, List.drop_succ_cons, List.drop_zero]
                    go_wp2_with fail
                    have T' := hide ((unhide T).al (T := 24))
                    have T := T'
                    have X' := hide ((unhide X).step (below_a W (.cells #[.bool false, .bool false, .bool false, .bool false] 24)))
                    have X := X'
                    clear X'
                    clear T'
                    generalize W.alloc (.cells #[.bool false, .bool false, .bool false, .bool false] 24) = W' at *
                    generalize W.heap.size = pf at *
                    generalize W' = W at *
                    first | refine next_nil ?_ | refine next_go ?_
                    refine reg_one 23 3 (by kernel_rfl) (by kernel_rfl) (unhide HQ W (unhide T).kw) ?_
                    simp only [List.take_succ_cons, List.take_zero, List.drop_succ_cons, List.drop_zero]
                    go_wp2_with fail
                    refine (cmp_big p3 (pz + 1) (sgw (16 * m) r) s W (unhide X) ((unhide S13).step (unhide T).kw) (by omega) (by omega)).mono ?_
                    rintro e wn ⟨kn, rfl⟩
                    have T' := hide ((unhide T).call (drewB kn))
                    have T := T'
                    clear kn T'
                    generalize wn = W at *
                    go_wp2_with fail
                    first | refine next_nil ?_ | refine next_go ?_
                    refine reg_seg 24 2 1 (by kernel_rfl) (by decide) (by kernel_rfl) (by kernel_rfl) (fun _ _ _ _ _ h => h) ?_
                    simp only [List.take_succ_cons, List.take_zero, List.drop_succ_cons, List.drop_zero]
                    repeat (refine wpSteady_step (fun K hK => ?_); go_simp; first | (refine steady_of ?_ (fun W hW => ?_) (hK _ ?_); rotate_left; (obtain hc9 := hW; go_simp; first | done | rfl); clear hK K) | (refine hK _ ?_; clear hK K))
                    refine wpSteady_nil ?_
                    refine reg_said #[true, true, true, true, true, true, true, true, true, true, true, true, true, true, true, true, true, true, true, true, true, true, true, true, true, true, true, false] (by kernel_rfl) ?_
                    exact hm pf px py' p3 W (unhide T)
                · skip
                  simp only [List.take_succ_cons, List.take_zero, List.drop_succ_cons, List.drop_zero]
                  go_wp2_with fail
                  have T' := hide ((unhide T).al (T := 24))
                  have T := T'
                  clear T'
                  generalize W.alloc (.cells #[.bool false, .bool false, .bool false, .bool false] 24) = W' at *
                  generalize W.heap.size = pf at *
                  generalize W' = W at *
                  first | refine next_nil ?_ | refine next_go ?_
                  refine reg_one 21 4 (by kernel_rfl) (by kernel_rfl) (unhide HQ W (unhide T).kw) ?_
                  simp only [List.take_succ_cons, List.take_zero, List.drop_succ_cons, List.drop_zero]
                  go_wp2_with fail
                  refine (signW_any (16 * m) pr (w.heap.size + 1) r W ((unhide R13).step (unhide T).kw) (by have := (unhide T).kw.size; omega) (unhide HQ W (unhide T).kw) (by omega) (by omega) (by omega)).mono ?_
                  rintro e wn ⟨p3, rfl, q3, kn, bn⟩
                  have T' := hide ((unhide T).call kn)
                  have T := T'
                  have X := hide bn
                  clear kn bn T' q3
                  generalize wn = W at *
                  go_wp2_with fail
                  first | refine next_nil ?_ | refine next_go ?_
                  refine reg_one 23 3 (by kernel_rfl) (by kernel_rfl) (unhide HQ W (unhide T).kw) ?_
                  simp only [List.take_succ_cons, List.take_zero, List.drop_succ_cons, List.drop_zero]
                  go_wp2_with fail
                  refine (cmp_big p3 (pz + 1) (sgw (16 * m) r) s W (unhide X) ((unhide S13).step (unhide T).kw) (by omega) (by omega)).mono ?_
                  rintro e wn ⟨kn, rfl⟩
                  have T' := hide ((unhide T).call (drewB kn))
                  have T := T'
                  clear kn T'
                  generalize wn = W at *
                  go_wp2_with fail
                  first | refine next_nil ?_ | refine next_go ?_
                  refine reg_seg 24 2 1 (by kernel_rfl) (by decide) (by kernel_rfl) (by kernel_rfl) (fun _ _ _ _ _ h => h) ?_
                  simp only [List.take_succ_cons, List.take_zero, List.drop_succ_cons, List.drop_zero]
                  repeat (refine wpSteady_step (fun K hK => ?_); go_simp; first | (refine steady_of ?_ (fun W hW => ?_) (hK _ ?_); rotate_left; (obtain hc9 := hW; go_simp; first | done | rfl); clear hK K) | (refine hK _ ?_; clear hK K))
                  refine wpSteady_nil ?_
                  refine reg_said #[true, true, true, true, true, true, true, true, true, true, true, true, true, true, true, true, true, true, true, true, true, true, true, true, true, true, true, false] (by kernel_rfl) ?_
                  exact hm pf px py' p3 W (unhide T)
              · skip
                simp only [List.take_succ_cons, List.take_zero, List.drop_succ_cons, List.drop_zero]
                go_wp2_with fail
                have T' := hide ((unhide T).al (T := 24))
                have T := T'
                have X' := hide ((unhide X).step (below_a W (.cells #[.bool false, .bool false, .bool false, .bool false] 24)))
                have X := X'
                clear X'
                clear T'
                generalize W.alloc (.cells #[.bool false, .bool false, .bool false, .bool false] 24) = W' at *
                generalize W.heap.size = pf at *
                generalize W' = W at *
                first | refine next_nil ?_ | refine next_go ?_
                refine reg_one 17 6 (by kernel_rfl) (by kernel_rfl) (unhide HQ W (unhide T).kw) ?_
                simp only [List.take_succ_cons, List.take_zero, List.drop_succ_cons, List.drop_zero]
                go_wp2_with fail
                refine (cmp_big pr py' r H W ((unhide R13).step (unhide T).kw) (unhide X) (by omega) (by omega)).mono ?_
                rintro e wn ⟨kn, rfl⟩
                have T' := hide ((unhide T).call (drewB kn))
                have T := T'
                clear kn T'
                generalize wn = W at *
                go_wp2_with fail
                first | refine next_nil ?_ | refine next_go ?_
                refine reg_seg 18 1 5 (by kernel_rfl) (by decide) (by kernel_rfl) (by kernel_rfl) (fun _ _ _ _ _ h => h) ?_
                simp only [List.take_succ_cons, List.take_zero, List.drop_succ_cons, List.drop_zero]
                repeat (refine wpSteady_step (fun K hK => ?_); go_simp; first | (refine steady_of ?_ (fun W hW => ?_) (hK _ ?_); rotate_left; (obtain hc9 := hW; go_simp; first | done | rfl); clear hK K) | (refine hK _ ?_; clear hK K))
                refine wpSteady_nil ?_
                refine reg_one 21 4 (by kernel_rfl) (by kernel_rfl) (unhide HQ W (unhide T).kw) ?_
                simp only [List.take_succ_cons, List.take_zero, List.drop_succ_cons, List.drop_zero]
                go_wp2_with fail
                refine (signW_any (16 * m) pr (w.heap.size + 1) r W ((unhide R13).step (unhide T).kw) (by have := (unhide T).kw.size; omega) (unhide HQ W (unhide T).kw) (by omega) (by omega) (by omega)).mono ?_
                rintro e wn ⟨p3, rfl, q3, kn, bn⟩
                have T' := hide ((unhide T).call kn)
                have T := T'
                have X := hide bn
                clear kn bn T' q3
                generalize wn = W at *
                go_wp2_with fail
                first | refine next_nil ?_ | refine next_go ?_
                refine reg_one 23 3 (by kernel_rfl) (by kernel_rfl) (unhide HQ W (unhide T).kw) ?_
                simp only [List.take_succ_cons, List.take_zero, List.drop_succ_cons, List.drop_zero]
                go_wp2_with fail
                refine (cmp_big p3 (pz + 1) (sgw (16 * m) r) s W (unhide X) ((unhide S13).step (unhide T).kw) (by omega) (by omega)).mono ?_
                rintro e wn ⟨kn, rfl⟩
                have T' := hide ((unhide T).call (drewB kn))
                have T := T'
                clear kn T'
                generalize wn = W at *
                go_wp2_with fail
                first | refine next_nil ?_ | refine next_go ?_
                refine reg_seg 24 2 1 (by kernel_rfl) (by decide) (by kernel_rfl) (by kernel_rfl) (fun _ _ _ _ _ h => h) ?_
                simp only [List.take_succ_cons, List.take_zero, List.drop_succ_cons, List.drop_zero]
                repeat (refine wpSteady_step (fun K hK => ?_); go_simp; first | (refine steady_of ?_ (fun W hW => ?_) (hK _ ?_); rotate_left; (obtain hc9 := hW; go_simp; first | done | rfl); clear hK K) | (refine hK _ ?_; clear hK K))
                refine wpSteady_nil ?_
                refine reg_said #[true, true, true, true, true, true, true, true, true, true, true, true, true, true, true, true, true, true, true, true, true, true, true, true, true, true, true, false] (by kernel_rfl) ?_
                exact hm pf px py' p3 W (unhide T)
            · skip
              simp only [List.take_succ_cons, List.take_zero, List.drop_succ_cons, List.drop_zero]
              go_wp2_with fail
              have T' := hide ((unhide T).al (T := 24))
              have T := T'
              clear T'
              generalize W.alloc (.cells #[.bool false, .bool false, .bool false, .bool false] 24) = W' at *
              generalize W.heap.size = pf at *
              generalize W' = W at *
              first | refine next_nil ?_ | refine next_go ?_
              refine reg_one 16 7 (by kernel_rfl) (by kernel_rfl) (unhide HQ W (unhide T).kw) ?_
              simp only [List.take_succ_cons, List.take_zero, List.drop_succ_cons, List.drop_zero]
              go_wp2_with fail
              refine (unhide TH W).mono ?_
              rintro e wn ⟨rfl, kn, bn⟩
              have T' := hide ((unhide T).call kn)
              have T := T'
              have X := hide bn
              clear kn bn T'
              generalize W.heap.size = py' at *
              generalize wn = W at *
              go_wp2_with fail
              first | refine next_nil ?_ | refine next_go ?_
              refine reg_one 17 6 (by kernel_rfl) (by kernel_rfl) (unhide HQ W (unhide T).kw) ?_
              simp only [List.take_succ_cons, List.take_zero, List.drop_succ_cons, List.drop_zero]
              go_wp2_with fail
              refine (cmp_big pr py' r H W ((unhide R13).step (unhide T).kw) (unhide X) (by omega) (by omega)).mono ?_
              rintro e wn ⟨kn, rfl⟩
              have T' := hide ((unhide T).call (drewB kn))
              have T := T'
              clear kn T'
              generalize wn = W at *
              go_wp2_with fail
              first | refine next_nil ?_ | refine next_go ?_
              refine reg_seg 18 1 5 (by kernel_rfl) (by decide) (by kernel_rfl) (by kernel_rfl) (fun _ _ _ _ _ h => h) ?_
              simp only [List.take_succ_cons, List.take_zero, List.drop_succ_cons, List.drop_zero]
              repeat (refine wpSteady_step (fun K hK => ?_); go_simp; first | (refine steady_of ?_ (fun W hW => ?_) (hK _ ?_); rotate_left; (obtain hc9 := hW; go_simp; first | done | rfl); clear hK K) | (refine hK _ ?_; clear hK K))
              refine wpSteady_nil ?_
              refine reg_one 21 4 (by kernel_rfl) (by kernel_rfl) (unhide HQ W (unhide T).kw) ?_
              simp only [List.take_succ_cons, List.take_zero, List.drop_succ_cons, List.drop_zero]
              go_wp2_with fail
              refine (signW_any (16 * m) pr (w.heap.size + 1) r W ((unhide R13).step (unhide T).kw) (by have := (unhide T).kw.size; omega) (unhide HQ W (unhide T).kw) (by omega) (by omega) (by omega)).mono ?_
              rintro e wn ⟨p3, rfl, q3, kn, bn⟩
              have T' := hide ((unhide T).call kn)
              have T := T'
              have X := hide bn
              clear kn bn T' q3
              generalize wn = W at *
              go_wp2_with fail
              first | refine next_nil ?_ | refine next_go ?_
              refine reg_one 23 3 (by kernel_rfl) (by kernel_rfl) (unhide HQ W (unhide T).kw) ?_
              simp only [List.take_succ_cons, List.take_zero, List.drop_succ_cons, List.drop_zero]
              go_wp2_with fail
              refine (cmp_big p3 (pz + 1) (sgw (16 * m) r) s W (unhide X) ((unhide S13).step (unhide T).kw) (by omega) (by omega)).mono ?_
              rintro e wn ⟨kn, rfl⟩
              have T' := hide ((unhide T).call (drewB kn))
              have T := T'
              clear kn T'
              generalize wn = W at *
              go_wp2_with fail
              first | refine next_nil ?_ | refine next_go ?_
              refine reg_seg 24 2 1 (by kernel_rfl) (by decide) (by kernel_rfl) (by kernel_rfl) (fun _ _ _ _ _ h => h) ?_
              simp only [List.take_succ_cons, List.take_zero, List.drop_succ_cons, List.drop_zero]
              repeat (refine wpSteady_step (fun K hK => ?_); go_simp; first | (refine steady_of ?_ (fun W hW => ?_) (hK _ ?_); rotate_left; (obtain hc9 := hW; go_simp; first | done | rfl); clear hK K) | (refine hK _ ?_; clear hK K))
              refine wpSteady_nil ?_
              refine reg_said #[true, true, true, true, true, true, true, true, true, true, true, true, true, true, true, true, true, true, true, true, true, true, true, true, true, true, true, false] (by kernel_rfl) ?_
              exact hm pf px py' p3 W (unhide T)
          · skip
            simp only [List.take_succ_cons, List.take_zero, List.drop_succ_cons, List.drop_zero]
            go_wp2_with fail
            have T' := hide ((unhide T).al (T := 24))
            have T := T'
            clear T'
            generalize W.alloc (.cells #[.bool false, .bool false, .bool false, .bool false] 24) = W' at *
            generalize W.heap.size = pf at *
            generalize W' = W at *
            first | refine next_nil ?_ | refine next_go ?_
            refine reg_one 11 9 (by kernel_rfl) (by kernel_rfl) (unhide HQ W (unhide T).kw) ?_
            simp only [List.take_succ_cons, List.take_zero, List.drop_succ_cons, List.drop_zero]
            go_wp2_with fail
            refine (sign_any pr r W ((unhide R13).step (unhide T).kw) (by omega)).mono ?_
            rintro e wn ⟨hwn, rfl⟩
            subst wn
            go_wp2_with fail
            first | refine next_nil ?_ | refine next_go ?_
            refine reg_seg 12 1 8 (by kernel_rfl) (by decide) (by kernel_rfl) (by kernel_rfl) (fun _ _ _ _ _ h => h) ?_
            simp only [List.take_succ_cons, List.take_zero, List.drop_succ_cons, List.drop_zero]
            repeat (refine wpSteady_step (fun K hK => ?_); go_simp; first | (refine steady_of ?_ (fun W hW => ?_) (hK _ ?_); rotate_left; (obtain hc9 := hW; go_simp; first | done | rfl); clear hK K) | (refine hK _ ?_; clear hK K))
            refine wpSteady_nil ?_
            refine reg_one 16 7 (by kernel_rfl) (by kernel_rfl) (unhide HQ W (unhide T).kw) ?_
            simp only [List.take_succ_cons, List.take_zero, List.drop_succ_cons, List.drop_zero]
            go_wp2_with fail
            refine (unhide TH W).mono ?_
            rintro e wn ⟨rfl, kn, bn⟩
            have T' := hide ((unhide T).call kn)
            have T := T'
            have X := hide bn
            clear kn bn T'
            generalize W.heap.size = py' at *
            generalize wn = W at *
            go_wp2_with fail
            first | refine next_nil ?_ | refine next_go ?_
            refine reg_one 17 6 (by kernel_rfl) (by kernel_rfl) (unhide HQ W (unhide T).kw) ?_
            simp only [List.take_succ_cons, List.take_zero, List.drop_succ_cons, List.drop_zero]
            go_wp2_with fail
            refine (cmp_big pr py' r H W ((unhide R13).step (unhide T).kw) (unhide X) (by omega) (by omega)).mono ?_
            rintro e wn ⟨kn, rfl⟩
            have T' := hide ((unhide T).call (drewB kn))
            have T := T'
            clear kn T'
            generalize wn = W at *
            go_wp2_with fail
            first | refine next_nil ?_ | refine next_go ?_
            refine reg_seg 18 1 5 (by kernel_rfl) (by decide) (by kernel_rfl) (by kernel_rfl) (fun _ _ _ _ _ h => h) ?_
            simp only [List.take_succ_cons, List.take_zero, List.drop_succ_cons, List.drop_zero]
            repeat (refine wpSteady_step (fun K hK => ?_); go_simp; first | (refine steady_of ?_ (fun W hW => ?_) (hK _ ?_); rotate_left; (obtain hc9 := hW; go_simp; first | done | rfl); clear hK K) | (refine hK _ ?_; clear hK K))
            refine wpSteady_nil ?_
            refine reg_one 21 4 (by kernel_rfl) (by kernel_rfl) (unhide HQ W (unhide T).kw) ?_
            simp only [List.take_succ_cons, List.take_zero, List.drop_succ_cons, List.drop_zero]
            go_wp2_with fail
            refine (signW_any (16 * m) pr (w.heap.size + 1) r W ((unhide R13).step (unhide T).kw) (by have := (unhide T).kw.size; omega) (unhide HQ W (unhide T).kw) (by omega) (by omega) (by omega)).mono ?_
            rintro e wn ⟨p3, rfl, q3, kn, bn⟩
            have T' := hide ((unhide T).call kn)
            have T := T'
            have X := hide bn
            clear kn bn T' q3
            generalize wn = W at *
            go_wp2_with fail
            first | refine next_nil ?_ | refine next_go ?_
            refine reg_one 23 3 (by kernel_rfl) (by kernel_rfl) (unhide HQ W (unhide T).kw) ?_
            simp only [List.take_succ_cons, List.take_zero, List.drop_succ_cons, List.drop_zero]
            go_wp2_with fail
            refine (cmp_big p3 (pz + 1) (sgw (16 * m) r) s W (unhide X) ((unhide S13).step (unhide T).kw) (by omega) (by omega)).mono ?_
            rintro e wn ⟨kn, rfl⟩
            have T' := hide ((unhide T).call (drewB kn))
            have T := T'
            clear kn T'
            generalize wn = W at *
            go_wp2_with fail
            first | refine next_nil ?_ | refine next_go ?_
            refine reg_seg 24 2 1 (by kernel_rfl) (by decide) (by kernel_rfl) (by kernel_rfl) (fun _ _ _ _ _ h => h) ?_
            simp only [List.take_succ_cons, List.take_zero, List.drop_succ_cons, List.drop_zero]
            repeat (refine wpSteady_step (fun K hK => ?_); go_simp; first | (refine steady_of ?_ (fun W hW => ?_) (hK _ ?_); rotate_left; (obtain hc9 := hW; go_simp; first | done | rfl); clear hK K) | (refine hK _ ?_; clear hK K))
            refine wpSteady_nil ?_
            refine reg_said #[true, true, true, true, true, true, true, true, true, true, true, true, true, true, true, true, true, true, true, true, true, true, true, true, true, true, true, false] (by kernel_rfl) ?_
            exact hm pf px py' p3 W (unhide T)
        · skip
          simp only [List.take_succ_cons, List.take_zero, List.drop_succ_cons, List.drop_zero]
          go_wp2_with fail
          have T' := hide ((unhide T).al (T := 24))
          have T := T'
          have X' := hide ((unhide X).step (below_a W (.cells #[.bool false, .bool false, .bool false, .bool false] 24)))
          have X := X'
          clear X'
          clear T'
          generalize W.alloc (.cells #[.bool false, .bool false, .bool false, .bool false] 24) = W' at *
          generalize W.heap.size = pf at *
          generalize W' = W at *
          first | refine next_nil ?_ | refine next_go ?_
          refine reg_one 7 12 (by kernel_rfl) (by kernel_rfl) (unhide HQ W (unhide T).kw) ?_
          simp only [List.take_succ_cons, List.take_zero, List.drop_succ_cons, List.drop_zero]
          go_wp2_with fail
          refine (cmp_big pz px z P W ((unhide Z13).step (unhide T).kw) (unhide X) (by omega) (by omega)).mono ?_
          rintro e wn ⟨kn, rfl⟩
          have T' := hide ((unhide T).call (drewB kn))
          have T := T'
          clear kn T'
          generalize wn = W at *
          go_wp2_with fail
          first | refine next_nil ?_ | refine next_go ?_
          refine reg_seg 8 2 10 (by kernel_rfl) (by decide) (by kernel_rfl) (by kernel_rfl) (fun _ _ _ _ _ h => h) ?_
          simp only [List.take_succ_cons, List.take_zero, List.drop_succ_cons, List.drop_zero]
          repeat (refine wpSteady_step (fun K hK => ?_); go_simp; first | (refine steady_of ?_ (fun W hW => ?_) (hK _ ?_); rotate_left; (obtain hc9 := hW; go_simp; first | done | rfl); clear hK K) | (refine hK _ ?_; clear hK K))
          refine wpSteady_nil ?_
          refine reg_one 11 9 (by kernel_rfl) (by kernel_rfl) (unhide HQ W (unhide T).kw) ?_
          simp only [List.take_succ_cons, List.take_zero, List.drop_succ_cons, List.drop_zero]
          go_wp2_with fail
          refine (sign_any pr r W ((unhide R13).step (unhide T).kw) (by omega)).mono ?_
          rintro e wn ⟨hwn, rfl⟩
          subst wn
          go_wp2_with fail
          first | refine next_nil ?_ | refine next_go ?_
          refine reg_seg 12 1 8 (by kernel_rfl) (by decide) (by kernel_rfl) (by kernel_rfl) (fun _ _ _ _ _ h => h) ?_
          simp only [List.take_succ_cons, List.take_zero, List.drop_succ_cons, List.drop_zero]
          repeat (refine wpSteady_step (fun K hK => ?_); go_simp; first | (refine steady_of ?_ (fun W hW => ?_) (hK _ ?_); rotate_left; (obtain hc9 := hW; go_simp; first | done | rfl); clear hK K) | (refine hK _ ?_; clear hK K))
          refine wpSteady_nil ?_
          refine reg_one 16 7 (by kernel_rfl) (by kernel_rfl) (unhide HQ W (unhide T).kw) ?_
          simp only [List.take_succ_cons, List.take_zero, List.drop_succ_cons, List.drop_zero]
          go_wp2_with fail
          refine (unhide TH W).mono ?_
          rintro e wn ⟨rfl, kn, bn⟩
          have T' := hide ((unhide T).call kn)
          have T := T'
          have X := hide bn
          clear kn bn T'
          generalize W.heap.size = py' at *
          generalize wn = W at *
          go_wp2_with fail
          first | refine next_nil ?_ | refine next_go ?_
          refine reg_one 17 6 (by kernel_rfl) (by kernel_rfl) (unhide HQ W (unhide T).kw) ?_
          simp only [List.take_succ_cons, List.take_zero, List.drop_succ_cons, List.drop_zero]
          go_wp2_with fail
          refine (cmp_big pr py' r H W ((unhide R13).step (unhide T).kw) (unhide X) (by omega) (by omega)).mono ?_
          rintro e wn ⟨kn, rfl⟩
          have T' := hide ((unhide T).call (drewB kn))
          have T := T'
          clear kn T'
          generalize wn = W at *
          go_wp2_with fail
          first | refine next_nil ?_ | refine next_go ?_
          refine reg_seg 18 1 5 (by kernel_rfl) (by decide) (by kernel_rfl) (by kernel_rfl) (fun _ _ _ _ _ h => h) ?_
          simp only [List.take_succ_cons, List.take_zero, List.drop_succ_cons, List.drop_zero]
          repeat (refine wpSteady_step (fun K hK => ?_); go_simp; first | (refine steady_of ?_ (fun W hW => ?_) (hK _ ?_); rotate_left; (obtain hc9 := hW; go_simp; first | done | rfl); clear hK K) | (refine hK _ ?_; clear hK K))
          refine wpSteady_nil ?_
          refine reg_one 21 4 (by kernel_rfl) (by kernel_rfl) (unhide HQ W (unhide T).kw) ?_
          simp only [List.take_succ_cons, List.take_zero, List.drop_succ_cons, List.drop_zero]
          go_wp2_with fail
          refine (signW_any (16 * m) pr (w.heap.size + 1) r W ((unhide R13).step (unhide T).kw) (by have := (unhide T).kw.size; omega) (unhide HQ W (unhide T).kw) (by omega) (by omega) (by omega)).mono ?_
          rintro e wn ⟨p3, rfl, q3, kn, bn⟩
          have T' := hide ((unhide T).call kn)
          have T := T'
          have X := hide bn
          clear kn bn T' q3
          generalize wn = W at *
          go_wp2_with fail
          first | refine next_nil ?_ | refine next_go ?_
          refine reg_one 23 3 (by kernel_rfl) (by kernel_rfl) (unhide HQ W (unhide T).kw) ?_
          simp only [List.take_succ_cons, List.take_zero, List.drop_succ_cons, List.drop_zero]
          go_wp2_with fail
          refine (cmp_big p3 (pz + 1) (sgw (16 * m) r) s W (unhide X) ((unhide S13).step (unhide T).kw) (by omega) (by omega)).mono ?_
          rintro e wn ⟨kn, rfl⟩
          have T' := hide ((unhide T).call (drewB kn))
          have T := T'
          clear kn T'
          generalize wn = W at *
          go_wp2_with fail
          first | refine next_nil ?_ | refine next_go ?_
          refine reg_seg 24 2 1 (by kernel_rfl) (by decide) (by kernel_rfl) (by kernel_rfl) (fun _ _ _ _ _ h => h) ?_
          simp only [List.take_succ_cons, List.take_zero, List.drop_succ_cons, List.drop_zero]
          repeat (refine wpSteady_step (fun K hK => ?_); go_simp; first | (refine steady_of ?_ (fun W hW => ?_) (hK _ ?_); rotate_left; (obtain hc9 := hW; go_simp; first | done | rfl); clear hK K) | (refine hK _ ?_; clear hK K))
          refine wpSteady_nil ?_
          refine reg_said #[true, true, true, true, true, true, true, true, true, true, true, true, true, true, true, true, true, true, true, true, true, true, true, true, true, true, true, false] (by kernel_rfl) ?_
          exact hm pf px py' p3 W (unhide T)
      · skip
        simp only [List.take_succ_cons, List.take_zero, List.drop_succ_cons, List.drop_zero]
        go_wp2_with fail
        have T' := hide ((unhide T).al (T := 24))
        have T := T'
        clear T'
        generalize W.alloc (.cells #[.bool false, .bool false, .bool false, .bool false] 24) = W' at *
        generalize W.heap.size = pf at *
        generalize W' = W at *
        first | refine next_nil ?_ | refine next_go ?_
        refine reg_one 6 13 (by kernel_rfl) (by kernel_rfl) (unhide HQ W (unhide T).kw) ?_
        simp only [List.take_succ_cons, List.take_zero, List.drop_succ_cons, List.drop_zero]
        go_wp2_with fail
        refine (unhide TW W).mono ?_
        rintro e wn ⟨rfl, kn, bn⟩
        have T' := hide ((unhide T).call kn)
        have T := T'
        have X := hide bn
        clear kn bn T'
        generalize W.heap.size = px at *
        generalize wn = W at *
        go_wp2_with fail
        first | refine next_nil ?_ | refine next_go ?_
        refine reg_one 7 12 (by kernel_rfl) (by kernel_rfl) (unhide HQ W (unhide T).kw) ?_
        simp only [List.take_succ_cons, List.take_zero, List.drop_succ_cons, List.drop_zero]
        go_wp2_with fail
        refine (cmp_big pz px z P W ((unhide Z13).step (unhide T).kw) (unhide X) (by omega) (by omega)).mono ?_
        rintro e wn ⟨kn, rfl⟩
        have T' := hide ((unhide T).call (drewB kn))
        have T := T'
        clear kn T'
        generalize wn = W at *
        go_wp2_with fail
        first | refine next_nil ?_ | refine next_go ?_
        refine reg_seg 8 2 10 (by kernel_rfl) (by decide) (by kernel_rfl) (by kernel_rfl) (fun _ _ _ _ _ h => h) ?_
        simp only [List.take_succ_cons, List.take_zero, List.drop_succ_cons, List.drop_zero]
        repeat (refine wpSteady_step (fun K hK => ?_); go_simp; first | (refine steady_of ?_ (fun W hW => ?_) (hK _ ?_); rotate_left; (obtain hc9 := hW; go_simp; first | done | rfl); clear hK K) | (refine hK _ ?_; clear hK K))
        refine wpSteady_nil ?_
        refine reg_one 11 9 (by kernel_rfl) (by kernel_rfl) (unhide HQ W (unhide T).kw) ?_
        simp only [List.take_succ_cons, List.take_zero, List.drop_succ_cons, List.drop_zero]
        go_wp2_with fail
        refine (sign_any pr r W ((unhide R13).step (unhide T).kw) (by omega)).mono ?_
        rintro e wn ⟨hwn, rfl⟩
        subst wn
        go_wp2_with fail
        first | refine next_nil ?_ | refine next_go ?_
        refine reg_seg 12 1 8 (by kernel_rfl) (by decide) (by kernel_rfl) (by kernel_rfl) (fun _ _ _ _ _ h => h) ?_
        simp only [List.take_succ_cons, List.take_zero, List.drop_succ_cons, List.drop_zero]
        repeat (refine wpSteady_step (fun K hK => ?_); go_simp; first | (refine steady_of ?_ (fun W hW => ?_) (hK _ ?_); rotate_left; (obtain hc9 := hW; go_simp; first | done | rfl); clear hK K) | (refine hK _ ?_; clear hK K))
        refine wpSteady_nil ?_
        refine reg_one 16 7 (by kernel_rfl) (by kernel_rfl) (unhide HQ W (unhide T).kw) ?_
        simp only [List.take_succ_cons, List.take_zero, List.drop_succ_cons, List.drop_zero]
        go_wp2_with fail
        refine (unhide TH W).mono ?_
        rintro e wn ⟨rfl, kn, bn⟩
        have T' := hide ((unhide T).call kn)
        have T := T'
        have X := hide bn
        clear kn bn T'
        generalize W.heap.size = py' at *
        generalize wn = W at *
        go_wp2_with fail
        first | refine next_nil ?_ | refine next_go ?_
        refine reg_one 17 6 (by kernel_rfl) (by kernel_rfl) (unhide HQ W (unhide T).kw) ?_
        simp only [List.take_succ_cons, List.take_zero, List.drop_succ_cons, List.drop_zero]
        go_wp2_with fail
        refine (cmp_big pr py' r H W ((unhide R13).step (unhide T).kw) (unhide X) (by omega) (by omega)).mono ?_
        rintro e wn ⟨kn, rfl⟩
        have T' := hide ((unhide T).call (drewB kn))
        have T := T'
        clear kn T'
        generalize wn = W at *
        go_wp2_with fail
        first | refine next_nil ?_ | refine next_go ?_
        refine reg_seg 18 1 5 (by kernel_rfl) (by decide) (by kernel_rfl) (by kernel_rfl) (fun _ _ _ _ _ h => h) ?_
        simp only [List.take_succ_cons, List.take_zero, List.drop_succ_cons, List.drop_zero]
        repeat (refine wpSteady_step (fun K hK => ?_); go_simp; first | (refine steady_of ?_ (fun W hW => ?_) (hK _ ?_); rotate_left; (obtain hc9 := hW; go_simp; first | done | rfl); clear hK K) | (refine hK _ ?_; clear hK K))
        refine wpSteady_nil ?_
        refine reg_one 21 4 (by kernel_rfl) (by kernel_rfl) (unhide HQ W (unhide T).kw) ?_
        simp only [List.take_succ_cons, List.take_zero, List.drop_succ_cons, List.drop_zero]
        go_wp2_with fail
        refine (signW_any (16 * m) pr (w.heap.size + 1) r W ((unhide R13).step (unhide T).kw) (by have := (unhide T).kw.size; omega) (unhide HQ W (unhide T).kw) (by omega) (by omega) (by omega)).mono ?_
        rintro e wn ⟨p3, rfl, q3, kn, bn⟩
        have T' := hide ((unhide T).call kn)
        have T := T'
        have X := hide bn
        clear kn bn T' q3
        generalize wn = W at *
        go_wp2_with fail
        first | refine next_nil ?_ | refine next_go ?_
        refine reg_one 23 3 (by kernel_rfl) (by kernel_rfl) (unhide HQ W (unhide T).kw) ?_
        simp only [List.take_succ_cons, List.take_zero, List.drop_succ_cons, List.drop_zero]
        go_wp2_with fail
        refine (cmp_big p3 (pz + 1) (sgw (16 * m) r) s W (unhide X) ((unhide S13).step (unhide T).kw) (by omega) (by omega)).mono ?_
        rintro e wn ⟨kn, rfl⟩
        have T' := hide ((unhide T).call (drewB kn))
        have T := T'
        clear kn T'
        generalize wn = W at *
        go_wp2_with fail
        first | refine next_nil ?_ | refine next_go ?_
        refine reg_seg 24 2 1 (by kernel_rfl) (by decide) (by kernel_rfl) (by kernel_rfl) (fun _ _ _ _ _ h => h) ?_
        simp only [List.take_succ_cons, List.take_zero, List.drop_succ_cons, List.drop_zero]
        repeat (refine wpSteady_step (fun K hK => ?_); go_simp; first | (refine steady_of ?_ (fun W hW => ?_) (hK _ ?_); rotate_left; (obtain hc9 := hW; go_simp; first | done | rfl); clear hK K) | (refine hK _ ?_; clear hK K))
        refine wpSteady_nil ?_
        refine reg_said #[true, true, true, true, true, true, true, true, true, true, true, true, true, true, true, true, true, true, true, true, true, true, true, true, true, true, true, false] (by kernel_rfl) ?_
        exact hm pf px py' p3 W (unhide T)
    · skip
      simp only [List.take_succ_cons, List.take_zero, List.drop_succ_cons, List.drop_zero]
      go_wp2_with fail
      have T' := hide ((unhide T).al (T := 24))
      have T := T'
      clear T'
      generalize W.alloc (.cells #[.bool false, .bool false, .bool false, .bool false] 24) = W' at *
      generalize W.heap.size = pf at *
      generalize W' = W at *
      first | refine next_nil ?_ | refine next_go ?_
      refine reg_one 1 18 (by kernel_rfl) (by kernel_rfl) (unhide HQ W (unhide T).kw) ?_
      simp only [List.take_succ_cons, List.take_zero, List.drop_succ_cons, List.drop_zero]
      go_wp2_with fail
      refine (sign_any pz z W ((unhide Z13).step (unhide T).kw) (by omega)).mono ?_
      rintro e wn ⟨hwn, rfl⟩
      subst wn
      go_wp2_with fail
      first | refine next_nil ?_ | refine next_go ?_
      refine reg_seg 2 4 14 (by kernel_rfl) (by decide) (by kernel_rfl) (by kernel_rfl) (fun _ _ _ _ _ h => h) ?_
      simp only [List.take_succ_cons, List.take_zero, List.drop_succ_cons, List.drop_zero]
      repeat (refine wpSteady_step (fun K hK => ?_); go_simp; first | (refine steady_of ?_ (fun W hW => ?_) (hK _ ?_); rotate_left; (obtain hc9 := hW; go_simp; first | done | rfl); clear hK K) | (refine hK _ ?_; clear hK K))
      refine wpSteady_nil ?_
      refine reg_one 6 13 (by kernel_rfl) (by kernel_rfl) (unhide HQ W (unhide T).kw) ?_
      simp only [List.take_succ_cons, List.take_zero, List.drop_succ_cons, List.drop_zero]
      go_wp2_with fail
      refine (unhide TW W).mono ?_
      rintro e wn ⟨rfl, kn, bn⟩
      have T' := hide ((unhide T).call kn)
      have T := T'
      have X := hide bn
      clear kn bn T'
      generalize W.heap.size = px at *
      generalize wn = W at *
      go_wp2_with fail
      first | refine next_nil ?_ | refine next_go ?_
      refine reg_one 7 12 (by kernel_rfl) (by kernel_rfl) (unhide HQ W (unhide T).kw) ?_
      simp only [List.take_succ_cons, List.take_zero, List.drop_succ_cons, List.drop_zero]
      go_wp2_with fail
      refine (cmp_big pz px z P W ((unhide Z13).step (unhide T).kw) (unhide X) (by omega) (by omega)).mono ?_
      rintro e wn ⟨kn, rfl⟩
      have T' := hide ((unhide T).call (drewB kn))
      have T := T'
      clear kn T'
      generalize wn = W at *
      go_wp2_with fail
      first | refine next_nil ?_ | refine next_go ?_
      refine reg_seg 8 2 10 (by kernel_rfl) (by decide) (by kernel_rfl) (by kernel_rfl) (fun _ _ _ _ _ h => h) ?_
      simp only [List.take_succ_cons, List.take_zero, List.drop_succ_cons, List.drop_zero]
      repeat (refine wpSteady_step (fun K hK => ?_); go_simp; first | (refine steady_of ?_ (fun W hW => ?_) (hK _ ?_); rotate_left; (obtain hc9 := hW; go_simp; first | done | rfl); clear hK K) | (refine hK _ ?_; clear hK K))
      refine wpSteady_nil ?_
      refine reg_one 11 9 (by kernel_rfl) (by kernel_rfl) (unhide HQ W (unhide T).kw) ?_
      simp only [List.take_succ_cons, List.take_zero, List.drop_succ_cons, List.drop_zero]
      go_wp2_with fail
      refine (sign_any pr r W ((unhide R13).step (unhide T).kw) (by omega)).mono ?_
      rintro e wn ⟨hwn, rfl⟩
      subst wn
      go_wp2_with fail
      first | refine next_nil ?_ | refine next_go ?_
      refine reg_seg 12 1 8 (by kernel_rfl) (by decide) (by kernel_rfl) (by kernel_rfl) (fun _ _ _ _ _ h => h) ?_
      simp only [List.take_succ_cons, List.take_zero, List.drop_succ_cons, List.drop_zero]
      repeat (refine wpSteady_step (fun K hK => ?_); go_simp; first | (refine steady_of ?_ (fun W hW => ?_) (hK _ ?_); rotate_left; (obtain hc9 := hW; go_simp; first | done | rfl); clear hK K) | (refine hK _ ?_; clear hK K))
      refine wpSteady_nil ?_
      refine reg_one 16 7 (by kernel_rfl) (by kernel_rfl) (unhide HQ W (unhide T).kw) ?_
      simp only [List.take_succ_cons, List.take_zero, List.drop_succ_cons, List.drop_zero]
      go_wp2_with fail
      refine (unhide TH W).mono ?_
      rintro e wn ⟨rfl, kn, bn⟩
      have T' := hide ((unhide T).call kn)
      have T := T'
      have X := hide bn
      clear kn bn T'
      generalize W.heap.size = py' at *
      generalize wn = W at *
      go_wp2_with fail
      first | refine next_nil ?_ | refine next_go ?_
      refine reg_one 17 6 (by kernel_rfl) (by kernel_rfl) (unhide HQ W (unhide T).kw) ?_
      simp only [List.take_succ_cons, List.take_zero, List.drop_succ_cons, List.drop_zero]
      go_wp2_with fail
      refine (cmp_big pr py' r H W ((unhide R13).step (unhide T).kw) (unhide X) (by omega) (by omega)).mono ?_
      rintro e wn ⟨kn, rfl⟩
      have T' := hide ((unhide T).call (drewB kn))
      have T := T'
      clear kn T'
      generalize wn = W at *
      go_wp2_with fail
      first | refine next_nil ?_ | refine next_go ?_
      refine reg_seg 18 1 5 (by kernel_rfl) (by decide) (by kernel_rfl) (by kernel_rfl) (fun _ _ _ _ _ h => h) ?_
      simp only [List.take_succ_cons, List.take_zero, List.drop_succ_cons, List.drop_zero]
      repeat (refine wpSteady_step (fun K hK => ?_); go_simp; first | (refine steady_of ?_ (fun W hW => ?_) (hK _ ?_); rotate_left; (obtain hc9 := hW; go_simp; first | done | rfl); clear hK K) | (refine hK _ ?_; clear hK K))
      refine wpSteady_nil ?_
      refine reg_one 21 4 (by kernel_rfl) (by kernel_rfl) (unhide HQ W (unhide T).kw) ?_
      simp only [List.take_succ_cons, List.take_zero, List.drop_succ_cons, List.drop_zero]
      go_wp2_with fail
      refine (signW_any (16 * m) pr (w.heap.size + 1) r W ((unhide R13).step (unhide T).kw) (by have := (unhide T).kw.size; omega) (unhide HQ W (unhide T).kw) (by omega) (by omega) (by omega)).mono ?_
      rintro e wn ⟨p3, rfl, q3, kn, bn⟩
      have T' := hide ((unhide T).call kn)
      have T := T'
      have X := hide bn
      clear kn bn T' q3
      generalize wn = W at *
      go_wp2_with fail
      first | refine next_nil ?_ | refine next_go ?_
      refine reg_one 23 3 (by kernel_rfl) (by kernel_rfl) (unhide HQ W (unhide T).kw) ?_
      simp only [List.take_succ_cons, List.take_zero, List.drop_succ_cons, List.drop_zero]
      go_wp2_with fail
      refine (cmp_big p3 (pz + 1) (sgw (16 * m) r) s W (unhide X) ((unhide S13).step (unhide T).kw) (by omega) (by omega)).mono ?_
      rintro e wn ⟨kn, rfl⟩
      have T' := hide ((unhide T).call (drewB kn))
      have T := T'
      clear kn T'
      generalize wn = W at *
      go_wp2_with fail
      first | refine next_nil ?_ | refine next_go ?_
      refine reg_seg 24 2 1 (by kernel_rfl) (by decide) (by kernel_rfl) (by kernel_rfl) (fun _ _ _ _ _ h => h) ?_
      simp only [List.take_succ_cons, List.take_zero, List.drop_succ_cons, List.drop_zero]
      repeat (refine wpSteady_step (fun K hK => ?_); go_simp; first | (refine steady_of ?_ (fun W hW => ?_) (hK _ ?_); rotate_left; (obtain hc9 := hW; go_simp; first | done | rfl); clear hK K) | (refine hK _ ?_; clear hK K))
      refine wpSteady_nil ?_
      refine reg_said #[true, true, true, true, true, true, true, true, true, true, true, true, true, true, true, true, true, true, true, true, true, true, true, true, true, true, true, false] (by kernel_rfl) ?_
      exact hm pf px py' p3 W (unhide T)
  · intro pf px py' p3 W T0
    have T := hide T0
    clear T0
    obtain ⟨G5, lpf⟩ := (unhide T).bx rfl
    have H5 := hide G5
    obtain ⟨x0, x1, x2, x3⟩ := G5.at4
    have x4 := G5.2.2
    clear G5
    refine reg_one 27 0 (by kernel_rfl) (by kernel_rfl) (unhide HQ W (unhide T).kw) ?_
    simp only [List.take_succ_cons, List.take_zero, List.drop_succ_cons, List.drop_zero]
    go_wp2_with fail
    first | refine next_nil ?_ | refine next_go ?_
    have T15 := hide (below_4 (unhide T).kw lpf (.bool (decide (z < 0) || decide (0 ≤ cm z P))) (.bool (r.sign == 0)) (.bool (decide (0 ≤ cm r H))) (.bool (cm (sgw (16 * m) r) s != 0)))
    have B15 := hide (((((unhide H5).set (j := 0) (u := (.bool (decide (z < 0) || decide (0 ≤ cm z P)))) (by simp)).set (j := 1) (u := (.bool (r.sign == 0))) (by simp)).set (j := 2) (u := (.bool (decide (0 ≤ cm r H)))) (by simp)).set (j := 3) (u := (.bool (cm (sgw (16 * m) r) s != 0))) (by simp))
    clear x0 x1 x2 x3 x4 H5 T
    generalize (((W.setCell ⟨pf, 0, none⟩ (.bool (decide (z < 0) || decide (0 ≤ cm z P)))).setCell ⟨pf, 1, none⟩ (.bool (r.sign == 0))).setCell ⟨pf, 2, none⟩ (.bool (decide (0 ≤ cm r H)))).setCell ⟨pf, 3, none⟩ (.bool (cm (sgw (16 * m) r) s != 0)) = W15 at *
    refine reg_end (by kernel_rfl) (unhide HQ W15 (unhide T15)) ?_
    have K15 := hide ((unhide K13).trans ((unhide T15).mono (unhide K13).size))
    have R15 := hide ((unhide R13).step (unhide T15))
    have FB15 := hide ((unhide FB13).step (unhide T15))
    have s15 := (unhide T15).size
    have sw15 := (unhide K15).size
    simp only [List.set_cons_zero, List.set_cons_succ] at B15
    have FE := hide (show [(.bool (decide (z < 0) || decide (0 ≤ cm z P))), (.bool (r.sign == 0)), (.bool (decide (0 ≤ cm r H))), (.bool (cm (sgw (16 * m) r) s != 0))] = [Value.bool (decide (z < 0) || decide (P ≤ z)), .bool (decide (r = 0)), .bool (decide (H ≤ r)), .bool (sgw (16 * m) r != s)] by rw [sign_z, cm_ge, cm_ge, cm_ne])
    rw [unhide FE] at B15
    clear T15 Z13 R13 S13 K13 HQ TW TH FE FB13
    go_wp2_with fail
    go_loopg [18, 107] m (fun g o t wr => ∃ i : Nat, i ≤ m ∧ g = m - i ∧ t = .int .i64 i ∧ Hid (wr.ownsRow W15.heap.size 3 1 o i ((rdl r i).map int1)) ∧ Hid (Below W15.heap.size W15 wr))
    case atStart => exact ⟨0, Nat.zero_le _, rfl, rfl, World.ownsRow_nil _ _ _ _, hide (Below.refl _ _)⟩
    case round =>
      obtain ⟨i, hi, hg, rfl, hO, hK⟩ := hrel
      have sK := (unhide hK).size
      have RB := hide ((unhide R15).step (unhide hK))
      by_cases hlt : i < m
      · have hil : (i : Int) < (m : Int) := by omega
        obtain ⟨rs1, rs2, rs3⟩ := rs_split i (by omega)
        have HN := hide (Big.new wr)
        have KN := hide (below_a wr (.cells #[.bool false, .slice none 0 0] 42))
        have hsz : (wr.alloc (.cells #[.bool false, .slice none 0 0] 42)).heap.size = wr.heap.size + 1 := by simp
        have RS := hide (rsh_any wr.heap.size pr (i / 2) (16 * (i % 2)) r _ (unhide HN).int ((unhide RB).step (unhide KN)) (by omega) (by omega) rs1 rs2)
        rw [rs3, show ((16 * i : Nat) : Int) = 16 * (i : Int) by omega, q65536] at RS
        have lP := (unhide RB).lt
        have dd : 0 ≤ r / 65536 ^ i ∧ r / 65536 ^ i ≤ r := ⟨Int.ediv_nonneg (by omega) (Int.le_of_lt (b16 i)), Int.ediv_le_self _ (by omega)⟩
        clear rs1 rs2 rs3
        go_wp2_with fail
        have N1 := hide ((unhide HN).int)
        have O1 := hide (own_step (unhide hO) (unhide KN))
        generalize wr.alloc (.cells #[.bool false, .slice none 0 0] 42) = W1 at *
        refine (unhide RS).mono ?_
        rintro e w2 ⟨rfl, k2, b2⟩
        have K2 := hide k2
        have B2 := hide b2
        have s2 := (unhide K2).size
        have O2 := hide (own_tn (unhide O1) (unhide K2) (unhide N1))
        have L2 := hide (below_tnw ((unhide hK).trans ((unhide KN).mono (by omega))) (unhide K2) (by omega) (by omega))
        clear k2 b2 RS O1 N1 K2
        go_wp2_with fail
        refine (two_any 16 w2 (by decide)).mono ?_
        rintro e w3 ⟨rfl, k3, b3⟩
        have K3 := hide k3
        have B3 := hide b3
        have s3 := (unhide K3).size
        have O3 := hide (own_step (unhide O2) (unhide K3))
        have L3 := hide ((unhide L2).trans ((unhide K3).mono (by omega)))
        have I3 := hide ((unhide B2).step (unhide K3))
        clear k3 b3 O2 L2
        go_wp2_with fail
        refine (mod_any wr.heap.size wr.heap.size w2.heap.size (r / 65536 ^ i) (2 ^ 16) w3 (unhide I3).int (unhide I3) (unhide B3) (divOk_short (by omega) (by decide) (by decide) (.inr (.inr (by decide)))) (by omega) (by decide) (by decide)).mono ?_
        rintro e w4 ⟨rfl, k4, b4⟩
        have K4 := hide k4
        have B4 := hide (show Big w4 wr.heap.size (r / 65536 ^ i % 65536) from b4)
        have s4 := (unhide K4).size
        have O4 := hide (own_tn (unhide O3) (unhide K4) (unhide I3).int)
        have L4 := hide (below_tnw (unhide L3) (unhide K4) (by omega) (by omega))
        clear k4 b4 O3 L3
        go_wp2_with fail
        have IA := hide (int_any wr.heap.size (r / 65536 ^ i % 65536) w4 (unhide B4) ⟨by omega, by omega⟩)
        refine (unhide IA).mono ?_
        rintro e w5 ⟨hw5, rfl⟩
        subst w5
        clear IA
        go_wp2_with (at_builtin; refine wpList_append_own _ rfl (.tmp 116) (.tmp 122) 22 rfl W15.heap.size 3 i0 (.int .i64 0) 1 8 Try.underlying22 hi0 hz0 hz1 hz2 rfl (by decide) _ _ _ rfl ((unhide O4).alloc _) ⟨_, 0, none⟩ 1 1 [.int .i64 (r / 65536 ^ i % 65536)] rfl rfl (one_c1 _ _ _) (one_c2 _ _) (by unfold maxLen; omega) (by omega) (by simp; omega) ?_; intro v5 w5 own5 grow5 _; have O5 := hide (show w5.ownsRow W15.heap.size 3 1 v5 (i + 1) ((rdl r (i + 1)).map int1) by rw [rdl_succ]; exact own5); have L5 := hide (below_own ((unhide L4).alloc (by omega) _) (by simp; omega) ((unhide O4).alloc _) grow5); clear own5 grow5)
        go_roundg (m - (i + 1))
        case measure => omega
        case rel => exact ⟨i + 1, by omega, rfl, by go_num, O5, L5⟩
      · have hil : ¬ (i : Int) < (m : Int) := by omega
        have hkk2 : i = m := by omega
        have OI := hide (show Ints wr _ (rdl r i) by
          have := Lies.owned (unhide hO)
          unfold Ints
          rw [rdl_len]
          exact this)
        rw [hkk2] at OI
        clear hkk2
        have B9 := hide ((unhide B15).step (unhide hK))
        have K9 := hide ((unhide K15).trans ((unhide hK).mono (by omega)))
        obtain ⟨x0, x1, x2, x3⟩ := (unhide B9).at4
        have lb9 := (unhide B9).1
        have F9 := hide ((unhide FB15).step (unhide hK))
        obtain ⟨y0, y1, y2, y3⟩ := (unhide F9).at4
        have y4 := (unhide F9).2.2
        have O9 := hide (fun k h => ((unhide hO).lt k h).1)
        clear B15 K15 R15 RB hO hK FB15
        go_wp2_with fail
        go_region_with fail
        all_goals
          go_wp2_with fail
          have P9 := hide (((((unhide F9).set (j := 0) (u := (.bool (decide (z < 0) || decide (P ≤ z)))) (by simp)).set (j := 1) (u := (.bool (decide (r = 0)))) (by simp)).set (j := 2) (u := (.bool (decide (H ≤ r)))) (by simp)).set (j := 3) (u := (.bool (sgw (16 * m) r != s))) (by simp))
          simp only [List.set_cons_zero, List.set_cons_succ] at P9
          have I9 := hide ((((Lies.other (unhide OI) (b := w.heap.size) (j := 0) (u := (.bool (decide (z < 0) || decide (P ≤ z)))) (fun k h => by have := unhide O9 k h; omega)).other (b := w.heap.size) (j := 1) (u := (.bool (decide (r = 0)))) (fun k h => by have := unhide O9 k h; omega)).other (b := w.heap.size) (j := 2) (u := (.bool (decide (H ≤ r)))) (fun k h => by have := unhide O9 k h; omega)).other (b := w.heap.size) (j := 3) (u := (.bool (sgw (16 * m) r != s))) (fun k h => by have := unhide O9 k h; omega))
          have L9 := hide (below_4 (unhide K9) (Nat.le_refl _) (.bool (decide (z < 0) || decide (P ≤ z))) (.bool (decide (r = 0))) (.bool (decide (H ≤ r))) (.bool (sgw (16 * m) r != s)))
          generalize (((wr.setCell ⟨w.heap.size, 0, none⟩ (.bool (decide (z < 0) || decide (P ≤ z)))).setCell ⟨w.heap.size, 1, none⟩ (.bool (decide (r = 0)))).setCell ⟨w.heap.size, 2, none⟩ (.bool (decide (H ≤ r)))).setCell ⟨w.heap.size, 3, none⟩ (.bool (sgw (16 * m) r != s)) = W10 at *
          obtain ⟨p0, p1, p2, p3⟩ := (unhide P9).at4
          exact bodyPost_ret (v := .tuple #[_, .agg #[(.bool (decide (z < 0) || decide (P ≤ z))), (.bool (decide (r = 0))), (.bool (decide (H ≤ r))), (.bool (sgw (16 * m) r != s))], .int .i64 0]) (by simp [results, Try.results9, go_sem, p0, p1, p2, p3]) rfl ⟨_, rfl, bdw (unhide L9) 1, Lies.step (unhide I9) (bdw (Below.refl _ _) 1)⟩
end Go.Proofs.Ytmjnihepgglbdaa
