/-
  pairlegallaw6.RtTells, walked.
-/
import Derived.Test.YtodfjomglgmffaaGreatDoorRtTz
import Derived.Test.YtodfjomglgmffaaGreatDoorLkL
namespace Go.Proofs.YtodfjomglgmffaaGreatDoor
open Go.RowKit Go.Maps
set_option linter.unusedSimpArgs false
set_option linter.unusedVariables false

theorem sb_tl (l : List UInt8) : (sb l).toList = l := by rw [ByteArray.toList_eq]; exact sb_list l
theorem any_take (s : List UInt8) (i : Nat) (h : i < 24) : ((nmL.take (i + 1)).any fun x => x == s) = (((nmL.take i).any fun x => x == s) || (nmAt i == s)) := by
  have hl : i < nmL.length := by rw [nmL_len]; omega
  rw [List.take_succ_eq_append_getElem hl, List.any_append]
  unfold nmAt
  rw [List.getD_eq_getElem?_getD, List.getElem?_eq_getElem hl]
  simp
theorem un_row {W : World} {B : Nat} {v : Value} {f : Nat → Value} (h : UnAt W B v 24 f) : ∃ b off cap, v = .slice (some ⟨b, off, none⟩) 24 cap ∧ b < W.heap.size ∧ ∀ j, j < 24 → W.cell? ⟨b, off + j * 2, none⟩ = some (.string (sb (nmAt j))) ∧ W.cell? ⟨b, off + j * 2 + 1, none⟩ = some (f j) := by
  obtain ⟨-, ao, cap, rfl, h3, h4, -, h5⟩ := Lies.owned h.own
  obtain ⟨b, off, rfl, hb, hc⟩ := h5 (by omega)
  refine ⟨b, off, cap, rfl, hb, fun j hj => ?_⟩
  obtain ⟨q1, q2⟩ := ucs_at f 24 j hj
  refine ⟨?_, ?_⟩
  · rw [hc (j * 2) (by omega)]; exact q1
  · rw [Nat.add_assoc, hc (j * 2 + 1) (by omega)]; exact q2
set_option maxRecDepth 100000 in
set_option maxHeartbeats 4000000 in
theorem rtTells_any (s : List UInt8) (which : Int) (w : World) (G : Ga w) (hs : s.length ≤ maxLen) : Calls Tryz.prog 3 #[.string (sb s), .int .i64 which] w fun e w' => e = .returned (.bool true) ∧ Below w.heap.size w w' := by
  have NA := hideI (names_any _ G.z)
  have HG := hideI G
  clear G
  go_enter Tryz.func3, Tryz.ntmps3
  go_wp2_with fail
  refine (unhideI NA).mono ?_
  rintro e w1 ⟨v, rfl, ln, k1, -⟩
  rw [nmL_len] at ln
  have K1 := hideI k1
  have LN := hideI ln
  clear NA k1
  go_wp2_with fail
  refine (names6_any w1).mono ?_
  rintro e w2 ⟨v2, rfl, l2, k2⟩
  have SM := hideI (same6_yes v v2 w2 (Lies.step ln k2) l2)
  have K2 := hideI (btR (unhideI K1) k2)
  have LN2 := hideI (Lies.step ln k2)
  clear k2 l2 ln LN K1
  go_wp2_with fail
  refine (unhideI SM).mono ?_
  rintro e w3 ⟨rfl, k3⟩
  have K3 := hideI (btR (unhideI K2) k3)
  obtain ⟨nb, no, cap, rfl, hnb, hcell⟩ := names_row (Lies.step (unhideI LN2) k3)
  have HC := hideI hcell
  clear hcell SM k3 K2 LN2
  go_wp2_with fail
  go_loopg [6, 23] 24 (fun g th t wr => ∃ (i : Nat), i ≤ 24 ∧ g = 24 - i ∧ th = .bool ((nmL.take i).any fun x => x == s) ∧ t = .int .i64 (i : Int) ∧ wr = w3)
  case atStart => exact ⟨0, Nat.zero_le _, rfl, rfl, rfl, rfl⟩
  case round =>
    obtain ⟨i, hi, hg, rfl, rfl, rfl⟩ := hrel
    by_cases hlt : i < 24
    · have x0 := unhideI HC i hlt
      have hiI : (i : Int) < 24 := by omega
      have AT := hideI (any_take s i hlt)
      generalize nmAt i = y at *
      generalize (nmL.take i).any (fun x => x == s) = th at *
      cases th
      · go_wp2_with fail
        go_roundg (24 - (i + 1))
        case measure => omega
        case rel =>
          refine ⟨i + 1, by omega, rfl, ?_, by go_num, rfl⟩
          rw [unhideI AT, sb_tl, sb_tl, Bool.false_or]
      · go_wp2_with fail
        go_roundg (24 - (i + 1))
        case measure => omega
        case rel =>
          refine ⟨i + 1, by omega, rfl, ?_, by go_num, rfl⟩
          rw [unhideI AT, Bool.true_or]
    · have hiI : ¬ (i : Int) < 24 := by omega
      have hth : ((nmL.take i).any fun x => x == s) = decide (s ∈ nmL) := by rw [List.take_of_length_le (by rw [nmL_len]; omega)]; exact any_mem s
      rw [hth]
      have TX := hideI (text_any s wr ((unhideI HG).step (unhideI K3)).z hs)
      have hcs : (decide (s ∈ nmL) = true ∧ (rtxt s).2 = 0) ∨ (decide (s ∈ nmL) = false ∧ rtxt s = ([], 7)) := by
        by_cases h : s ∈ nmL
        · exact .inl ⟨decide_eq_true h, rtxt_in s h⟩
        · exact .inr ⟨decide_eq_false h, rtxt_out s h⟩
      clear hth
      generalize rtxt s = rx at *
      generalize decide (s ∈ nmL) = th at *
      generalize wr = W0 at *
      obtain ⟨tx, er⟩ := rx
      dsimp only at TX hcs
      have hcs2 : (th = true ∧ er = 0) ∨ (th = false ∧ er = 7 ∧ tx = []) := by
        rcases hcs with h | ⟨h1, h2⟩
        · exact .inl h
        · injection h2 with h2 h3; exact .inr ⟨h1, h3, h2⟩
      clear hcs
      rcases hcs2 with ⟨rfl, rfl⟩ | ⟨rfl, rfl, rfl⟩
      rotate_left
      rw [show sb [] = (⟨#[]⟩ : ByteArray) from rfl] at TX
      all_goals
        go_wp2_with fail
        refine (unhideI TX).mono ?_
        rintro e w4 ⟨rfl, k4⟩
        have K4 := hideI (btR (unhideI K3) k4)
        have HC4 := hideI (fun j hj => cell_keep k4 hnb (unhideI HC j hj))
        have hn4 : nb < w4.heap.size := Nat.lt_of_lt_of_le hnb k4.size
        have UA := hideI (units_any w4 ((unhideI HG).step (unhideI K4)))
        clear TX k4 HC K3 hnb
        go_wp2_with fail
        refine (unhideI UA).mono ?_
        rintro e w5 ⟨vu, f, rfl, ua, k5⟩
        have K5 := hideI (btR (unhideI K4) k5)
        have HC5 := hideI (fun j hj => cell_keep k5 hn4 (unhideI HC4 j hj))
        have hn5 : nb < w5.heap.size := Nat.lt_of_lt_of_le hn4 k5.size
        have HU := hideI ua
        obtain ⟨ub, uo, uc, rfl, hub, hucell⟩ := un_row ua
        have UC := hideI hucell
        clear UA k5 HC4 K4 hn4 ua hucell
        by_cases hlo : which < 0
        · go_wp2_with fail
          go_ret
          exact ⟨rfl, unhideI K5⟩
        · by_cases hhi : 24 ≤ which
          · go_wp2_with fail
            go_ret
            exact ⟨rfl, unhideI K5⟩
          · obtain ⟨j, rfl⟩ : ∃ j : Nat, which = (j : Int) := ⟨which.toNat, by omega⟩
            have hj : j < 24 := by omega
            have x0 := unhideI HC5 j hj
            have TX := hideI (text_any (nmAt j) w5 ((unhideI HG).step (unhideI K5)).z (by have := nmAt_len j; unfold maxLen; omega))
            obtain ⟨OR, OT⟩ := one_reads j hj
            rw [OT] at TX
            go_wp2_with fail
            refine (unhideI TX).mono ?_
            rintro e w6 ⟨rfl, k6⟩
            have K6 := hideI (btR (unhideI K5) k6)
            have RD := hideI (read_any (sb (rtxt (nmAt j)).1) w6 ((unhideI HG).step (unhideI K6)).l)
            rw [sb_list, OR] at RD
            have y0 := cell_keep k6 hn5 x0
            have hn6 : nb < w6.heap.size := Nat.lt_of_lt_of_le hn5 k6.size
            have U6 := hideI ((unhideI HU).step k6)
            obtain ⟨z0, z1⟩ := unhideI UC j hj
            have z0' := cell_keep k6 hub z0
            have z1' := cell_keep k6 hub z1
            have hu6 : ub < w6.heap.size := Nat.lt_of_lt_of_le hub k6.size
            have LA := hideI (show (readA (rtxt (nmAt j)).1).1 = lnAt j from rfl)
            have OL := hideI (one_links j hj)
            clear TX k6 HC5 K5 hn5 HU UC hub x0 z0 z1 OT OR
            generalize (rtxt (nmAt j)).1 = tx2 at *
            go_wp2_with fail
            refine (unhideI RD).mono ?_
            rintro e w7 ⟨v7, rfl, l7, -, k7⟩
            rw [unhideI LA] at l7
            have ka := below_a w7 (.cells #[.int .i64 0, .int .i64 (readA tx2).2.2] 32)
            have kA := btR k7 ka
            have hw7 : w.heap.size ≤ w7.heap.size := (btR (unhideI K6) k7).size
            have K8 := hideI (btR (unhideI K6) kA)
            have U8 := hideI ((unhideI U6).step kA)
            have y8 := cell_keep kA hn6 y0
            have hn8 := Nat.lt_of_lt_of_le hn6 kA.size
            have z8 := cell_keep kA hu6 z0'
            have z9 := cell_keep kA hu6 z1'
            have hu8 := Nat.lt_of_lt_of_le hu6 kA.size
            have BF := hideI (Box.new w7 #[.int .i64 0, .int .i64 (readA tx2).2.2] 32)
            have L8 := hideI (Lies.step l7 ka)
            have L9 := hideI ((unhideI U8).lns j hj)
            clear RD k7 ka kA l7 U6 K6 y0 hn6 z0' z1' hu6 LA
            generalize (readA tx2).2.2 = ef at *
            obtain ⟨f0, f1⟩ := (unhideI BF).at2
            have f2 := (unhideI BF).2.2
            obtain ⟨ao, ca, rfl, hmax, hat⟩ := (show Lns _ v7 (lnAt j) from unhideI L8).at
            obtain ⟨bo, cb, hfj, -, hbt⟩ := (unhideI L9).at
            rw [hfj] at z9
            have HA := hideI hat
            have HBT := hideI hbt
            unfold maxLen at hmax
            have hs8 : w7.heap.size < (w7.alloc (.cells #[.int .i64 0, .int .i64 ef] 32)).heap.size := by simp
            have hjI : (j : Int) < 24 := by omega
            have hj0 : (0 : Int) ≤ (j : Int) := by omega
            have hnj := nmAt_len j
            have LK := hideI (fun W hU => link_any2 unL (.slice (some ⟨ub, uo, none⟩) 24 uc) (sb (nmAt j)) W hU (by rw [sb_size]; unfold maxLen; omega))
            rw [sb_tl] at LK
            clear L8 L9 hat hbt hfj hnj
            go_wp2_with fail
            generalize w7.alloc (.cells #[.int .i64 0, .int .i64 ef] 32) = w8 at *
            generalize lnAt j = xs at *
            generalize linkL unL (nmAt j) = R at *
            generalize nmAt j = nj at *
            have hne : ((xs.length : Int) != (xs.length : Int)) = false := by simp
            go_quiet (fail)
            go_wp2_with fail
            go_loopg [114] xs.length (fun g t wr => ∃ (i q : Nat), i ≤ xs.length ∧ g = xs.length - i ∧ t = .int .i64 i ∧ wr = w8.drewN q)
            case atStart => exact ⟨0, _, Nat.zero_le _, rfl, rfl, rfl⟩
            case round =>
              obtain ⟨i, q, hi, rfl, rfl, rfl⟩ := hrel
              by_cases hlt : i < xs.length
              · have hn : xs ≠ [] := by intro h; rw [h] at hlt; simp at hlt
                obtain ⟨b1, o1, rfl, h1, c1⟩ := (unhideI HA) hn
                obtain ⟨b2, o2, rfl, h2, c2⟩ := (unhideI HBT) hn
                obtain ⟨x0, x1, x2, x3, x4, x5⟩ := c1 i hlt
                obtain ⟨y0, y1, y2, y3, y4, y5⟩ := c2 i hlt
                clear c1 c2
                generalize xs[i] = y at *
                obtain ⟨e0, ⟨e1, e2, e3, e4⟩, e5⟩ := y
                dsimp only at *
                go_wp2_with fail
                go_quiet (fail)
                go_wp2_with fail
                go_roundg (xs.length - (i + 1))
                case measure => omega
                case rel => exact ⟨i + 1, _, by omega, rfl, by go_num, rfl⟩
              · have hiI : ¬ (i : Int) < (xs.length : Int) := by omega
                have kd : Below w8.heap.size w8 (w8.drewN q) := bdr (Below.refl _ _) q
                have K9 := hideI (btR (unhideI K8) kd)
                have HUN := hideI (uns_unL ((unhideI U8).step kd))
                have y9 := cell_keep kd hn8 y8
                have BF9 := hideI ((unhideI BF).step kd)
                have LK9 := hideI ((unhideI LK) _ (unhideI HUN))
                obtain ⟨ol1, ol2⟩ := unhideI OL
                clear HA HBT f0 f1 f2 z8 z9 y8 HUN LK U8 K8 BF OL kd hne
                unfold LinkRet2 at LK9
                obtain ⟨⟨zs, os, sp⟩, er, ef2⟩ := R
                dsimp only at ol1 ol2 LK9
                subst ol1
                go_wp2_with fail
                generalize w8.drewN q = w9 at *
                refine (unhideI LK9).mono ?_
                rintro e w10 ⟨vw, vx, vs, rfl, i1, i2, i3, k10, -⟩
                have K10 := hideI (btR (unhideI K9) k10)
                have BF10 := hideI ((unhideI BF9).step k10)
                obtain ⟨b1, o1, rfl, -, -⟩ := i1.at
                obtain ⟨b2, o2, rfl, -, -⟩ := i2.at
                obtain ⟨-, sa, sc, rfl, -⟩ := i3
                have BI := hideI (Box.new w10 #[.slice b1 zs.length o1, .slice b2 os.length o2, .slice sa sp.length sc] 44)
                have BF11 := hideI ((unhideI BF10).step (below_a w10 (.cells #[.slice b1 zs.length o1, .slice b2 os.length o2, .slice sa sp.length sc] 44)))
                have K11 := hideI (btR (unhideI K10) (below_a w10 (.cells #[.slice b1 zs.length o1, .slice b2 os.length o2, .slice sa sp.length sc] 44)))
                obtain ⟨f0, f1⟩ := (unhideI BF11).at2
                have f2 := (unhideI BF11).2.2
                obtain ⟨g0, g1⟩ := (unhideI BF10).at2
                have g2 := (unhideI BF10).2.2
                obtain ⟨q0, q1, q2⟩ := (unhideI BI).at3
                have h70 : w7.heap.size < w10.heap.size := (unhideI BF10).1
                have hzp : (0 : Int) < (zs.length : Int) := by omega
                clear LK9 k10 K9 BF9 i1 i2
                have hw10 := (unhideI K10).size
                go_wp2_with fail
                go_ret
                exact ⟨rfl, (by repeat (first | exact unhideI K10 | refine Below.setCell ?_ (by first | exact Nat.le_refl _ | (simp; done) | omega | (simp; omega)) _ | refine Below.alloc ?_ (by first | (simp; done) | omega | (simp; omega)) _))⟩
theorem walk_rtTells (name : ByteArray) (which : Int) (w : World) (G : Ga w) (hn : name.size ≤ maxLen) : Calls Tryz.prog 3 #[.string name, .int .i64 which] w fun e w' => e = .returned (.bool true) ∧ Below w.heap.size w w' := by
  have h := rtTells_any name.data.toList which w G (by simpa using hn)
  exact h
end Go.Proofs.YtodfjomglgmffaaGreatDoor
