/-
  pairlegallaw4.AsmTurns: the walk.
-/
import Derived.Test.YtoopgkbefhoeiaaGreatDoorTnM
import Derived.Test.YtoopgkbefhoeiaaGreatDoorAlive4
import Derived.Test.YtoopgkbefhoeiaaGreatDoorRefS4
namespace Go.Proofs.YtoopgkbefhoeiaaGreatDoor
open Go.RowKit Go.Maps
set_option linter.unusedSimpArgs false
set_option linter.unusedVariables false

theorem fault_set {w : World} {b : Nat} {a0 a1 : Value} (h : Box w b [a0, a1]) (u0 u1 : Value) : Box ((w.setCell ⟨b, 0, none⟩ u0).setCell ⟨b, 1, none⟩ u1) b [u0, u1] := (h.set (j := 0) (u := u0) (by simp)).set (j := 1) (u := u1) (by simp)
set_option maxRecDepth 100000 in
set_option maxHeartbeats 4000000 in
theorem asmTurns_any (l : List Ln) (v : Value) (t : ByteArray) (w : World) (hv : Lns w v l) (G : Gl w) : Calls Tryz.prog 4 #[v, .string t] w fun e w' => e = .returned (.bool true) ∧ Below w.heap.size w w' := by
  have AL := alive4 w G
  have HG := hideI G
  have HL := hideI hv
  have T1 := hideI (turn1 l)
  obtain ⟨ao, ca, rfl, hmax, -⟩ := hv.at
  unfold maxLen at hmax
  clear hv G
  go_enter Tryz.func4, Tryz.ntmps4
  go_wp2_with fail
  refine AL.mono ?_
  rintro e w1 ⟨rfl, k1⟩
  have K1 := hideI k1
  have L1 := hideI ((unhideI HL).step k1)
  have SH := show_any l _ w1 ((unhideI HG).step k1) (unhideI L1)
  generalize shwA l = SA at *
  obtain ⟨ss, e2, f2⟩ := SA
  dsimp only at T1 SH
  clear AL k1
  go_wp2_with fail
  refine SH.mono ?_
  rintro e w2 ⟨rfl, k2⟩
  have K2 := hideI (bt (unhideI K1) k2)
  have L2 := hideI ((unhideI L1).step k2)
  have K3 := hideI (bt (unhideI K2) (below_a w2 (.cells #[.int .i64 e2, .int .i64 f2] 25)))
  have L3 := hideI ((unhideI L2).step (below_a w2 (.cells #[.int .i64 e2, .int .i64 f2] 25)))
  have hbs : (ba ss).size = ss.length := ba_size ss
  clear SH k2 L1 K1 L2
  by_cases he2 : e2 = 0
  · subst he2
    by_cases hlen : ss.length ≤ 1048576
    · have hl' : ((ba ss).size : Int) ≤ 1048576 := by rw [hbs]; omega
      have hrd := unhideI T1 rfl hlen
      have RD := fun w G => read_any (ba ss) w G
      rw [ba_data, hrd] at RD
      dsimp only at RD
      clear T1 hrd hlen hbs
      generalize ba ss = sb at *
      have RD3 := RD _ ((unhideI HG).step (unhideI K3))
      clear RD
      go_wp2_with fail
      generalize w2.alloc (.cells #[.int .i64 0, .int .i64 f2] 25) = w3 at *
      refine RD3.mono ?_
      rintro e w4 ⟨v4, rfl, l4, -, k4⟩
      have k5 := below_a w4 (.cells #[.int .i64 0, .int .i64 0] 25)
      have L4 := hideI (l4.step k5)
      have L5 := hideI ((unhideI L3).step (bt k4 k5))
      have K5 := hideI (bt (unhideI K3) (bt k4 k5))
      obtain ⟨a4, c4, rfl, h4, -⟩ := l4.at
      rw [List.length_map] at h4 ⊢
      clear RD3 l4 k4 k5 L3 K3 K2
      go_wp2_with fail
      generalize w4.alloc (.cells #[.int .i64 0, .int .i64 0] 25) = w5 at *
      generalize w4.heap.size = p4 at *
      generalize w2.heap.size = p2 at *
      obtain ⟨a5, c5, he5, -, hat5⟩ := (unhideI L5).at
      obtain rfl : ao = a5 := by injection he5
      obtain ⟨a6, c6, he6, -, hat6⟩ := (unhideI L4).at
      obtain rfl : a4 = a6 := by injection he6
      have HA5 := hideI hat5
      have HA6 := hideI hat6
      have HW0 := hideI (Below.refl w5.heap.size w5)
      clear he5 he6 hat5 hat6 L4 L5 HL
      go_loopg [46] l.length (fun g vi ws => ∃ (k : Nat), k ≤ l.length ∧ g = l.length - k ∧ vi = .int .i64 k ∧ Hid (Below w5.heap.size w5 ws))
      case atStart => exact ⟨0, Nat.zero_le _, rfl, rfl, HW0⟩
      case round =>
        obtain ⟨k, hk, hg, rfl, HW⟩ := hrel
        clear HW0
        by_cases hlt : k < l.length
        · have hn : l ≠ [] := by intro h; rw [h] at hlt; simp at hlt
          have hlx : k < (l.map bareL).length := by rw [List.length_map]; exact hlt
          obtain ⟨b1, o1, rfl, h1, d1⟩ := (unhideI HA5) hn
          obtain ⟨b2, o2, rfl, h2, d2⟩ := (unhideI HA6) (by intro h; exact hn (List.map_eq_nil_iff.1 h))
          obtain ⟨x0, x1, x2, x3, x4, x5⟩ := d1 k hlt
          obtain ⟨y0, y1, y2, y3, y4, y5⟩ := d2 k hlx
          rw [List.getElem_map] at y0 y1 y2 y3 y4 y5
          replace x0 := cell_keep (unhideI HW) h1 x0
          replace x1 := cell_keep (unhideI HW) h1 x1
          replace x2 := cell_keep (unhideI HW) h1 x2
          replace x3 := cell_keep (unhideI HW) h1 x3
          replace x4 := cell_keep (unhideI HW) h1 x4
          replace x5 := cell_keep (unhideI HW) h1 x5
          replace y0 := cell_keep (unhideI HW) h2 y0
          replace y1 := cell_keep (unhideI HW) h2 y1
          replace y2 := cell_keep (unhideI HW) h2 y2
          replace y3 := cell_keep (unhideI HW) h2 y3
          replace y4 := cell_keep (unhideI HW) h2 y4
          replace y5 := cell_keep (unhideI HW) h2 y5
          have hb1 : b1 < wr.heap.size := Nat.lt_of_lt_of_le h1 (unhideI HW).size
          have hb2 : b2 < wr.heap.size := Nat.lt_of_lt_of_le h2 (unhideI HW).size
          have BL := fun w => bareL_any l[k] w
          unfold aggL at BL
          have hkm : (k : Int) < (l.length : Int) := by omega
          clear d1 d2 HA5 HA6
          generalize bareL l[k] = y at *
          generalize l[k] = x at *
          clear hlx
          obtain ⟨g0, ⟨g1, g2, g3, g4⟩, g5⟩ := y
          obtain ⟨f0, ⟨f1, f2', f3, f4⟩, f5⟩ := x
          dsimp only at *
          go_wp2_with fail
          refine wp_region_later (by kernel_rfl) (by kernel_rfl) ?_
          intro L hne lt hlc hlf hlm
          repeat (go_big_quiet_step ((go_at_call 11; exact later_call hlm (BL _))))
          refine wpQuiet_nil ?_
          intro wq kq
          clear hlm hlf hlc lt hne L
          obtain ⟨hqc, hqf⟩ := below_cells kq
          have HW2 := hideI ((unhideI HW).trans (kq.mono (unhideI HW).size))
          clear kq hqc hqf x0 x1 x2 x3 x4 x5 y0 y1 y2 y3 y4 y5 BL HW
          go_wp2_with fail
          go_roundg (l.length - (k + 1))
          case measure => omega
          case rel => exact ⟨k + 1, by omega, rfl, by go_num, HW2⟩
        · have hkm : ¬ (k : Int) < (l.length : Int) := by omega
          have KT := hideI (bt (unhideI K5) (unhideI HW))
          clear HA5 HA6 HW K5
          go_wp2_with fail
          generalize wr = wT at *
          -- the world is wT, KT : Hid (Below w.heap.size w wT)
          have RT := read_any t wT ((unhideI HG).step (unhideI KT))
          have T2 := hideI (turn2 t.data.toList)
          generalize readA t.data.toList = R at *
          obtain ⟨ks, er, ef⟩ := R
          dsimp only at RT T2
          refine RT.mono ?_
          rintro e w6 ⟨v6, rfl, l6, -, k6⟩
          have K6 := hideI (bt (unhideI KT) k6)
          have L6 := hideI l6
          have K67 := hideI (below_a w6 (.cells #[.int .i64 er, .int .i64 ef] 25))
          have B7 := hideI (Box.new w6 #[.int .i64 er, .int .i64 ef] 25)
          clear RT l6 k6 KT
          by_cases her : er = 0
          · subst her
            obtain ⟨t1, t2⟩ := unhideI T2 rfl
            have G7 := (unhideI HG).step (bt (unhideI K6) (unhideI K67))
            have SH := show_any ks v6 _ G7 ((unhideI L6).step (unhideI K67))
            have HT2 := hideI t2
            generalize shwA ks = SA at *
            obtain ⟨ss, e8, f8⟩ := SA
            dsimp only at t1 SH HT2
            subst t1
            clear T2 G7 t2
            go_wp2_with fail
            generalize w6.alloc (.cells #[.int .i64 0, .int .i64 ef] 25) = w7 at *
            refine SH.mono ?_
            rintro e w8 ⟨rfl, k8⟩
            have B8 := (unhideI B7).step k8
            have K68 := hideI ((unhideI K67).trans (k8.mono (unhideI K67).size))
            have B9 := hideI (fault_set B8 (.int .i64 0) (.int .i64 f8))
            have K69 := hideI (below_2 (b := w6.heap.size) (unhideI K68) (Nat.le_refl _) (.int .i64 0) (.int .i64 f8))
            obtain ⟨q0, q1⟩ := B8.at2
            have q2 := B8.2.2
            have q3 : w6.heap.size < w8.heap.size := B8.1
            have hbs : (ba ss).size = ss.length := ba_size ss
            clear SH k8 B8 K68 K67 B7
            by_cases hlen : 1048576 < ss.length
            · have hl' : (1048576 : Int) < ((ba ss).size : Int) := by rw [hbs]; omega
              generalize ba ss = sb at *
              go_wp2_with fail
              go_ret
              exact ⟨rfl, bt (unhideI K6) (unhideI K69)⟩
            · have hl' : ¬ (1048576 : Int) < ((ba ss).size : Int) := by rw [hbs]; omega
              have hrd := unhideI HT2 (by omega)
              have RD := fun w G => read_any (ba ss) w G
              rw [ba_data, hrd] at RD
              dsimp only at RD
              clear HT2 hrd hlen hbs
              generalize ba ss = sb at *
              have G9 := (unhideI HG).step (bt (unhideI K6) (unhideI K69))
              have RD9 := RD _ G9
              clear G9 RD
              go_wp2_with fail
              generalize (w8.setCell ⟨w6.heap.size, 0, none⟩ (.int .i64 0)).setCell ⟨w6.heap.size, 1, none⟩ (.int .i64 f8) = w9 at *
              clear q0 q1 q2 q3
              refine RD9.mono ?_
              rintro e w10 ⟨v10, rfl, l10, o10, k10⟩
              have B10 := (unhideI B9).step k10
              have h9 : w6.heap.size < w9.heap.size := (unhideI B9).1
              have K610 := hideI ((unhideI K69).trans (k10.mono (unhideI K69).size))
              have K611 := hideI (below_2 (b := w6.heap.size) (unhideI K610) (Nat.le_refl _) (.int .i64 0) (.int .i64 0))
              have L11 := hideI (Lies.other (j := 1) (u := .int .i64 0) (Lies.other (j := 0) (u := .int .i64 0) l10 (b := w6.heap.size) (fun k hk => by have := o10 k hk; omega)) (b := w6.heap.size) (fun k hk => by have := o10 k hk; omega))
              have SA := same4_yes ks v6 v10 _ ((unhideI L6).step (unhideI K611)) (unhideI L11)
              have KE := hideI (bt (unhideI K6) (unhideI K611))
              obtain ⟨q0, q1⟩ := B10.at2
              have q2 := B10.2.2
              have q3 : w6.heap.size < w10.heap.size := B10.1
              clear RD9 l10 o10 k10 B9 B10 K69 K610 K611 L11 L6 K6
              go_wp2_with fail
              refine SA.mono ?_
              rintro e w12 ⟨rfl, k12⟩
              have KF := hideI (bt (unhideI KE) k12)
              clear SA k12 KE
              go_wp2_with fail
              go_ret
              exact ⟨rfl, unhideI KF⟩
          · have her' : (er != 0) = true := by simpa using her
            have KE := hideI (bt (unhideI K6) (unhideI K67))
            clear T2 her
            go_wp2_with fail
            go_ret
            exact ⟨rfl, unhideI KE⟩
    · have hl' : ¬ ((ba ss).size : Int) ≤ 1048576 := by rw [hbs]; omega
      generalize ba ss = sb at *
      clear T1 L3 HL K2 hbs hlen
      go_wp2_with fail
      have KT := K3
      clear K3
      generalize w2.alloc (.cells #[.int .i64 0, .int .i64 f2] 25) = wT at *
      generalize w2.heap.size = p2 at *
      -- the world is wT, KT : Hid (Below w.heap.size w wT)
      have RT := read_any t wT ((unhideI HG).step (unhideI KT))
      have T2 := hideI (turn2 t.data.toList)
      generalize readA t.data.toList = R at *
      obtain ⟨ks, er, ef⟩ := R
      dsimp only at RT T2
      refine RT.mono ?_
      rintro e w6 ⟨v6, rfl, l6, -, k6⟩
      have K6 := hideI (bt (unhideI KT) k6)
      have L6 := hideI l6
      have K67 := hideI (below_a w6 (.cells #[.int .i64 er, .int .i64 ef] 25))
      have B7 := hideI (Box.new w6 #[.int .i64 er, .int .i64 ef] 25)
      clear RT l6 k6 KT
      by_cases her : er = 0
      · subst her
        obtain ⟨t1, t2⟩ := unhideI T2 rfl
        have G7 := (unhideI HG).step (bt (unhideI K6) (unhideI K67))
        have SH := show_any ks v6 _ G7 ((unhideI L6).step (unhideI K67))
        have HT2 := hideI t2
        generalize shwA ks = SA at *
        obtain ⟨ss, e8, f8⟩ := SA
        dsimp only at t1 SH HT2
        subst t1
        clear T2 G7 t2
        go_wp2_with fail
        generalize w6.alloc (.cells #[.int .i64 0, .int .i64 ef] 25) = w7 at *
        refine SH.mono ?_
        rintro e w8 ⟨rfl, k8⟩
        have B8 := (unhideI B7).step k8
        have K68 := hideI ((unhideI K67).trans (k8.mono (unhideI K67).size))
        have B9 := hideI (fault_set B8 (.int .i64 0) (.int .i64 f8))
        have K69 := hideI (below_2 (b := w6.heap.size) (unhideI K68) (Nat.le_refl _) (.int .i64 0) (.int .i64 f8))
        obtain ⟨q0, q1⟩ := B8.at2
        have q2 := B8.2.2
        have q3 : w6.heap.size < w8.heap.size := B8.1
        have hbs : (ba ss).size = ss.length := ba_size ss
        clear SH k8 B8 K68 K67 B7
        by_cases hlen : 1048576 < ss.length
        · have hl' : (1048576 : Int) < ((ba ss).size : Int) := by rw [hbs]; omega
          generalize ba ss = sb at *
          go_wp2_with fail
          go_ret
          exact ⟨rfl, bt (unhideI K6) (unhideI K69)⟩
        · have hl' : ¬ (1048576 : Int) < ((ba ss).size : Int) := by rw [hbs]; omega
          have hrd := unhideI HT2 (by omega)
          have RD := fun w G => read_any (ba ss) w G
          rw [ba_data, hrd] at RD
          dsimp only at RD
          clear HT2 hrd hlen hbs
          generalize ba ss = sb at *
          have G9 := (unhideI HG).step (bt (unhideI K6) (unhideI K69))
          have RD9 := RD _ G9
          clear G9 RD
          go_wp2_with fail
          generalize (w8.setCell ⟨w6.heap.size, 0, none⟩ (.int .i64 0)).setCell ⟨w6.heap.size, 1, none⟩ (.int .i64 f8) = w9 at *
          clear q0 q1 q2 q3
          refine RD9.mono ?_
          rintro e w10 ⟨v10, rfl, l10, o10, k10⟩
          have B10 := (unhideI B9).step k10
          have h9 : w6.heap.size < w9.heap.size := (unhideI B9).1
          have K610 := hideI ((unhideI K69).trans (k10.mono (unhideI K69).size))
          have K611 := hideI (below_2 (b := w6.heap.size) (unhideI K610) (Nat.le_refl _) (.int .i64 0) (.int .i64 0))
          have L11 := hideI (Lies.other (j := 1) (u := .int .i64 0) (Lies.other (j := 0) (u := .int .i64 0) l10 (b := w6.heap.size) (fun k hk => by have := o10 k hk; omega)) (b := w6.heap.size) (fun k hk => by have := o10 k hk; omega))
          have SA := same4_yes ks v6 v10 _ ((unhideI L6).step (unhideI K611)) (unhideI L11)
          have KE := hideI (bt (unhideI K6) (unhideI K611))
          obtain ⟨q0, q1⟩ := B10.at2
          have q2 := B10.2.2
          have q3 : w6.heap.size < w10.heap.size := B10.1
          clear RD9 l10 o10 k10 B9 B10 K69 K610 K611 L11 L6 K6
          go_wp2_with fail
          refine SA.mono ?_
          rintro e w12 ⟨rfl, k12⟩
          have KF := hideI (bt (unhideI KE) k12)
          clear SA k12 KE
          go_wp2_with fail
          go_ret
          exact ⟨rfl, unhideI KF⟩
      · have her' : (er != 0) = true := by simpa using her
        have KE := hideI (bt (unhideI K6) (unhideI K67))
        clear T2 her
        go_wp2_with fail
        go_ret
        exact ⟨rfl, unhideI KE⟩
  · have he2' : (e2 == 0) = false := by simpa using he2
    generalize ba ss = sb at *
    clear T1 L3 HL K2 he2 hbs
    go_wp2_with fail
    have KT := K3
    clear K3
    generalize w2.alloc (.cells #[.int .i64 e2, .int .i64 f2] 25) = wT at *
    generalize w2.heap.size = p2 at *
    -- the world is wT, KT : Hid (Below w.heap.size w wT)
    have RT := read_any t wT ((unhideI HG).step (unhideI KT))
    have T2 := hideI (turn2 t.data.toList)
    generalize readA t.data.toList = R at *
    obtain ⟨ks, er, ef⟩ := R
    dsimp only at RT T2
    refine RT.mono ?_
    rintro e w6 ⟨v6, rfl, l6, -, k6⟩
    have K6 := hideI (bt (unhideI KT) k6)
    have L6 := hideI l6
    have K67 := hideI (below_a w6 (.cells #[.int .i64 er, .int .i64 ef] 25))
    have B7 := hideI (Box.new w6 #[.int .i64 er, .int .i64 ef] 25)
    clear RT l6 k6 KT
    by_cases her : er = 0
    · subst her
      obtain ⟨t1, t2⟩ := unhideI T2 rfl
      have G7 := (unhideI HG).step (bt (unhideI K6) (unhideI K67))
      have SH := show_any ks v6 _ G7 ((unhideI L6).step (unhideI K67))
      have HT2 := hideI t2
      generalize shwA ks = SA at *
      obtain ⟨ss, e8, f8⟩ := SA
      dsimp only at t1 SH HT2
      subst t1
      clear T2 G7 t2
      go_wp2_with fail
      generalize w6.alloc (.cells #[.int .i64 0, .int .i64 ef] 25) = w7 at *
      refine SH.mono ?_
      rintro e w8 ⟨rfl, k8⟩
      have B8 := (unhideI B7).step k8
      have K68 := hideI ((unhideI K67).trans (k8.mono (unhideI K67).size))
      have B9 := hideI (fault_set B8 (.int .i64 0) (.int .i64 f8))
      have K69 := hideI (below_2 (b := w6.heap.size) (unhideI K68) (Nat.le_refl _) (.int .i64 0) (.int .i64 f8))
      obtain ⟨q0, q1⟩ := B8.at2
      have q2 := B8.2.2
      have q3 : w6.heap.size < w8.heap.size := B8.1
      have hbs : (ba ss).size = ss.length := ba_size ss
      clear SH k8 B8 K68 K67 B7
      by_cases hlen : 1048576 < ss.length
      · have hl' : (1048576 : Int) < ((ba ss).size : Int) := by rw [hbs]; omega
        generalize ba ss = sb at *
        go_wp2_with fail
        go_ret
        exact ⟨rfl, bt (unhideI K6) (unhideI K69)⟩
      · have hl' : ¬ (1048576 : Int) < ((ba ss).size : Int) := by rw [hbs]; omega
        have hrd := unhideI HT2 (by omega)
        have RD := fun w G => read_any (ba ss) w G
        rw [ba_data, hrd] at RD
        dsimp only at RD
        clear HT2 hrd hlen hbs
        generalize ba ss = sb at *
        have G9 := (unhideI HG).step (bt (unhideI K6) (unhideI K69))
        have RD9 := RD _ G9
        clear G9 RD
        go_wp2_with fail
        generalize (w8.setCell ⟨w6.heap.size, 0, none⟩ (.int .i64 0)).setCell ⟨w6.heap.size, 1, none⟩ (.int .i64 f8) = w9 at *
        clear q0 q1 q2 q3
        refine RD9.mono ?_
        rintro e w10 ⟨v10, rfl, l10, o10, k10⟩
        have B10 := (unhideI B9).step k10
        have h9 : w6.heap.size < w9.heap.size := (unhideI B9).1
        have K610 := hideI ((unhideI K69).trans (k10.mono (unhideI K69).size))
        have K611 := hideI (below_2 (b := w6.heap.size) (unhideI K610) (Nat.le_refl _) (.int .i64 0) (.int .i64 0))
        have L11 := hideI (Lies.other (j := 1) (u := .int .i64 0) (Lies.other (j := 0) (u := .int .i64 0) l10 (b := w6.heap.size) (fun k hk => by have := o10 k hk; omega)) (b := w6.heap.size) (fun k hk => by have := o10 k hk; omega))
        have SA := same4_yes ks v6 v10 _ ((unhideI L6).step (unhideI K611)) (unhideI L11)
        have KE := hideI (bt (unhideI K6) (unhideI K611))
        obtain ⟨q0, q1⟩ := B10.at2
        have q2 := B10.2.2
        have q3 : w6.heap.size < w10.heap.size := B10.1
        clear RD9 l10 o10 k10 B9 B10 K69 K610 K611 L11 L6 K6
        go_wp2_with fail
        refine SA.mono ?_
        rintro e w12 ⟨rfl, k12⟩
        have KF := hideI (bt (unhideI KE) k12)
        clear SA k12 KE
        go_wp2_with fail
        go_ret
        exact ⟨rfl, unhideI KF⟩
    · have her' : (er != 0) = true := by simpa using her
      have KE := hideI (bt (unhideI K6) (unhideI K67))
      clear T2 her
      go_wp2_with fail
      go_ret
      exact ⟨rfl, unhideI KE⟩
end Go.Proofs.YtoopgkbefhoeiaaGreatDoor
