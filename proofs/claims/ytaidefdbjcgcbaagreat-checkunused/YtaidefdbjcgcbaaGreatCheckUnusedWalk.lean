/-
  A function more that nobody calls leaves a program as right as it was.
-/
import Derived.Test.YtaidefdbjcgcbaaGreatCuAz
namespace Go.Proofs.YtaidefdbjcgcbaaGreat
open Go.RowKit Go.Maps Go.Great
set_option linter.unusedSimpArgs false
set_option linter.unusedVariables false

set_option maxRecDepth 100000 in
set_option maxHeartbeats 2000000 in
theorem walk_checkUnused (p : Pg) (nm : ByteArray) (v1 v2 : Value) (w : World) (hp : PgL w.heap.size w v1 v2 p) (hn : nm.size ≤ maxLen) :
    Calls Tryz.prog 4 #[.agg #[v1, v2], .string nm] w fun e w' => e = .returned (.bool true) ∧ Below w.heap.size w w' := by
  obtain ⟨ga, gc, rfl, hgm⟩ := hp.g.slice
  obtain ⟨fa, fc, rfl, hfm⟩ := hp.f.slice
  unfold maxLen at hgm hfm
  have k1 := below_a w (.cells #[.slice ga p.globals.length gc, .slice fa p.funcs.length fc] 25)
  have HBP := hideI (BoxC.new w #[.slice ga p.globals.length gc, .slice fa p.funcs.length fc] 25 (by decide))
  have HP := hideI (hp.step k1)
  have hs := World.heap_alloc_size w (.cells #[.slice ga p.globals.length gc, .slice fa p.funcs.length fc] 25)
  have K0 := hideI k1
  have AL := hideI (fun w => alive9_any w)
  have HN := hideI hn
  clear hp k1
  go_enter Tryz.func4, Tryz.ntmps4
  go_wp2_with fail
  generalize w.alloc (.cells #[.slice ga p.globals.length gc, .slice fa p.funcs.length fc] 25) = W0 at *
  refine (unhideI AL _).mono ?_
  rintro e w1 ⟨rfl, k1⟩
  have B1 := (unhideI HBP).step k1
  have K1 := hideI ((unhideI K0).trans (k1.mono (unhideI K0).size))
  have P1 := (unhideI HP).step (k1.mono (by omega))
  have CK := hideI (check_any p _ _ w1 ⟨P1.g.mono9 (by have := k1.size; omega), P1.f.mono9 (by have := k1.size; omega)⟩)
  have HB1 := hideI B1
  have HP1 := hideI P1
  obtain ⟨c0, c1⟩ := B1.box.at2
  have hsp := B1.lt
  clear AL k1 K0 HBP HP B1 P1
  unfold CkR at CK
  obtain ⟨R, hR⟩ : ∃ R, R = ckP p := ⟨_, rfl⟩
  rw [← hR] at CK
  have HR := hideI hR
  clear hR
  obtain ⟨er, at9⟩ := R
  dsimp only at CK
  go_wp2_with fail
  refine (unhideI CK).mono ?_
  rintro e w2 ⟨rfl, k2⟩
  have B2 := (unhideI HB1).step k2
  have K2 := hideI ((unhideI K1).trans (k2.mono (by have := (unhideI K1).size; omega)))
  have P2 := (unhideI HP1).step (k2.mono (by omega))
  have HB2 := hideI B2
  have HP2 := hideI P2
  clear CK K1 HB1 HP1 B2 P2 k2 c0 c1 hsp
  have hfd := fun w => fld9 er at9 w
  by_cases he : er = 0
  rotate_left
  · have e1 : (er != 0) = true := bne_iff_ne.2 he
    have e2 : (er == 0) = false := beq_eq_false_iff_ne.2 he
    go_wp2_with fail
    go_ret
    exact ⟨rfl, unhideI K2⟩
  subst he
  have NA := hideI (snamed_any nm w2)
  go_wp2_with fail
  refine (unhideI NA).mono ?_
  rintro e w3 ⟨rfl, k3⟩
  have HB3 := hideI ((unhideI HB2).step k3)
  have K3 := hideI ((unhideI K2).trans (k3.mono (by have := (unhideI K2).size; omega)))
  have HP3 := hideI ((unhideI HP2).step (k3.mono (by have := (unhideI HB2).lt; omega)))
  obtain ⟨c0, c1⟩ := (unhideI HB3).box.at2
  have hsp := (unhideI HB3).lt
  clear NA HB2 K2 HP2 k3 hfd
  cases hnn : namN nm
  · go_wp2_with fail
    go_ret
    exact ⟨rfl, unhideI K3⟩
  have HNN := hideI hnn
  clear hnn
  by_cases q1 : nm.toList = [112, 117, 116]
  · have e1 : (nm.toList == [112, 117, 116]) = true := beq_iff_eq.2 q1
    go_wp2_with fail
    go_ret
    exact ⟨rfl, unhideI K3⟩
  have e1 : (nm.toList == [112, 117, 116]) = false := beq_eq_false_iff_ne.2 q1
  by_cases q2 : nm.toList = [103, 101, 116]
  · have e2 : (nm.toList == [103, 101, 116]) = true := beq_iff_eq.2 q2
    go_wp2_with fail
    go_ret
    exact ⟨rfl, unhideI K3⟩
  have e2 : (nm.toList == [103, 101, 116]) = false := beq_eq_false_iff_ne.2 q2
  by_cases q3 : 100 ≤ (p.funcs.length : Int)
  · go_wp2_with fail
    go_ret
    exact ⟨rfl, unhideI K3⟩
  go_wp2_with fail
  have N1 : nm ≠ nPut := by rintro rfl; exact q1 (by kernel_rfl)
  have N2 : nm ≠ nGet := by rintro rfl; exact q2 (by kernel_rfl)
  have HN3 := hideI (And.intro N1 (And.intro N2 (show p.funcs.length < 100 by omega)))
  clear N1 N2 e1 e2 q1 q2 c0 c1 hsp
  go_loopg [39] p.globals.length (fun g t wr => ∃ (i : Nat), i ≤ p.globals.length ∧ g = p.globals.length - i ∧ t = .int .i64 (i : Int) ∧ Hid (Below w3.heap.size w3 wr) ∧ Hid (∀ j (_ : j < i) (h' : j < p.globals.length), p.globals[j].nm ≠ nm))
  case atStart => exact ⟨0, Nat.zero_le _, rfl, rfl, hideI (Below.refl _ _), hideI (fun j h _ => absurd h (Nat.not_lt_zero _))⟩
  case round =>
    obtain ⟨i, hi, hg, rfl, HC, HE⟩ := hrel
    generalize wr = V0 at *
    have P4 := (unhideI HP3).step ((unhideI HC).mono (by have := (unhideI HB3).lt; omega))
    by_cases hlt : i < p.globals.length
    · obtain ⟨b1, o1, ka, kc, rfl, hb1, hnm, hx, x0, x1, x2, x3, x4⟩ := P4.g.read i hlt
      have hiI : (i : Int) < (p.globals.length : Int) := by omega
      have hi0 : (0 : Int) ≤ (i : Int) := by omega
      obtain ⟨y, hy⟩ : ∃ y, y = p.globals[i] := ⟨_, rfl⟩
      rw [← hy] at x0 x1 x2 x3 x4 hnm hx
      have HY := hideI hy
      have ka := below_a V0 (.cells #[.int .i64 y.b, .bool y.s, .string y.nm, .int .i64 y.size, .slice ka y.init.length kc] 37)
      have KA := hideI (bT (unhideI HC) ka)
      clear hy hx P4 ka
      by_cases hnn : y.nm.toList = nm.toList
      · have e1 : (y.nm.toList == nm.toList) = true := beq_iff_eq.2 hnn
        have HH := hideI hnn
        clear hnn
        go_wp2_with fail
        go_ret
        exact ⟨rfl, (unhideI K3).trans ((unhideI KA).mono (unhideI K3).size)⟩
      · have e1 : (y.nm.toList == nm.toList) = false := beq_eq_false_iff_ne.2 hnn
        have HH := hideI hnn
        clear hnn
        go_wp2_with fail
        go_roundg (p.globals.length - (i + 1))
        case measure => omega
        case rel =>
          refine ⟨i + 1, by omega, rfl, by go_num, KA, hideI (fun j h h' => ?_)⟩
          by_cases hji : j = i
          · subst hji; rw [← unhideI HY]; exact fun e => unhideI HH (by rw [e])
          · exact unhideI HE j (by omega) h'
    · have hiI : ¬ (i : Int) < (p.globals.length : Int) := by omega
      have HGN := hideI (show ∀ g ∈ p.globals, g.nm ≠ nm from fun g hg => by obtain ⟨j, hj, rfl⟩ := List.mem_iff_getElem.1 hg; exact unhideI HE j (by omega) hj)
      have K4 := hideI ((unhideI K3).trans ((unhideI HC).mono (unhideI K3).size))
      have HB4 := hideI ((unhideI HB3).step (unhideI HC))
      have HP4 := hideI P4
      obtain ⟨c0, c1⟩ := (unhideI HB4).box.at2
      have hsp := (unhideI HB4).lt
      clear HE HC P4 HB3 HP3 K3
      go_wp2_with fail
      clear c0 c1 hsp
      go_loopg [51] p.funcs.length (fun g t wr => ∃ (i : Nat), i ≤ p.funcs.length ∧ g = p.funcs.length - i ∧ t = .int .i64 (i : Int) ∧ Hid (Below V0.heap.size V0 wr) ∧ Hid (∀ j (_ : j < i) (h' : j < p.funcs.length), p.funcs[j].nm ≠ nm))
      case atStart => exact ⟨0, Nat.zero_le _, rfl, rfl, hideI (Below.refl _ _), hideI (fun j h _ => absurd h (Nat.not_lt_zero _))⟩
      case round =>
        obtain ⟨q, hq, hgq, rfl, HC, HE⟩ := hrel
        generalize wr = V1 at *
        have P5 := (unhideI HP4).step ((unhideI HC).mono (by have := (unhideI HB4).lt; omega))
        by_cases hlt : q < p.funcs.length
        · obtain ⟨b1, o1, pa, pc, sa, sc, rfl, hb1, hnm, hx, hy, x0, x1, x2, x3, x4⟩ := P5.f.read q hlt
          have hqI : (q : Int) < (p.funcs.length : Int) := by omega
          have hq0 : (0 : Int) ≤ (q : Int) := by omega
          obtain ⟨y, hyy⟩ : ∃ y, y = p.funcs[q] := ⟨_, rfl⟩
          rw [← hyy] at x0 x1 x2 x3 x4 hnm hx hy
          have HY := hideI hyy
          have ka := below_a V1 (.cells #[.string y.nm, .int .i64 y.b, .bool y.s, .slice pa y.params.length pc, .slice sa y.body.length sc] 41)
          have KA := hideI (bT (unhideI HC) ka)
          clear hyy hx hy P5 ka
          by_cases hnn : y.nm.toList = nm.toList
          · have e1 : (y.nm.toList == nm.toList) = true := beq_iff_eq.2 hnn
            have HH := hideI hnn
            clear hnn
            go_wp2_with fail
            go_ret
            exact ⟨rfl, (unhideI K4).trans ((unhideI KA).mono (unhideI K4).size)⟩
          · have e1 : (y.nm.toList == nm.toList) = false := beq_eq_false_iff_ne.2 hnn
            have HH := hideI hnn
            clear hnn
            go_wp2_with fail
            go_roundg (p.funcs.length - (q + 1))
            case measure => omega
            case rel =>
              refine ⟨q + 1, by omega, rfl, by go_num, KA, hideI (fun j h h' => ?_)⟩
              by_cases hji : j = q
              · subst hji; rw [← unhideI HY]; exact fun e => unhideI HH (by rw [e])
              · exact unhideI HE j (by omega) h'
        · have hqI : ¬ (q : Int) < (p.funcs.length : Int) := by omega
          have HFN := hideI (show ∀ g ∈ p.funcs, g.nm ≠ nm from fun g hg => by obtain ⟨j, hj, rfl⟩ := List.mem_iff_getElem.1 hg; exact unhideI HE j (by omega) hj)
          have K5 := hideI ((unhideI K4).trans ((unhideI HC).mono (unhideI K4).size))
          have HB5 := hideI ((unhideI HB4).step (unhideI HC))
          obtain ⟨ks, hr⟩ := P5.f
          have HGL := hideI P5.g
          have HRL := hideI hr
          have L0 := hr.lies
          have ONE := hideI (fnCs_one hr)
          obtain ⟨i0, hi0, hz0, hz1, hz2⟩ := info_partsC infoFn9
          have hfl := (unhideI HN3).2.2
          have kq := below_a V1 (.cells #[.slice ga p.globals.length gc, .slice fa p.funcs.length fc] 25)
          have BQ := BoxC.new V1 #[.slice ga p.globals.length gc, .slice fa p.funcs.length fc] 25 (by decide)
          have sq := World.heap_alloc_size V1 (.cells #[.slice ga p.globals.length gc, .slice fa p.funcs.length fc] 25)
          have ke := below_a (V1.alloc (.cells #[.slice ga p.globals.length gc, .slice fa p.funcs.length fc] 25)) (.cells #[] 41)
          have OWN0 := World.ownsRow_made (base := V1.heap.size + 1) (e := 41) (size := 5) (V1.alloc (.cells #[.slice ga p.globals.length gc, .slice fa p.funcs.length fc] 25)) #[] 0 (by rw [sq]; exact Nat.le_refl _) (by decide) (by simp)
          rw [sq] at OWN0
          have HO0 := hideI OWN0
          have HL0 := hideI (show Lies _ 5 _ _ (fnCs p.funcs ks) from L0.step (bT kq ke))
          have HBQ := hideI (BQ.step ke)
          have HKQ := hideI (bT kq ke)
          have HSZ := hideI (show V1.heap.size + 1 ≤ ((V1.alloc (.cells #[.slice ga p.globals.length gc, .slice fa p.funcs.length fc] 25)).alloc (.cells #[] 41)).heap.size from by have := ke.size; omega)
          obtain ⟨c0, c1⟩ := (unhideI HB5).box.at2
          have hsp := (unhideI HB5).lt
          clear HE HC P5 HB4 HP4 K4 hr L0 kq BQ sq ke OWN0
          go_wp2_with (first | (at_builtin; refine append_liesC rfl (.tmp 61) (.tmp 63) 23 rfl (V1.heap.size + 1) 41 i0 (.agg #[.string ⟨#[]⟩, .int .i64 0, .bool false, .slice none 0 0, .slice none 0 0]) 5 80 Tryz.underlying23 hi0 hz0 hz1 hz2 rfl (by decide) _ _ _ rfl (unhideI HO0) _ p.funcs.length (fnCs p.funcs ks) rfl (unhideI HL0) (unhideI ONE) (by unfold maxLen; omega) (by omega) (unhideI HSZ) ?_; intro v6 w6 o6 g6; rw [Nat.zero_add, List.nil_append] at o6; have g6' := (show World.grownBy _ w6 (some (V1.heap.size + 1)) from g6); have HBQ6 := hideI ((unhideI HBQ).grow2 g6' (fun e => by injection e with e; omega)); have HK6 := hideI (grown_below (unhideI HKQ) (unhideI HKQ).size (by omega) g6'); obtain ⟨va6, vc6, rfl⟩ := own_sliceC o6; have HO6 := hideI o6; clear o6 g6 g6' HO0 HL0 HBQ HKQ HSZ c0 c1 hsp) | (at_builtin; have k7 := below_a w6 (.cells #[.string nm, .int .i64 0, .bool false, .slice none 0 0, .slice none 0 0] 41); have B7 := Box.new w6 #[.string nm, .int .i64 0, .bool false, .slice none 0 0, .slice none 0 0] 41; refine append_liesC rfl (.tmp 64) (.tmp 67) 23 rfl (V1.heap.size + 1) 41 i0 (.agg #[.string ⟨#[]⟩, .int .i64 0, .bool false, .slice none 0 0, .slice none 0 0]) 5 80 Tryz.underlying23 hi0 hz0 hz1 hz2 rfl (by decide) _ _ _ rfl (own_step (unhideI HO6) k7) _ 1 [.string nm, .int .i64 0, .bool false, .slice none 0 0, .slice none 0 0] rfl (lies_one5 B7) (by intro u hu; simp only [List.mem_cons, List.not_mem_nil, or_false] at hu; rcases hu with rfl | rfl | rfl | rfl | rfl <;> rfl) (by unfold maxLen; omega) (by omega) (by have := (unhideI HBQ6).lt; have := k7.size; omega) ?_; intro v8 w8 o8 g8; have HBQ8 := hideI (((unhideI HBQ6).step k7).grow2 g8 (fun e => by have := (own_step (unhideI HO6) k7).lt _ e.symm; omega)); have HK8 := hideI (grown_below2 (bT (unhideI HK6) k7) (bT (unhideI HK6) k7).size (fun b e => by have := (own_step (unhideI HO6) k7).lt _ e; omega) g8); obtain ⟨va8, vc8, rfl⟩ := own_sliceC o8; have HO8 := hideI o8; clear o8 g8 HO6 HBQ6 HK6 k7 B7; have c0 := (unhideI HBQ8).box.2.1 0 _ rfl; have c1 := (unhideI HBQ8).box.2.1 1 _ rfl; have hsf := (unhideI HBQ8).box.2.2; have hsq := (unhideI HBQ8).lt))
          have O9 := own_set (u := .slice va8 (p.funcs.length + 1) vc8) (c := V1.heap.size) (j := 1) (unhideI HO8) (fun k e => by have := (unhideI HO8).lt _ e; omega)
          have BQ9 := (unhideI HBQ8).set (j := 1) (u := .slice va8 (p.funcs.length + 1) vc8)
          have K9 := Below.setCell (p := ⟨V1.heap.size, 1, none⟩) (unhideI HK8) (Nat.le_refl _) (.slice va8 (p.funcs.length + 1) vc8)
          have hW0 : w.heap.size ≤ V1.heap.size := by have := (unhideI HB5).lt; omega
          clear HO8 HBQ8 HK8 c0 c1 hsf hsq hi0 hz0 hz1 hz2 ONE
          generalize w8.setCell ⟨V1.heap.size, 1, none⟩ (.slice va8 (p.funcs.length + 1) vc8) = W9 at *
          have hsz9 := K9.size
          have PQ : PgL W9.heap.size W9 (.slice ga p.globals.length gc) (.slice va8 (p.funcs.length + 1) vc8) ⟨p.globals, p.funcs ++ [noF nm]⟩ := ⟨((unhideI HGL).step (K9.mono hW0)).mono9 (by omega), fnL_app (unhideI HRL) (K9.mono hW0) (by omega) nm hn O9 rfl⟩
          have UN := unused p nm (by rw [← unhideI HR]) (unhideI HNN) (unhideI HN3).1 (unhideI HN3).2.1 (unhideI HGN) (unhideI HFN) (unhideI HN3).2.2
          have CQ := check_any _ _ _ W9 PQ
          unfold CkR at CQ
          have SW := fun (W : World) (q : PgL W.heap.size W (.slice ga p.globals.length gc) (.slice va8 (p.funcs.length + 1) vc8) ⟨p.globals, p.funcs ++ [noF nm]⟩) => swrong_any _ _ _ W q
          have HPQ := hideI PQ
          have HBQ9 := hideI BQ9
          have HK9 := hideI ((unhideI K5).trans (K9.mono (unhideI K5).size))
          clear O9 BQ9 K9 PQ HGL HRL HGN HFN HR hfl
          generalize ckP ⟨p.globals, p.funcs ++ [noF nm]⟩ = RQ at *
          generalize (lkP ⟨p.globals, p.funcs ++ [noF nm]⟩).1 = LQ at *
          obtain ⟨eq, aq⟩ := RQ
          dsimp only at UN CQ
          have CQ := hideI CQ
          have SW := hideI SW
          rcases UN with rfl | ⟨rfl, rfl⟩
          · refine (unhideI CQ).mono ?_
            rintro e w10 ⟨rfl, k10⟩
            have K10 := hideI ((unhideI HK9).trans (k10.mono (unhideI HK9).size))
            clear CQ SW k10
            go_wp2_with fail
            go_ret
            exact ⟨rfl, (unhideI K10).trans ((below_a _ _).mono (unhideI K10).size)⟩
          · refine (unhideI CQ).mono ?_
            rintro e w10 ⟨rfl, k10⟩
            have K10 := hideI ((unhideI HK9).trans (k10.mono (unhideI HK9).size))
            have P10 := (unhideI HPQ).step k10
            have B10 := (unhideI HBQ9).step k10
            have ka := below_a w10 (.cells #[.int .i64 4, .int .i64 (aq : Int)] 28)
            have SW10 := hideI (unhideI SW _ ⟨(P10.g.step (ka.mono k10.size)).mono9 (Nat.le_trans k10.size ka.size), (P10.f.step (ka.mono k10.size)).mono9 (Nat.le_trans k10.size ka.size)⟩)
            have c0 : w10.cell? ⟨V1.heap.size, 0, none⟩ = some (.slice ga p.globals.length gc) := B10.box.2.1 0 _ (by simp)
            have c1 : w10.cell? ⟨V1.heap.size, 1, none⟩ = some (.slice va8 (p.funcs.length + 1) vc8) := B10.box.2.1 1 _ (by simp)
            have hsq := B10.lt
            clear CQ SW k10 P10 B10 ka
            go_wp2_with fail
            refine (unhideI SW10).mono ?_
            rintro e w11 ⟨rfl, k11⟩
            have K11 := hideI ((unhideI K10).trans ((bT (below_a _ _) k11).mono (unhideI K10).size))
            clear SW10 k11
            go_wp2_with fail
            go_ret
            exact ⟨rfl, unhideI K11⟩
end Go.Proofs.YtaidefdbjcgcbaaGreat
