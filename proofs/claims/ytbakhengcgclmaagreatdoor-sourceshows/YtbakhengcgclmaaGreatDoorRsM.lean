/-
  Writing: the document's answer: programs (written by mkRsL.py).
-/
import Derived.Test.YtbakhengcgclmaaGreatDoorRsL
import Derived.Deep.DeepCutAuto
namespace Go.Proofs.YtbakhengcgclmaaGreatDoor
open Go.RowKit Go.Great
set_option linter.unusedSimpArgs false
set_option linter.unusedVariables false

/-- A variable of all, behind a text. -/
theorem gl_cat (S : List UInt8) (b : Int) (s : Bool) (nm : ByteArray) (u : Nat) (l : List Ex) (hu : 0 < u) (hl : 0 < l.length) : ba S ++ tyN b s ++ ⟨#[32]⟩ ++ nm ++ ⟨#[91]⟩ ++ ba (Lib.decDigits u) ++ ⟨#[93]⟩ ++ ⟨#[32, 61, 32]⟩ ++ (⟨#[123]⟩ ++ ba (shC l) ++ ⟨#[125]⟩) ++ ⟨#[59, 10]⟩ = ba (S ++ glT ⟨b, s, nm, (u : Int), l⟩) := by
  apply b_eq
  have e1 : szT ⟨b, s, nm, (u : Int), l⟩ = [91] ++ Lib.decDigits u ++ [93] := by unfold szT; rw [if_pos (by show (0 : Int) < (u : Int); omega)]; show _ ++ Lib.itoa (u : Int) ++ _ = _; rw [Lib.itoa_nonneg]
  have e2 : inT ⟨b, s, nm, (u : Int), l⟩ = [32, 61, 32] ++ ([123] ++ shC l ++ [125]) := by unfold inT nuT; rw [if_neg (by show ¬ l.length = 0; omega), if_pos (by show (0 : Int) < (u : Int); omega)]
  unfold glT
  rw [e1, e2]
  simp [ba]
theorem gl_cat1 (S : List UInt8) (b : Int) (s : Bool) (nm : ByteArray) (u : Nat) (l : List Ex) (hu : 0 < u) (hl : l.length = 0) : ba S ++ tyN b s ++ ⟨#[32]⟩ ++ nm ++ ⟨#[91]⟩ ++ ba (Lib.decDigits u) ++ ⟨#[93]⟩ ++ ⟨#[59, 10]⟩ = ba (S ++ glT ⟨b, s, nm, (u : Int), l⟩) := by
  apply b_eq
  have e1 : szT ⟨b, s, nm, (u : Int), l⟩ = [91] ++ Lib.decDigits u ++ [93] := by unfold szT; rw [if_pos (by show (0 : Int) < (u : Int); omega)]; show _ ++ Lib.itoa (u : Int) ++ _ = _; rw [Lib.itoa_nonneg]
  have e2 : inT ⟨b, s, nm, (u : Int), l⟩ = [] := by unfold inT; rw [if_pos (by show l.length = 0; omega)]
  unfold glT
  rw [e1, e2]
  simp [ba]
theorem gl_cat2 (S : List UInt8) (b : Int) (s : Bool) (nm : ByteArray) (l : List Ex) (hl : 0 < l.length) : ba S ++ tyN b s ++ ⟨#[32]⟩ ++ nm ++ ⟨#[32, 61, 32]⟩ ++ ba (shC l) ++ ⟨#[59, 10]⟩ = ba (S ++ glT ⟨b, s, nm, ((0 : Nat) : Int), l⟩) := by
  apply b_eq
  have e1 : szT ⟨b, s, nm, ((0 : Nat) : Int), l⟩ = [] := by unfold szT; rw [if_neg (by show ¬ (0 : Int) < ((0 : Nat) : Int); omega)]
  have e2 : inT ⟨b, s, nm, ((0 : Nat) : Int), l⟩ = [32, 61, 32] ++ shC l := by unfold inT nuT; rw [if_neg (by show ¬ l.length = 0; omega), if_neg (by show ¬ (0 : Int) < ((0 : Nat) : Int); omega)]
  unfold glT
  rw [e1, e2]
  simp [ba]
theorem gl_cat3 (S : List UInt8) (b : Int) (s : Bool) (nm : ByteArray) (l : List Ex) (hl : l.length = 0) : ba S ++ tyN b s ++ ⟨#[32]⟩ ++ nm ++ ⟨#[59, 10]⟩ = ba (S ++ glT ⟨b, s, nm, ((0 : Nat) : Int), l⟩) := by
  apply b_eq
  have e1 : szT ⟨b, s, nm, ((0 : Nat) : Int), l⟩ = [] := by unfold szT; rw [if_neg (by show ¬ (0 : Int) < ((0 : Nat) : Int); omega)]
  have e2 : inT ⟨b, s, nm, ((0 : Nat) : Int), l⟩ = [] := by unfold inT; rw [if_pos (by show l.length = 0; omega)]
  unfold glT
  rw [e1, e2]
  simp [ba]
theorem gl_len (b : Int) (s : Bool) (nm : ByteArray) (u : Nat) (l : List Ex) : nm.size ≤ (glT ⟨b, s, nm, (u : Int), l⟩).length ∧ (shC l).length ≤ (glT ⟨b, s, nm, (u : Int), l⟩).length := by
  have h : nm.data.toList.length = nm.size := by simp
  unfold glT inT nuT
  simp only [List.length_append, List.length_cons, List.length_nil, h]
  refine ⟨by omega, ?_⟩
  split
  · rename_i e
    have : l = [] := List.eq_nil_of_length_eq_zero e
    rw [this]; simp [shC, joinC, shL]
  · split <;> (simp only [List.length_append, List.length_cons, List.length_nil]; omega)
theorem fn_cat (S : List UInt8) (f : Fn8) : ba S ++ tyN f.b f.s ++ ⟨#[32]⟩ ++ f.nm ++ ⟨#[40]⟩ ++ ba (psT f.params) ++ ⟨#[41, 32]⟩ ++ ba (blT f.body 0) ++ ⟨#[10]⟩ = ba (S ++ fnT f 0) := by
  apply b_eq
  unfold fnT
  simp [ba]
theorem fn_len (f : Fn8) : f.nm.size + (psT f.params).length + (blT f.body 0).length ≤ (fnT f 0).length := by
  have h : f.nm.data.toList.length = f.nm.size := by simp
  unfold fnT
  simp only [List.length_append, List.length_cons, List.length_nil, h]
  omega
set_option maxRecDepth 100000 in
set_option maxHeartbeats 4000000 in
theorem rshow_any (p : Pg) (v1 v2 : Value) (w : World) (hp : PgL w.heap.size w v1 v2 p) : Calls Tryz.prog 5 #[.agg #[v1, v2]] w fun e w' => e = .returned (.tuple #[.string ⟨(showT p).1.toArray⟩, .int .i64 (showT p).2]) ∧ Below w.heap.size w w' := by
  obtain ⟨ga, gc, rfl, hgm⟩ := hp.g.slice
  obtain ⟨fa, fc, rfl, hfm⟩ := hp.f.slice
  unfold maxLen at hgm hfm
  have kal := below_a w (.cells #[.slice ga p.globals.length gc, .slice fa p.funcs.length fc] 25)
  have SW := hideI (rwrong_any p _ _ _ ((hp.step kal).mono kal.size))
  have S0 := hideI (show Dp w (w.alloc (.cells #[.slice ga p.globals.length gc, .slice fa p.funcs.length fc] 25)) p (.slice ga p.globals.length gc) (.slice fa p.funcs.length fc) from ⟨kal, Box.new _ _ _, hp.step kal⟩)
  have EQ := hideI (show showT p = if (lkP p).1 = 0 then (if 65536 < (shP p).length then ([], 4) else (shP p, 0)) else ([], (lkP p).1) from rfl)
  obtain ⟨q0, q1⟩ := (unhideI S0).bx.at2
  have hs0 := (unhideI S0).bx.1
  clear hp kal
  generalize showT p = R at *
  by_cases he : (lkP p).1 = 0
  rotate_left
  · have E1 := unhideI EQ
    rw [if_neg he] at E1
    subst E1
    have hb : ((lkP p).1 == 0) = false := beq_eq_false_iff_ne.2 he
    have hb2 : ((lkP p).1 != 0) = true := bne_iff_ne.2 he
    clear EQ he
    generalize (lkP p).1 = er at *
    go_enter Tryz.func5, Tryz.ntmps5
    go_wp2_with fail
    refine (unhideI SW).mono ?_
    rintro e w1 ⟨rfl, k1⟩
    have S1 := hideI ((unhideI S0).next k1)
    clear SW k1 S0
    go_wp2_with fail
    exact bodyPost_ret (v := .tuple #[.string ⟨#[]⟩, .int .i64 er]) (by simp [results, Tryz.results5, go_sem]) rfl ⟨rfl, (unhideI S1).d⟩
  obtain ⟨OG, OF, OL⟩ := lkP_good p he
  have HKD := hideI (kdP p he)
  have E1 := unhideI EQ
  rw [if_pos he] at E1
  rw [he] at SW
  have E2 := hideI E1
  have HL := hideI OL
  have HOG := hideI OG
  have HOF := hideI OF
  have ESP := hideI (show shP p = (p.globals.map glT).flatten ++ (p.funcs.map (fnT · 0)).flatten from rfl)
  generalize shP p = SP at *
  clear EQ E1 he OG OF OL
  obtain ⟨gs, fs⟩ := p
  dsimp only at *
  rw [unhideI ESP] at HL
  go_enter Tryz.func5, Tryz.ntmps5
  go_wp2_with fail
  refine (unhideI SW).mono ?_
  rintro e w1 ⟨rfl, k1⟩
  have S1 := hideI ((unhideI S0).next k1)
  clear SW k1 S0 q0 q1 hs0
  obtain ⟨q0, q1⟩ := (unhideI S1).bx.at2
  have hs1 : w.heap.size < w1.heap.size := (unhideI S1).bx.1
  go_wp2_with fail
  go_loopg [5, 24] gs.length (fun g u y wr => ∃ (i : Nat), i ≤ gs.length ∧ g = gs.length - i ∧ y = .int .i64 (i : Int) ∧ u = .string (ba ((gs.take i).map glT).flatten) ∧ Hid (Dp w wr ⟨gs, fs⟩ (.slice ga gs.length gc) (.slice fa fs.length fc)))
  case atStart => exact ⟨0, Nat.zero_le _, rfl, rfl, rfl, S1⟩
  case round =>
    obtain ⟨i, hi, hg, rfl, rfl, HC⟩ := hrel
    generalize wr = W0 at *
    clear S1 q0 q1 hs1
    have hsW : w.heap.size < W0.heap.size := (unhideI HC).bx.1
    by_cases hlt : i < gs.length
    · have hP0 := (unhideI HC).hp
      obtain ⟨b1, o1, ka, kc, rfl, hb1, hnm, hx, x0, x1, x2, x3, x4⟩ := hP0.g.read i hlt
      have hiI : (i : Int) < (gs.length : Int) := by omega
      have hi0 : (0 : Int) ≤ (i : Int) := by omega
      obtain ⟨hOL, hsz0, hsz1⟩ := unhideI HOG _ (List.getElem_mem hlt)
      have hFL := flat_take_g_le glT gs i hlt
      have hLL := unhideI HL
      rw [List.length_append] at hLL
      have HT : Hid (((gs.take (i + 1)).map glT).flatten = ((gs.take i).map glT).flatten ++ glT gs[i]) := flat_take_g glT gs i hlt
      have hSS : (ba ((gs.take i).map glT).flatten).size ≤ 20000000 := by rw [ba_size]; omega
      have hGL : (glT gs[i]).length ≤ 20000000 := by omega
      obtain ⟨-, -, -, hlm, -⟩ := hx.at
      unfold maxLen at hlm
      clear hP0 hFL hLL
      generalize ((gs.take i).map glT).flatten = ST at *
      generalize gs[i] = y at *
      obtain ⟨yb, ys, yn, size, l⟩ := y
      dsimp only at *
      obtain ⟨size, rfl⟩ : ∃ u : Nat, size = (u : Int) := ⟨size.toNat, by omega⟩
      obtain ⟨hn9, hl9⟩ := gl_len yb ys yn size l
      have hty := tyN_len yb ys
      have HOL := hideI hOL
      have HLS := hideI (show (shC l).length ≤ 20000000 by omega)
      have kb := below_a W0 (.cells #[.int .i64 yb, .bool ys, .string yn, .int .i64 (size : Int), .slice ka l.length kc] 43)
      have S2 := hideI ((unhideI HC).next kb)
      have HBG := hideI (Box.new W0 #[.int .i64 yb, .bool ys, .string yn, .int .i64 (size : Int), .slice ka l.length kc] 43)
      have HX2 := hideI (hx.step (kb.mono (unhideI HC).d.size))
      have NA := hideI (fun (V : World) => rtname_any yb ys V)
      have G1 := hideI (gl_cat ST yb ys yn size l)
      have G2 := hideI (gl_cat1 ST yb ys yn size l)
      have G3 := hideI (gl_cat2 ST yb ys yn l)
      have G4 := hideI (gl_cat3 ST yb ys yn l)
      have hz1 : ¬ 9223372036854775807 < (ba ST).size + (tyN yb ys).size := by omega
      have hz2 : ¬ 9223372036854775807 < (ba ST).size + (tyN yb ys).size + 1 := by omega
      have hz3 : ¬ 9223372036854775807 < (ba ST).size + (tyN yb ys).size + 1 + yn.size := by omega
      have hA8 : (ba ST ++ tyN yb ys ++ ⟨#[32]⟩ ++ yn).size ≤ 50000000 := by simp only [ByteArray.size_append]; show (ba ST).size + (tyN yb ys).size + 1 + yn.size ≤ _; omega
      obtain ⟨g0, g1, g2, g3, g4⟩ := five_at (unhideI HBG)
      have hsg : W0.heap.size < (W0.alloc (.cells #[.int .i64 yb, .bool ys, .string yn, .int .i64 (size : Int), .slice ka l.length kc] 43)).heap.size := (unhideI HBG).1
      clear hx hnm hOL kb hn9 hl9 hty hSS hGL
      generalize ba ST = SA at *
      generalize tyN yb ys = ty at *
      go_wp2_with fail
      generalize W0.alloc (.cells #[.int .i64 yb, .bool ys, .string yn, .int .i64 (size : Int), .slice ka l.length kc] 43) = W1 at *
      generalize hbgE : W0.heap.size = bg at *
      refine wp_region_later (by kernel_rfl) (by kernel_rfl) ?_
      intro L hne lt hlc hlf hlm
      repeat (go_big_quiet_step ((go_at_call 13; exact later_call hlm (unhideI NA _))))
      refine wpQuiet_nil ?_
      intro wq kq
      clear hlm hlf hlc lt hne L
      obtain ⟨hqc, hqf⟩ := below_cells kq
      have S3 := hideI ((unhideI S2).next kq)
      have HB3 := hideI ((unhideI HBG).step kq)
      have HX3 := hideI ((unhideI HX2).step (kq.mono (unhideI S2).d.size))
      clear hqc hqf g0 g1 g2 g3 g4 S2 HBG HX2 x0 x1 x2 x3 x4 HC hsg kq NA hz1 hz2 hz3 hbgE hb1
      generalize wq = W3 at *
      obtain ⟨q0, q1, q2, q3, q4⟩ := five_at (unhideI HB3)
      have hbg3 : bg < W3.heap.size := (unhideI HB3).1
      generalize hAB : SA ++ ty ++ ⟨#[32]⟩ ++ yn = AB at *
      by_cases hz0 : 0 < size
      · have hzI : (0 : Int) < (size : Int) := by omega
        have DG := hideI (rdig_any size (by omega) W3)
        have hdl := decDigits_le size (by omega)
        have hDs : (ba (Lib.decDigits size)).size ≤ 20 := by rw [ba_size]; exact hdl
        have hz1 : ¬ 9223372036854775807 < AB.size + 1 := by omega
        have hz2 : ¬ 9223372036854775807 < AB.size + 1 + (ba (Lib.decDigits size)).size := by omega
        have hz3 : ¬ 9223372036854775807 < AB.size + 1 + (ba (Lib.decDigits size)).size + 1 := by omega
        have hSBs : (AB ++ ⟨#[91]⟩ ++ ba (Lib.decDigits size) ++ ⟨#[93]⟩).size ≤ 60000000 := by simp only [ByteArray.size_append]; show AB.size + 1 + _ + 1 ≤ _; omega
        have CAT0 := hideI (fun h => (unhideI G2) hz0 h)
        have CAT1 := hideI (fun h => (unhideI G1) hz0 h)
        clear G1 G2 G3 G4 hdl hA8
        generalize ba (Lib.decDigits size) = DD at *
        go_wp2_with fail
        refine (unhideI DG).mono ?_
        rintro e w4 ⟨rfl, k4⟩
        have S4 := hideI ((unhideI S3).next k4)
        have HB4 := hideI ((unhideI HB3).step k4)
        have HX4 := hideI ((unhideI HX3).step (k4.mono (unhideI S3).d.size))
        clear DG k4 S3 HB3 HX3 q0 q1 q2 q3 q4
        obtain ⟨q0, q1, q2, q3, q4⟩ := five_at (unhideI HB4)
        have hbg4 : bg < w4.heap.size := (unhideI HB4).1
        generalize hSB : AB ++ ⟨#[91]⟩ ++ DD ++ ⟨#[93]⟩ = SB at *
        go_wp2_with fail
        go_loopg [8, 50] l.length (fun g t y wr => ∃ (j : Nat), j ≤ l.length ∧ g = l.length - j ∧ y = .int .i64 (j : Int) ∧ t = .string (ba (shC (l.take j))) ∧ Hid (Dp w wr ⟨gs, fs⟩ (.slice (some ⟨b1, o1, none⟩) gs.length gc) (.slice fa fs.length fc)) ∧ Hid (Box wr bg [.int .i64 yb, .bool ys, .string yn, .int .i64 (size : Int), .slice ka l.length kc]) ∧ Hid (ExL w.heap.size wr (.slice ka l.length kc) l))
        case atStart => exact ⟨0, Nat.zero_le _, rfl, rfl, rfl, S4, HB4, HX4⟩
        case round =>
          obtain ⟨j, hj, hgj, rfl, rfl, HS, HB5, HX5⟩ := hrel
          generalize wr = V0 at *
          clear S4 HB4 HX4 q0 q1 q2 q3 q4
          by_cases hjt : j < l.length
          · obtain ⟨kb8, ko, ekv, hkm, hkv⟩ := (unhideI HX5).at
            injection ekv with ek1 ek2 ek3
            subst ek1 ek3
            obtain ⟨b2, o2, rfl, hbB, hb2, hcell⟩ := hkv (fun e => by rw [e] at hjt; simp at hjt)
            obtain ⟨kv, hky, hfy, c0, c1, c2, c3, c4, c5⟩ := hcell j hjt
            obtain ⟨ja, jc, rfl⟩ := hky.slice
            have hjI : (j : Int) < (l.length : Int) := by omega
            have hj0 : (0 : Int) ≤ (j : Int) := by omega
            have hsl := shC_le l (j + 1)
            have ET := hideI (shC_take l j hjt)
            rw [unhideI ET] at hsl
            simp only [List.length_append] at hsl
            have hLS := unhideI HLS
            have ka1 := below_a V0 (.cells #[.int .i64 l[j].k, .int .u64 l[j].n, .int .i64 l[j].b, .bool l[j].s, .string l[j].nm, .slice ja l[j].kids.length jc] 56)
            have S6 := hideI ((unhideI HS).next ka1)
            have HB6 := hideI ((unhideI HB5).step ka1)
            have HX6 := hideI ((unhideI HX5).step (ka1.mono (unhideI HS).d.size))
            have CA := hideI (rtext_any l[j] w.heap.size 1 _ _ (hky.step (ka1.mono (unhideI HS).d.size)) (unhideI S6).d.size hfy (unhideI HOL _ (List.getElem_mem hjt)) (by decide) (by omega))
            have hlA : (ba (shC (l.take j))).size + (if j = 0 then [] else [44, 32] : List UInt8).length + (ba (shE l[j] 1)).size ≤ 1000000000 := by rw [ba_size, ba_size]; omega
            have EC := hideI (show ba (shC (l.take j)) ++ ba (if j = 0 then [] else [44, 32]) ++ ba (shE l[j] 1) = ba (shC (l.take (j + 1))) by rw [bcat, bcat, unhideI ET])
            clear hsl ka1 hky hfy hcell hkv hLS
            generalize ba (shE l[j] 1) = TY at *
            generalize ba (shC (l.take j)) = SL at *
            generalize l[j] = x8 at *
            by_cases hz : j = 0
            · rw [if_pos hz] at EC hlA
              have hzI : ¬ (0 : Int) < (j : Int) := by omega
              have hz2 : ¬ 9223372036854775807 < SL.size + TY.size := by simp only [List.length_nil] at hlA; omega
              have HZ := hideI hz
              clear hz hlA
              go_wp2_with fail
              refine (unhideI CA).mono ?_
              rintro e w7 ⟨rfl, k7⟩
              have S7 := hideI ((unhideI S6).next k7)
              have HB7 := hideI ((unhideI HB6).step k7)
              have HX7 := hideI ((unhideI HX6).step (k7.mono (unhideI S6).d.size))
              clear CA k7 S6 HB6 HX6 c0 c1 c2 c3 c4 c5
              go_wp2_with fail
              go_roundg (l.length - (j + 1))
              case measure => omega
              case rel => exact ⟨j + 1, by omega, rfl, by go_num, by rw [← unhideI EC, bnil], S7, HB7, HX7⟩
            · rw [if_neg hz] at EC hlA
              have hzI : (0 : Int) < (j : Int) := by omega
              have hzN : 0 < j := by omega
              have hz2 : ¬ 9223372036854775807 < SL.size + 2 := by simp only [List.length_cons, List.length_nil] at hlA; omega
              have hz3 : ¬ 9223372036854775807 < SL.size + 2 + TY.size := by simp only [List.length_cons, List.length_nil] at hlA; omega
              have HZ := hideI hz
              clear hz hlA
              go_wp2_with fail
              refine (unhideI CA).mono ?_
              rintro e w7 ⟨rfl, k7⟩
              have S7 := hideI ((unhideI S6).next k7)
              have HB7 := hideI ((unhideI HB6).step k7)
              have HX7 := hideI ((unhideI HX6).step (k7.mono (unhideI S6).d.size))
              clear CA k7 S6 HB6 HX6 c0 c1 c2 c3 c4 c5
              go_wp2_with fail
              go_roundg (l.length - (j + 1))
              case measure => omega
              case rel => exact ⟨j + 1, by omega, rfl, by go_num, by rw [← unhideI EC]; rfl, S7, HB7, HX7⟩
          · have hjI : ¬ (j : Int) < (l.length : Int) := by omega
            rw [List.take_of_length_le (show l.length ≤ j by omega)]
            obtain ⟨q0, q1, q2, q3, q4⟩ := five_at (unhideI HB5)
            have hbg : bg < V0.heap.size := (unhideI HB5).1
            have hLS := unhideI HLS
            have hsL : (ba (shC l)).size ≤ 30000000 := by rw [ba_size]; omega
            by_cases hl0 : l.length = 0
            · have hlI : ¬ (0 : Int) < (l.length : Int) := by omega
              have hz9 : ¬ 9223372036854775807 < SB.size + 2 := by omega
              have EF := hideI (unhideI CAT0 hl0)
              clear hsL hLS
              go_wp2_with fail
              go_roundg (gs.length - (i + 1))
              case measure => omega
              case rel => exact ⟨i + 1, by omega, rfl, by go_num, by rw [unhideI HT, ← unhideI EF], HS⟩
            · have hlI : (0 : Int) < (l.length : Int) := by omega
              have hlN : 0 < l.length := by omega
              have EF := hideI (unhideI CAT1 hlN)
              clear hLS
              generalize ba (shC l) = SL at *
              have hz9 : ¬ 9223372036854775807 < SB.size + 3 := by omega
              have hz8 : ¬ 9223372036854775807 < 1 + SL.size := by omega
              have hz7 : ¬ 9223372036854775807 < 1 + SL.size + 1 := by omega
              have hz6 : ¬ 9223372036854775807 < SB.size + 3 + (1 + SL.size + 1) := by omega
              have hz5 : ¬ 9223372036854775807 < SB.size + 3 + (1 + SL.size + 1) + 2 := by omega
              clear hsL
              go_wp2_with fail
              go_roundg (gs.length - (i + 1))
              case measure => omega
              case rel => exact ⟨i + 1, by omega, rfl, by go_num, by rw [unhideI HT, ← unhideI EF], HS⟩
      · have hzI : ¬ (0 : Int) < (size : Int) := by omega
        obtain rfl : size = 0 := by omega
        have CAT0 := hideI (unhideI G4)
        have CAT1 := hideI (unhideI G3)
        have S4 := S3
        have HB4 := HB3
        have HX4 := HX3
        have hSBs : AB.size ≤ 60000000 := by omega
        clear G1 G2 G3 G4 S3 HB3 HX3 hA8
        generalize AB = SB at *
        go_wp2_with fail
        go_loopg [8, 50] l.length (fun g t y wr => ∃ (j : Nat), j ≤ l.length ∧ g = l.length - j ∧ y = .int .i64 (j : Int) ∧ t = .string (ba (shC (l.take j))) ∧ Hid (Dp w wr ⟨gs, fs⟩ (.slice (some ⟨b1, o1, none⟩) gs.length gc) (.slice fa fs.length fc)) ∧ Hid (Box wr bg [.int .i64 yb, .bool ys, .string yn, .int .i64 ((0 : Nat) : Int), .slice ka l.length kc]) ∧ Hid (ExL w.heap.size wr (.slice ka l.length kc) l))
        case atStart => exact ⟨0, Nat.zero_le _, rfl, rfl, rfl, S4, HB4, HX4⟩
        case round =>
          obtain ⟨j, hj, hgj, rfl, rfl, HS, HB5, HX5⟩ := hrel
          generalize wr = V0 at *
          clear S4 HB4 HX4 q0 q1 q2 q3 q4
          by_cases hjt : j < l.length
          · obtain ⟨kb8, ko, ekv, hkm, hkv⟩ := (unhideI HX5).at
            injection ekv with ek1 ek2 ek3
            subst ek1 ek3
            obtain ⟨b2, o2, rfl, hbB, hb2, hcell⟩ := hkv (fun e => by rw [e] at hjt; simp at hjt)
            obtain ⟨kv, hky, hfy, c0, c1, c2, c3, c4, c5⟩ := hcell j hjt
            obtain ⟨ja, jc, rfl⟩ := hky.slice
            have hjI : (j : Int) < (l.length : Int) := by omega
            have hj0 : (0 : Int) ≤ (j : Int) := by omega
            have hsl := shC_le l (j + 1)
            have ET := hideI (shC_take l j hjt)
            rw [unhideI ET] at hsl
            simp only [List.length_append] at hsl
            have hLS := unhideI HLS
            have ka1 := below_a V0 (.cells #[.int .i64 l[j].k, .int .u64 l[j].n, .int .i64 l[j].b, .bool l[j].s, .string l[j].nm, .slice ja l[j].kids.length jc] 56)
            have S6 := hideI ((unhideI HS).next ka1)
            have HB6 := hideI ((unhideI HB5).step ka1)
            have HX6 := hideI ((unhideI HX5).step (ka1.mono (unhideI HS).d.size))
            have CA := hideI (rtext_any l[j] w.heap.size 1 _ _ (hky.step (ka1.mono (unhideI HS).d.size)) (unhideI S6).d.size hfy (unhideI HOL _ (List.getElem_mem hjt)) (by decide) (by omega))
            have hlA : (ba (shC (l.take j))).size + (if j = 0 then [] else [44, 32] : List UInt8).length + (ba (shE l[j] 1)).size ≤ 1000000000 := by rw [ba_size, ba_size]; omega
            have EC := hideI (show ba (shC (l.take j)) ++ ba (if j = 0 then [] else [44, 32]) ++ ba (shE l[j] 1) = ba (shC (l.take (j + 1))) by rw [bcat, bcat, unhideI ET])
            clear hsl ka1 hky hfy hcell hkv hLS
            generalize ba (shE l[j] 1) = TY at *
            generalize ba (shC (l.take j)) = SL at *
            generalize l[j] = x8 at *
            by_cases hz : j = 0
            · rw [if_pos hz] at EC hlA
              have hzI : ¬ (0 : Int) < (j : Int) := by omega
              have hz2 : ¬ 9223372036854775807 < SL.size + TY.size := by simp only [List.length_nil] at hlA; omega
              have HZ := hideI hz
              clear hz hlA
              go_wp2_with fail
              refine (unhideI CA).mono ?_
              rintro e w7 ⟨rfl, k7⟩
              have S7 := hideI ((unhideI S6).next k7)
              have HB7 := hideI ((unhideI HB6).step k7)
              have HX7 := hideI ((unhideI HX6).step (k7.mono (unhideI S6).d.size))
              clear CA k7 S6 HB6 HX6 c0 c1 c2 c3 c4 c5
              go_wp2_with fail
              go_roundg (l.length - (j + 1))
              case measure => omega
              case rel => exact ⟨j + 1, by omega, rfl, by go_num, by rw [← unhideI EC, bnil], S7, HB7, HX7⟩
            · rw [if_neg hz] at EC hlA
              have hzI : (0 : Int) < (j : Int) := by omega
              have hzN : 0 < j := by omega
              have hz2 : ¬ 9223372036854775807 < SL.size + 2 := by simp only [List.length_cons, List.length_nil] at hlA; omega
              have hz3 : ¬ 9223372036854775807 < SL.size + 2 + TY.size := by simp only [List.length_cons, List.length_nil] at hlA; omega
              have HZ := hideI hz
              clear hz hlA
              go_wp2_with fail
              refine (unhideI CA).mono ?_
              rintro e w7 ⟨rfl, k7⟩
              have S7 := hideI ((unhideI S6).next k7)
              have HB7 := hideI ((unhideI HB6).step k7)
              have HX7 := hideI ((unhideI HX6).step (k7.mono (unhideI S6).d.size))
              clear CA k7 S6 HB6 HX6 c0 c1 c2 c3 c4 c5
              go_wp2_with fail
              go_roundg (l.length - (j + 1))
              case measure => omega
              case rel => exact ⟨j + 1, by omega, rfl, by go_num, by rw [← unhideI EC]; rfl, S7, HB7, HX7⟩
          · have hjI : ¬ (j : Int) < (l.length : Int) := by omega
            rw [List.take_of_length_le (show l.length ≤ j by omega)]
            obtain ⟨q0, q1, q2, q3, q4⟩ := five_at (unhideI HB5)
            have hbg : bg < V0.heap.size := (unhideI HB5).1
            have hLS := unhideI HLS
            have hsL : (ba (shC l)).size ≤ 30000000 := by rw [ba_size]; omega
            by_cases hl0 : l.length = 0
            · have hlI : ¬ (0 : Int) < (l.length : Int) := by omega
              have hz9 : ¬ 9223372036854775807 < SB.size + 2 := by omega
              have EF := hideI (unhideI CAT0 hl0)
              clear hsL hLS
              go_wp2_with fail
              go_roundg (gs.length - (i + 1))
              case measure => omega
              case rel => exact ⟨i + 1, by omega, rfl, by go_num, by rw [unhideI HT, ← unhideI EF], HS⟩
            · have hlI : (0 : Int) < (l.length : Int) := by omega
              have hlN : 0 < l.length := by omega
              have EF := hideI (unhideI CAT1 hlN)
              clear hLS
              generalize ba (shC l) = SL at *
              have hz9 : ¬ 9223372036854775807 < SB.size + 3 := by omega
              have hz6 : ¬ 9223372036854775807 < SB.size + 3 + SL.size := by omega
              have hz5 : ¬ 9223372036854775807 < SB.size + 3 + SL.size + 2 := by omega
              clear hsL
              go_wp2_with fail
              go_roundg (gs.length - (i + 1))
              case measure => omega
              case rel => exact ⟨i + 1, by omega, rfl, by go_num, by rw [unhideI HT, ← unhideI EF], HS⟩
    · have hiI : ¬ (i : Int) < (gs.length : Int) := by omega
      have hil : gs.take i = gs := List.take_of_length_le (by omega)
      rw [hil]
      obtain ⟨r0, r1⟩ := (unhideI HC).bx.at2
      clear hil HOG
      generalize (gs.map glT).flatten = GT at *
      go_wp2_with fail
      go_loopg [5, 90] fs.length (fun g u y wr => ∃ (i : Nat), i ≤ fs.length ∧ g = fs.length - i ∧ y = .int .i64 (i : Int) ∧ u = .string (ba (GT ++ ((fs.take i).map (fnT · 0)).flatten)) ∧ Hid (Dp w wr ⟨gs, fs⟩ (.slice ga gs.length gc) (.slice fa fs.length fc)))
      case atStart => exact ⟨0, Nat.zero_le _, rfl, rfl, by rw [show ((fs.take 0).map (fnT · 0)).flatten = [] from rfl, List.append_nil], HC⟩
      case round =>
        obtain ⟨k, hk, hgk, rfl, rfl, HD⟩ := hrel
        generalize wr = V0 at *
        clear HC r0 r1 hsW hiI hi
        have hsV : w.heap.size < V0.heap.size := (unhideI HD).bx.1
        by_cases hkt : k < fs.length
        · have hP0 := (unhideI HD).hp
          obtain ⟨b1, o1, pa, pc, sa, sc, rfl, hb1, hnm, hpm, hsm, x0, x1, x2, x3, x4⟩ := hP0.f.read k hkt
          have hkI : (k : Int) < (fs.length : Int) := by omega
          have hk0 : (0 : Int) ≤ (k : Int) := by omega
          have hOS := unhideI HOF _ (List.getElem_mem hkt)
          have hKS := unhideI HKD _ (List.getElem_mem hkt)
          have hFL := flat_take_g_le (fnT · 0) fs k hkt
          have hLL := unhideI HL
          rw [List.length_append] at hLL
          have HT : Hid (((fs.take (k + 1)).map (fnT · 0)).flatten = ((fs.take k).map (fnT · 0)).flatten ++ fnT fs[k] 0) := flat_take_g (fnT · 0) fs k hkt
          have hSS : (ba (GT ++ ((fs.take k).map (fnT · 0)).flatten)).size ≤ 20000000 := by rw [ba_size, List.length_append]; omega
          have hFN : (fnT fs[k] 0).length ≤ 20000000 := by omega
          have hfl := fn_len fs[k]
          have HT2 := hideI (show GT ++ ((fs.take (k + 1)).map (fnT · 0)).flatten = GT ++ ((fs.take k).map (fnT · 0)).flatten ++ fnT fs[k] 0 by rw [unhideI HT, List.append_assoc])
          have FC := hideI (fn_cat (GT ++ ((fs.take k).map (fnT · 0)).flatten) fs[k])
          obtain ⟨_, _, e8, hpl⟩ := hpm.slice
          clear e8
          unfold maxLen at hpl
          clear hP0 HT hFL hLL
          generalize GT ++ ((fs.take k).map (fnT · 0)).flatten = ST at *
          generalize fs[k] = y at *
          obtain ⟨fn, fb, fs8, ps, bd⟩ := y
          dsimp only at *
          have hty := tyN_len fb fs8
          have hbl : (ba (blT bd 0)).size ≤ 20000000 := by rw [ba_size]; omega
          have hpsz : (ba (psT ps)).size ≤ 20000000 := by rw [ba_size]; omega
          have kb := below_a V0 (.cells #[.string fn, .int .i64 fb, .bool fs8, .slice pa ps.length pc, .slice sa bd.length sc] 48)
          have S2 := hideI ((unhideI HD).next kb)
          have HBF := hideI (Box.new V0 #[.string fn, .int .i64 fb, .bool fs8, .slice pa ps.length pc, .slice sa bd.length sc] 48)
          have HPM := hideI (hpm.step (kb.mono (unhideI HD).d.size))
          have HSM := hideI (hsm.step (kb.mono (unhideI HD).d.size))
          have NA := hideI (fun (V : World) => rtname_any fb fs8 V)
          have IA := hideI (fun (V : World) (h : SmL w.heap.size V (.slice sa bd.length sc) bd) (h2 : w.heap.size ≤ V.heap.size) => rinner_any bd (fun y _ => rwrite_any y) hOS hKS w.heap.size 0 _ V h h2 (by omega))
          have HPL := hideI (show (psT ps).length ≤ 20000000 by omega)
          have hz1 : ¬ 9223372036854775807 < (ba ST).size + (tyN fb fs8).size := by omega
          have hz2 : ¬ 9223372036854775807 < (ba ST).size + (tyN fb fs8).size + 1 := by omega
          have hz3 : ¬ 9223372036854775807 < (ba ST).size + (tyN fb fs8).size + 1 + fn.size := by omega
          have hz4 : ¬ 9223372036854775807 < (ba ST).size + (tyN fb fs8).size + 1 + fn.size + 1 := by omega
          have hz5 : ¬ 9223372036854775807 < (ba ST).size + (tyN fb fs8).size + 1 + fn.size + 1 + (ba (psT ps)).size := by omega
          have hz6 : ¬ 9223372036854775807 < (ba ST).size + (tyN fb fs8).size + 1 + fn.size + 1 + (ba (psT ps)).size + 2 := by omega
          have hz7 : ¬ 9223372036854775807 < (ba ST).size + (tyN fb fs8).size + 1 + fn.size + 1 + (ba (psT ps)).size + 2 + (ba (blT bd 0)).size := by omega
          have hz8 : ¬ 9223372036854775807 < (ba ST).size + (tyN fb fs8).size + 1 + fn.size + 1 + (ba (psT ps)).size + 2 + (ba (blT bd 0)).size + 1 := by omega
          obtain ⟨g0, g1, g2, g3, g4⟩ := five_at (unhideI HBF)
          have hsg : V0.heap.size < (V0.alloc (.cells #[.string fn, .int .i64 fb, .bool fs8, .slice pa ps.length pc, .slice sa bd.length sc] 48)).heap.size := (unhideI HBF).1
          clear hpm hsm hnm hOS hKS kb hty hSS hFN hfl hbl hpsz
          generalize ba (blT bd 0) = BT at *
          generalize ba ST = SA at *
          generalize tyN fb fs8 = ty at *
          go_wp2_with fail
          generalize V0.alloc (.cells #[.string fn, .int .i64 fb, .bool fs8, .slice pa ps.length pc, .slice sa bd.length sc] 48) = V1 at *
          generalize hbfE : V0.heap.size = bf at *
          go_loopg [13, 97] ps.length (fun g t y wr => ∃ (j : Nat), j ≤ ps.length ∧ g = ps.length - j ∧ y = .int .i64 (j : Int) ∧ t = .string (ba (psT (ps.take j))) ∧ Hid (Dp w wr ⟨gs, fs⟩ (.slice ga gs.length gc) (.slice (some ⟨b1, o1, none⟩) fs.length fc)) ∧ Hid (Box wr bf [.string fn, .int .i64 fb, .bool fs8, .slice pa ps.length pc, .slice sa bd.length sc]) ∧ Hid (PmL w.heap.size wr (.slice pa ps.length pc) ps) ∧ Hid (SmL w.heap.size wr (.slice sa bd.length sc) bd))
          case atStart => exact ⟨0, Nat.zero_le _, rfl, rfl, rfl, S2, HBF, HPM, HSM⟩
          case round =>
            obtain ⟨j, hj, hgj, rfl, rfl, HS, HB5, HP5, HM5⟩ := hrel
            generalize wr = U0 at *
            clear S2 HBF HPM HSM g0 g1 g2 g3 g4 x0 x1 x2 x3 x4 hsg HD
            by_cases hjt : j < ps.length
            · obtain ⟨b2, o2, e2, hb2, hpn, y0, y1, y2⟩ := (unhideI HP5).read j hjt
              subst e2
              have hjI : (j : Int) < (ps.length : Int) := by omega
              have hj0 : (0 : Int) ≤ (j : Int) := by omega
              have hsl := psT_le ps (j + 1)
              have ET := hideI (psT_take ps j hjt)
              rw [unhideI ET] at hsl
              have hpt : pmT ps[j] = (tyN ps[j].b ps[j].s).data.toList ++ [32] ++ ps[j].nm.data.toList := rfl
              have hn1 : ps[j].nm.data.toList.length = ps[j].nm.size := by simp
              have hn2 : (tyN ps[j].b ps[j].s).data.toList.length = (tyN ps[j].b ps[j].s).size := by simp
              rw [hpt] at hsl
              simp only [List.length_append, hn1, hn2, List.length_cons, List.length_nil] at hsl
              have hLS := unhideI HPL
              have ka1 := below_a U0 (.cells #[.int .i64 ps[j].b, .bool ps[j].s, .string ps[j].nm] 59)
              have S6 := hideI ((unhideI HS).next ka1)
              have HB6 := hideI ((unhideI HB5).step ka1)
              have HP6 := hideI ((unhideI HP5).step (ka1.mono (unhideI HS).d.size))
              have HM6 := hideI ((unhideI HM5).step (ka1.mono (unhideI HS).d.size))
              have HQ := hideI (Box.new U0 #[.int .i64 ps[j].b, .bool ps[j].s, .string ps[j].nm] 59)
              have NB := hideI (fun (V : World) => rtname_any ps[j].b ps[j].s V)
              have hlA : (ba (psT (ps.take j))).size + (if j = 0 then [] else [44, 32] : List UInt8).length + (tyN ps[j].b ps[j].s).size + 1 + ps[j].nm.size ≤ 1000000000 := by rw [ba_size]; omega
              have EC := hideI (show ba (psT (ps.take j)) ++ ba (if j = 0 then [] else [44, 32]) ++ tyN ps[j].b ps[j].s ++ ⟨#[32]⟩ ++ ps[j].nm = ba (psT (ps.take (j + 1))) by
                rw [unhideI ET, hpt]; apply b_eq; simp [ba])
              clear hsl ka1 hpt hn1 hn2 hLS hpn
              generalize ba (psT (ps.take j)) = SL at *
              generalize tyN ps[j].b ps[j].s = tj at *
              generalize ps[j] = x8 at *
              have d0 := (unhideI HQ).2.1 0 _ rfl
              have d1 := (unhideI HQ).2.1 1 _ rfl
              have d2 := (unhideI HQ).2.1 2 _ rfl
              have hsq : U0.heap.size < (U0.alloc (.cells #[.int .i64 x8.b, .bool x8.s, .string x8.nm] 59)).heap.size := (unhideI HQ).1
              by_cases hz : j = 0
              · rw [if_pos hz] at EC hlA
                have hzI : ¬ (0 : Int) < (j : Int) := by omega
                have hy1 : ¬ 9223372036854775807 < SL.size + tj.size := by simp only [List.length_nil] at hlA; omega
                have hy2 : ¬ 9223372036854775807 < SL.size + tj.size + 1 := by simp only [List.length_nil] at hlA; omega
                have hy3 : ¬ 9223372036854775807 < SL.size + tj.size + 1 + x8.nm.size := by simp only [List.length_nil] at hlA; omega
                have HZ := hideI hz
                rw [bnil] at EC
                clear hz hlA
                go_wp2_with fail
                refine wp_region_later (by kernel_rfl) (by kernel_rfl) ?_
                intro L hne lt hlc hlf hlm
                repeat (go_big_quiet_step ((go_at_call 13; exact later_call hlm (unhideI NB _))))
                refine wpQuiet_nil ?_
                intro wq kq
                clear hlm hlf hlc lt hne L
                obtain ⟨hqc, hqf⟩ := below_cells kq
                have S7 := hideI ((unhideI S6).next kq)
                have HB7 := hideI ((unhideI HB6).step kq)
                have HP7 := hideI ((unhideI HP6).step (kq.mono (unhideI S6).d.size))
                have HM7 := hideI ((unhideI HM6).step (kq.mono (unhideI S6).d.size))
                clear hqc hqf S6 HB6 HP6 HM6 y0 y1 y2 d0 d1 d2
                go_wp2_with fail
                go_roundg (ps.length - (j + 1))
                case measure => omega
                case rel => exact ⟨j + 1, by omega, rfl, by go_num, by rw [← unhideI EC], S7, HB7, HP7, HM7⟩
              · rw [if_neg hz] at EC hlA
                have hzI : (0 : Int) < (j : Int) := by omega
                have hzN : 0 < j := by omega
                have hy0 : ¬ 9223372036854775807 < SL.size + 2 := by simp only [List.length_cons, List.length_nil] at hlA; omega
                have hy1 : ¬ 9223372036854775807 < SL.size + 2 + tj.size := by simp only [List.length_cons, List.length_nil] at hlA; omega
                have hy2 : ¬ 9223372036854775807 < SL.size + 2 + tj.size + 1 := by simp only [List.length_cons, List.length_nil] at hlA; omega
                have hy3 : ¬ 9223372036854775807 < SL.size + 2 + tj.size + 1 + x8.nm.size := by simp only [List.length_cons, List.length_nil] at hlA; omega
                have HZ := hideI hz
                clear hz hlA
                go_wp2_with fail
                refine wp_region_later (by kernel_rfl) (by kernel_rfl) ?_
                intro L hne lt hlc hlf hlm
                repeat (go_big_quiet_step ((go_at_call 13; exact later_call hlm (unhideI NB _))))
                refine wpQuiet_nil ?_
                intro wq kq
                clear hlm hlf hlc lt hne L
                obtain ⟨hqc, hqf⟩ := below_cells kq
                have S7 := hideI ((unhideI S6).next kq)
                have HB7 := hideI ((unhideI HB6).step kq)
                have HP7 := hideI ((unhideI HP6).step (kq.mono (unhideI S6).d.size))
                have HM7 := hideI ((unhideI HM6).step (kq.mono (unhideI S6).d.size))
                clear hqc hqf S6 HB6 HP6 HM6 y0 y1 y2 d0 d1 d2
                go_wp2_with fail
                go_roundg (ps.length - (j + 1))
                case measure => omega
                case rel => exact ⟨j + 1, by omega, rfl, by go_num, by rw [← unhideI EC]; rfl, S7, HB7, HP7, HM7⟩
            · have hjI : ¬ (j : Int) < (ps.length : Int) := by omega
              rw [List.take_of_length_le (show ps.length ≤ j by omega)]
              obtain ⟨q0, q1, q2, q3, q4⟩ := five_at (unhideI HB5)
              have hbf : bf < U0.heap.size := (unhideI HB5).1
              generalize ba (psT ps) = PT at *
              have IB := hideI (fun (V : World) (q : Below U0.heap.size U0 V) => unhideI IA V ((unhideI HM5).step (q.mono (unhideI HS).d.size)) (Nat.le_trans (unhideI HS).d.size q.size))
              go_wp2_with fail
              refine wp_region_later (by kernel_rfl) (by kernel_rfl) ?_
              intro L hne lt hlc hlf hlm
              repeat (go_big_quiet_step (fail))
              go_big_quiet_want
              go_big_quiet_op
              go_big_quiet_call (exact later_call hlm (unhideI NA _))
              repeat (go_big_quiet_step (fail))
              go_big_quiet_want
              go_big_quiet_op
              go_big_quiet_call (exact later_call hlm (unhideI IB _ (hlm.1 _)))
              repeat (go_big_quiet_step (fail))
              refine wpQuiet_nil ?_
              intro wq kq
              clear hlm hlf hlc lt hne L
              obtain ⟨hqc, hqf⟩ := below_cells kq
              have S7 := hideI ((unhideI HS).next kq)
              clear hqc hqf q0 q1 q2 q3 q4
              go_wp2_with fail
              go_roundg (fs.length - (k + 1))
              case measure => omega
              case rel => exact ⟨k + 1, by omega, rfl, by go_num, by rw [unhideI HT2, ← unhideI FC], S7⟩
        · have hkI : ¬ (k : Int) < (fs.length : Int) := by omega
          have hkl : fs.take k = fs := List.take_of_length_le (by omega)
          rw [hkl]
          rw [← unhideI ESP] at HL ⊢
          have hSP : (ba SP).size = SP.length := ba_size SP
          by_cases hbig : 65536 < SP.length
          · have hbI : (65536 : Int) < ((ba SP).size : Int) := by omega
            have E3 := unhideI E2
            rw [if_pos hbig] at E3
            subst E3
            clear E2 hSP hkl
            go_wp2_with fail
            exact bodyPost_ret (v := .tuple #[.string ⟨#[]⟩, .int .i64 4]) (by simp [results, Tryz.results5, go_sem]) rfl ⟨rfl, (unhideI HD).d⟩
          · have hbI : ¬ (65536 : Int) < ((ba SP).size : Int) := by omega
            have E3 := unhideI E2
            rw [if_neg hbig] at E3
            subst E3
            clear E2 hSP hkl
            go_wp2_with fail
            exact bodyPost_ret (v := .tuple #[.string (ba SP), .int .i64 0]) (by simp [results, Tryz.results5, go_sem]) rfl ⟨rfl, (unhideI HD).d⟩
end Go.Proofs.YtbakhengcgclmaaGreatDoor
