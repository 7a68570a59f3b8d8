/-
  What is wrong with a program: the program's own looker: functions, the whole.
-/
import Derived.Test.YtaidefdbjcgcbaaGreatTrPz
namespace Go.Proofs.YtaidefdbjcgcbaaGreat
open Go.RowKit Go.Great
set_option linter.unusedSimpArgs false
set_option linter.unusedVariables false

theorem lkPs_cons (p : Pm) (ps : List Pm) : lkPs (p :: ps) = if wTyped p.b p.nm ≠ 0 then wTyped p.b p.nm else lkPs ps := by rw [lkPs]
set_option maxHeartbeats 2000000 in
theorem lfunc_any (f : Fn8) (B lb c : Nat) (pa sa : Option Addr) (pc sc : Nat) (w : World) (hb : Box w lb [.int .i64 (c : Int)]) (hB : B ≤ lb) (hc : c ≤ 20000) (hp : PmL B w (.slice pa f.params.length pc) f.params) (hs : SmL B w (.slice sa f.body.length sc) f.body) :
    Calls Tryz.prog 48 #[.pointer (some ⟨lb, 0, none⟩), .agg #[.string f.nm, .int .i64 f.b, .bool f.s, .slice pa f.params.length pc, .slice sa f.body.length sc]] w fun e w' => e = .returned (.int .i64 (lkF f c).1) ∧ Ctd w w' lb (lkF f c).2 := by
  have kal := below_a w (.cells #[.string f.nm, .int .i64 f.b, .bool f.s, .slice pa f.params.length pc, .slice sa f.body.length sc] 41)
  have BX := Box.new w #[.string f.nm, .int .i64 f.b, .bool f.s, .slice pa f.params.length pc, .slice sa f.body.length sc] 41
  have hlb := hb.1
  have hlb1 := (hb.step kal).1
  have NA := hideI (snamed_any f.nm (w.alloc (.cells #[.string f.nm, .int .i64 f.b, .bool f.s, .slice pa f.params.length pc, .slice sa f.body.length sc] 41)))
  have VA := hideI (fun W => svalid_any f.b f.s W)
  have HP := hideI (hp.step (kal.mono (by omega)))
  have HS := hideI (hs.step (kal.mono (by omega)))
  have HBX := hideI BX
  have C0 := hideI (Ctd.of hb kal)
  obtain ⟨-, -, -, hpm⟩ := hp.slice
  obtain ⟨-, -, -, hsm, -⟩ := hs.at
  unfold maxLen at hpm hsm
  have EQ : Hid (lkF f c = if namN f.nm = false then (7, c) else if isWB f.b = false ∧ ¬ (f.b = 0 ∧ f.s = false) then (9, c) else if 8 < f.params.length then (5, c) else if lkPs f.params ≠ 0 then (lkPs f.params, c) else if nodeW 1 c ≠ 0 then (nodeW 1 c, c + 1) else lkSs f.body 2 (c + 1)) := rfl
  have SX := hideI (fun W c' hb' hc' hx' => lstats_any f.body (fun y _ => lkS_le y) (fun y _ => lstat_any y) B lb c' 2 (.slice sa f.body.length sc) W hb' hB hc' (by omega) hx')
  have ND := hideI (fun W hb' => lnode_any lb c 1 W hb' hc (by omega))
  have HN := hideI (fun h => nodeW_ok (d := 1) (c := c) h)
  clear hb kal BX hp hs
  generalize lkF f c = R at *
  generalize namN f.nm = nn at *
  generalize hisW : isWB f.b = vv at *
  generalize nodeW 1 c = nw at *
  generalize hRE : lkSs f.body 2 (c + 1) = RE at EQ
  have HRE := hideI hRE
  generalize hRP : lkPs f.params = RP at EQ
  have HRP := hideI hRP
  clear hRE hRP
  obtain ⟨nm, b, s, ps, l⟩ := f
  dsimp only at *
  go_enter Tryz.func48, Tryz.ntmps48
  go_wp2_with fail
  refine (unhideI NA).mono ?_
  rintro e w1 ⟨rfl, k1⟩
  have C1 := hideI ((unhideI C0).trans (Ctd.of (unhideI C0).box k1))
  have BX1 := (unhideI HBX).step k1
  obtain ⟨q0, q1, q2, q3, q4⟩ := five_at BX1
  have hw1 : w.heap.size < w1.heap.size := BX1.1
  have HP1 := hideI ((unhideI HP).step (k1.mono (by omega)))
  have HS1 := hideI ((unhideI HS).step (k1.mono (by omega)))
  have HBX1 := hideI BX1
  clear NA k1 HBX HP HS C0 BX1
  cases nn
  · have E1 := unhideI EQ
    rw [if_pos rfl] at E1
    subst E1
    go_wp2_with fail
    go_ret
    exact ⟨rfl, unhideI C1⟩
  · have E1 := unhideI EQ
    rw [if_neg (by simp)] at E1
    have E2 := hideI E1
    clear E1 EQ
    go_wp2_with fail
    refine (unhideI VA _).mono ?_
    rintro e w2 ⟨rfl, k2⟩
    have C2 := hideI ((unhideI C1).trans (Ctd.of (unhideI C1).box k2))
    have BX2 := (unhideI HBX1).step k2
    obtain ⟨r0, r1, r2, r3, r4⟩ := five_at BX2
    have hw2 : w.heap.size < w2.heap.size := BX2.1
    have HP2 := hideI ((unhideI HP1).step (k2.mono (by omega)))
    have HS2 := hideI ((unhideI HS1).step (k2.mono (by omega)))
    have HBX2 := hideI BX2
    clear VA k2 HBX1 HP1 HS1 C1 BX2 q0 q1 q2 q3 q4
    have hcs : (vv = true) ∨ (vv = false ∧ b = 0 ∧ s = false) ∨ (vv = false ∧ ¬ (b = 0 ∧ s = false)) := by
      cases vv
      · by_cases h : b = 0 ∧ s = false
        · exact .inr (.inl ⟨rfl, h.1, h.2⟩)
        · exact .inr (.inr ⟨rfl, h⟩)
      · exact .inl rfl
    rcases hcs with rfl | ⟨rfl, rfl, rfl⟩ | ⟨rfl, hbs⟩
    rotate_left 2
    · have E3 := unhideI E2
      rw [if_pos ⟨rfl, hbs⟩] at E3
      subst E3
      by_cases hb0 : b = 0
      · have hs1 : s = true := by cases s; exact absurd ⟨hb0, rfl⟩ hbs; rfl
        subst hb0 hs1
        go_wp2_with fail
        go_ret
        exact ⟨rfl, unhideI C2⟩
      · have eb : (b == 0) = false := beq_eq_false_iff_ne.2 hb0
        go_wp2_with fail
        go_ret
        exact ⟨rfl, unhideI C2⟩
    all_goals
      have E3 := unhideI E2
      rw [if_neg (by simp)] at E3
      by_cases h8 : 8 < ps.length
      · have h8I : (8 : Int) < (ps.length : Int) := by omega
        rw [if_pos h8] at E3
        subst E3
        go_wp2_with fail
        go_ret
        exact ⟨rfl, unhideI C2⟩
      · have h8I : ¬ (8 : Int) < (ps.length : Int) := by omega
        rw [if_neg h8] at E3
        have E4 := hideI E3
        clear E3 E2
        go_wp2_with fail
        go_loopg [33] ps.length (fun g t wr => ∃ (i : Nat), i ≤ ps.length ∧ g = ps.length - i ∧ t = .int .i64 (i : Int) ∧ Hid (Below w2.heap.size w2 wr) ∧ Hid (lkPs (ps.drop i) = RP))
        case atStart => exact ⟨0, Nat.zero_le _, rfl, rfl, Below.refl _ _, HRP⟩
        case round =>
          obtain ⟨i, hi, hg, rfl, HK, HE⟩ := hrel
          generalize wr = W0 at *
          have hsz := (unhideI HK).size
          by_cases hlt : i < ps.length
          · obtain ⟨b1, o1, rfl, hb1, hnm, x0, x1, x2⟩ := ((unhideI HP2).step ((unhideI HK).mono (by omega))).read i hlt
            have hiI : (i : Int) < (ps.length : Int) := by omega
            have hi0 : (0 : Int) ≤ (i : Int) := by omega
            have HD := hideI (show ps.drop i = ps[i] :: ps.drop (i + 1) from List.drop_eq_getElem_cons hlt)
            rw [unhideI HD, lkPs_cons] at HE
            clear HD
            have ka := below_a W0 (.cells #[.int .i64 ps[i].b, .bool ps[i].s, .string ps[i].nm] 74)
            have NB := hideI (swnamed_any ps[i].b ps[i].s ps[i].nm (W0.alloc (.cells #[.int .i64 ps[i].b, .bool ps[i].s, .string ps[i].nm] 74)))
            have KA := hideI (bT (unhideI HK) ka)
            clear ka hnm
            generalize ps[i] = y at *
            obtain ⟨yb, ys, yn⟩ := y
            dsimp only at *
            generalize wTyped yb yn = wt at *
            go_wp2_with fail
            refine (unhideI NB).mono ?_
            rintro e w3 ⟨rfl, k3⟩
            have K3 := hideI (bT (unhideI KA) k3)
            clear NB k3 KA HK
            by_cases h5 : wt = 0
            · subst h5
              go_wp2_with fail
              go_roundg (ps.length - (i + 1))
              case measure => omega
              case rel =>
                have h2 := unhideI HE
                rw [if_neg (by simp)] at h2
                exact ⟨i + 1, by omega, rfl, by go_num, K3, h2⟩
            · have e5 : (wt == 0) = false := beq_eq_false_iff_ne.2 h5
              have h2 := unhideI HE
              rw [if_pos h5] at h2
              subst h2
              have E5 := unhideI E4
              rw [if_pos h5] at E5
              subst E5
              go_wp2_with fail
              go_ret
              exact ⟨rfl, (unhideI C2).trans (Ctd.of (unhideI C2).box (unhideI K3))⟩
          · have hiI : ¬ (i : Int) < (ps.length : Int) := by omega
            have h2 := unhideI HE
            rw [List.drop_eq_nil_of_le (by omega), lkPs] at h2
            subst h2
            have E5 := unhideI E4
            rw [if_neg (by simp)] at E5
            have E6 := hideI E5
            clear E5 E4 HE
            have C3 := hideI ((unhideI C2).trans (Ctd.of (unhideI C2).box (unhideI HK)))
            have HBX3 := hideI ((unhideI HBX2).step (unhideI HK))
            have HS3 := hideI ((unhideI HS2).step ((unhideI HK).mono (by omega)))
            clear C2 HBX2 HS2 HP2 HK
            go_wp2_with fail
            refine (unhideI ND _ (unhideI C3).box).mono ?_
            rintro e w4 ⟨rfl, k4⟩
            have C4 := hideI ((unhideI C3).trans k4)
            have BX4 := (unhideI HBX3).kb k4.kb (by omega)
            obtain ⟨s0, s1, s2, s3, s4⟩ := five_at BX4
            have hw4 : w.heap.size < w4.heap.size := BX4.1
            have HS4 := hideI ((unhideI HS3).step (k4.kb.below (by omega) hB))
            clear ND k4 HBX3 HS3 C3 BX4
            by_cases h5 : nw = 0
            · subst h5
              obtain ⟨hc1, -⟩ := unhideI HN rfl
              have E7 := unhideI E6
              rw [if_neg (by simp)] at E7
              clear E6
              have CA := hideI (unhideI SX _ (c + 1) (unhideI C4).box hc1 (unhideI HS4))
              rw [unhideI HRE, ← E7] at CA
              clear E7
              go_wp2_with fail
              refine (unhideI CA).mono ?_
              rintro e w5 ⟨rfl, k5⟩
              go_wp2_with fail
              go_ret
              exact ⟨rfl, (unhideI C4).trans k5⟩
            · have e5 : (nw == 0) = false := beq_eq_false_iff_ne.2 h5
              have E7 := unhideI E6
              rw [if_pos h5] at E7
              subst E7
              go_wp2_with fail
              go_ret
              exact ⟨rfl, unhideI C4⟩
end Go.Proofs.YtaidefdbjcgcbaaGreat

/-
  What is wrong with a program: the program's own looker: the whole.
-/
namespace Go.Proofs.YtaidefdbjcgcbaaGreat
open Go.RowKit Go.Great
set_option linter.unusedSimpArgs false
set_option linter.unusedVariables false

theorem lkGs_cons (g : Gb) (gs : List Gb) (c : Nat) : lkGs (g :: gs) c = thn (lkG g c) (lkGs gs) := by rw [lkGs]
theorem lkFs_cons (f : Fn8) (fs : List Fn8) (c : Nat) : lkFs (f :: fs) c = thn (lkF f c) (lkFs fs) := by rw [lkFs]
/-- A program in memory. -/
structure PgL (B : Nat) (w : World) (v1 v2 : Value) (p : Pg) : Prop where
  g : GbL B w v1 p.globals
  f : FnL B w v2 p.funcs
theorem PgL.step {B : Nat} {w w' : World} {v1 v2 : Value} {p : Pg} (h : PgL B w v1 v2 p) (k : Below B w w') : PgL B w' v1 v2 p := ⟨h.g.step k, h.f.step k⟩
set_option maxHeartbeats 2000000 in
theorem lprog_any (p : Pg) (B lb : Nat) (v1 v2 : Value) (w : World) (hb : Box w lb [.int .i64 0]) (hB : B ≤ lb) (hp : PgL B w v1 v2 p) :
    Calls Tryz.prog 24 #[.pointer (some ⟨lb, 0, none⟩), .agg #[v1, v2]] w fun e w' => e = .returned (.int .i64 (lkP p).1) ∧ Ctd w w' lb (lkP p).2 := by
  obtain ⟨ga, gc, rfl, hgm⟩ := hp.g.slice
  obtain ⟨fa, fc, rfl, hfm⟩ := hp.f.slice
  unfold maxLen at hgm hfm
  have kal := below_a w (.cells #[.slice ga p.globals.length gc, .slice fa p.funcs.length fc] 25)
  have HBX := hideI (Box.new w #[.slice ga p.globals.length gc, .slice fa p.funcs.length fc] 25)
  have hlb := hb.1
  have HP := hideI (hp.step (kal.mono (by omega)))
  have C0 := hideI (show Ctd w (w.alloc (.cells #[.slice ga p.globals.length gc, .slice fa p.funcs.length fc] 25)) lb 0 from Ctd.of hb kal)
  have EQ : Hid (lkP p = if 100 < p.funcs.length then (5, 0) else thn (lkGs p.globals 0) (lkFs p.funcs)) := rfl
  clear hb kal hp
  generalize lkP p = R at *
  obtain ⟨gs, fs⟩ := p
  dsimp only at *
  by_cases h1 : 100 < fs.length
  · have h1I : (100 : Int) < (fs.length : Int) := by omega
    have E1 := unhideI EQ
    rw [if_pos h1] at E1
    subst E1
    go_enter Tryz.func24, Tryz.ntmps24
    go_wp2_with fail
    go_ret
    exact ⟨rfl, unhideI C0⟩
  · have h1I : ¬ (100 : Int) < (fs.length : Int) := by omega
    have E1 := unhideI EQ
    rw [if_neg h1] at E1
    have E2 := hideI E1.symm
    clear E1 EQ
    go_enter Tryz.func24, Tryz.ntmps24
    go_wp2_with fail
    generalize hW : w.alloc (.cells #[.slice ga gs.length gc, .slice fa fs.length fc] 25) = w1 at *
    have hw1 : w.heap.size < w1.heap.size := (unhideI HBX).1
    go_loopg [18] gs.length (fun g t wr => ∃ (i ci : Nat), i ≤ gs.length ∧ g = gs.length - i ∧ t = .int .i64 (i : Int) ∧ ci ≤ 20000 ∧ Hid (Ctd w1 wr lb ci) ∧ Hid (thn (lkGs (gs.drop i) ci) (lkFs fs) = R))
    case atStart => exact ⟨0, 0, Nat.zero_le _, rfl, rfl, by omega, ⟨(unhideI C0).box, Kb.refl _ _⟩, E2⟩
    case round =>
      obtain ⟨i, ci, hi, hg, rfl, hci, HC, HE⟩ := hrel
      generalize wr = W0 at *
      have hsz := (unhideI HC).kb.size
      have hP0 := (unhideI HP).step ((unhideI HC).kb.below (by omega) hB)
      by_cases hlt : i < gs.length
      · obtain ⟨b1, o1, ka, kc, rfl, hb1, hnm, hx, x0, x1, x2, x3, x4⟩ := hP0.g.read i hlt
        have hiI : (i : Int) < (gs.length : Int) := by omega
        have hi0 : (0 : Int) ≤ (i : Int) := by omega
        have HD := hideI (show gs.drop i = gs[i] :: gs.drop (i + 1) from List.drop_eq_getElem_cons hlt)
        rw [unhideI HD, lkGs_cons] at HE
        have kb := below_a W0 (.cells #[.int .i64 gs[i].b, .bool gs[i].s, .string gs[i].nm, .int .i64 gs[i].size, .slice ka gs[i].init.length kc] 37)
        have CA := hideI (lglob_any gs[i] B lb ci ka kc _ ((unhideI HC).box.step kb) hB hci (hx.step (kb.mono (by omega))))
        have KA := hideI (Kb.of (b := lb) kb)
        have LE := hideI (lkG_le gs[i] ci hci)
        clear HD kb hx hnm hP0
        generalize gs[i] = y at *
        generalize lkG y ci = ry at *
        obtain ⟨er, cn⟩ := ry
        dsimp only at CA LE HE
        go_wp2_with fail
        refine (unhideI CA).mono ?_
        rintro e w2 ⟨rfl, k2⟩
        have K2 := hideI (show Ctd w1 w2 lb cn from ⟨k2.box, ((unhideI HC).kb.trans (unhideI KA)).trans k2.kb⟩)
        clear CA k2 KA HC
        by_cases he : er = 0
        · subst he
          rw [thn_ok] at HE
          go_wp2_with fail
          go_roundg (gs.length - (i + 1))
          case measure => omega
          case rel => exact ⟨i + 1, cn, by omega, rfl, by go_num, unhideI LE (by simp), K2, HE⟩
        · have ee : (er == 0) = false := beq_eq_false_iff_ne.2 he
          have h2 := unhideI HE
          rw [thn_no he, thn_no he] at h2
          subst h2
          go_wp2_with fail
          go_ret
          exact ⟨rfl, (unhideI C0).trans (unhideI K2)⟩
      · have hiI : ¬ (i : Int) < (gs.length : Int) := by omega
        rw [List.drop_eq_nil_of_le (by omega), lkGs, thn_ok] at HE
        have HP1 := hideI hP0
        have HBX1 := (unhideI HBX).kb (unhideI HC).kb (by omega)
        obtain ⟨q0, q1⟩ := HBX1.at2
        have C1 := hideI ((unhideI C0).trans (unhideI HC))
        have hw0 : w.heap.size < W0.heap.size := HBX1.1
        clear hP0 HP HBX HBX1 C0
        go_wp2_with fail
        go_loopg [32] fs.length (fun g t wr => ∃ (j cj : Nat), j ≤ fs.length ∧ g = fs.length - j ∧ t = .int .i64 (j : Int) ∧ cj ≤ 20000 ∧ Hid (Ctd W0 wr lb cj) ∧ Hid (lkFs (fs.drop j) cj = R))
        case atStart => exact ⟨0, ci, Nat.zero_le _, rfl, rfl, hci, ⟨(unhideI C1).box, Kb.refl _ _⟩, HE⟩
        case round =>
          obtain ⟨j, cj, hj, hgj, rfl, hcj, HCj, HEj⟩ := hrel
          generalize wr = V0 at *
          have hsv := (unhideI HCj).kb.size
          have hP0 := (unhideI HP1).step ((unhideI HCj).kb.below (by omega) hB)
          by_cases hlt : j < fs.length
          · obtain ⟨b1, o1, pa, pc, sa, sc, rfl, hb1, hnm, hx, hy, x0, x1, x2, x3, x4⟩ := hP0.f.read j hlt
            have hjI : (j : Int) < (fs.length : Int) := by omega
            have hj0 : (0 : Int) ≤ (j : Int) := by omega
            have HD := hideI (show fs.drop j = fs[j] :: fs.drop (j + 1) from List.drop_eq_getElem_cons hlt)
            rw [unhideI HD, lkFs_cons] at HEj
            have kb := below_a V0 (.cells #[.string fs[j].nm, .int .i64 fs[j].b, .bool fs[j].s, .slice pa fs[j].params.length pc, .slice sa fs[j].body.length sc] 41)
            have CA := hideI (lfunc_any fs[j] B lb cj pa sa pc sc _ ((unhideI HCj).box.step kb) hB hcj (hx.step (kb.mono (by omega))) (hy.step (kb.mono (by omega))))
            have KA := hideI (Kb.of (b := lb) kb)
            have LE := hideI (lkF_le fs[j] cj hcj)
            clear HD kb hx hy hnm hP0
            generalize fs[j] = y at *
            generalize lkF y cj = ry at *
            obtain ⟨er, cn⟩ := ry
            dsimp only at CA LE HEj
            go_wp2_with fail
            refine (unhideI CA).mono ?_
            rintro e w2 ⟨rfl, k2⟩
            have K2 := hideI (show Ctd W0 w2 lb cn from ⟨k2.box, ((unhideI HCj).kb.trans (unhideI KA)).trans k2.kb⟩)
            clear CA k2 KA HCj
            by_cases he : er = 0
            · subst he
              rw [thn_ok] at HEj
              go_wp2_with fail
              go_roundg (fs.length - (j + 1))
              case measure => omega
              case rel => exact ⟨j + 1, cn, by omega, rfl, by go_num, unhideI LE (by simp), K2, HEj⟩
            · have ee : (er == 0) = false := beq_eq_false_iff_ne.2 he
              have h2 := unhideI HEj
              rw [thn_no he] at h2
              subst h2
              go_wp2_with fail
              go_ret
              exact ⟨rfl, (unhideI C1).trans (unhideI K2)⟩
          · have hjI : ¬ (j : Int) < (fs.length : Int) := by omega
            have h2 := unhideI HEj
            rw [List.drop_eq_nil_of_le (by omega), lkFs] at h2
            subst h2
            go_wp2_with fail
            go_ret
            exact ⟨rfl, (unhideI C1).trans (unhideI HCj)⟩
/-- source.Wrong tells what is wrong with a program. -/
theorem swrong_any (p : Pg) (v1 v2 : Value) (w : World) (hp : PgL w.heap.size w v1 v2 p) : Calls Tryz.prog 9 #[.agg #[v1, v2]] w fun e w' => e = .returned (.int .i64 (lkP p).1) ∧ Below w.heap.size w w' := by
  obtain ⟨ga, gc, rfl, -⟩ := hp.g.slice
  obtain ⟨fa, fc, rfl, -⟩ := hp.f.slice
  have k1 := below_a w (.cells #[.slice ga p.globals.length gc, .slice fa p.funcs.length fc] 25)
  have k2 := bT k1 (below_a _ (.cells #[.int .i64 0] 71))
  have LP := hideI (lprog_any p w.heap.size (w.heap.size + 1) _ _ _ (Box.new (w.alloc (.cells #[.slice ga p.globals.length gc, .slice fa p.funcs.length fc] 25)) #[.int .i64 0] 71 |> fun h => by simpa using h) (by omega) (hp.step k2))
  have hs2 : ((w.alloc (.cells #[.slice ga p.globals.length gc, .slice fa p.funcs.length fc] 25)).alloc (.cells #[.int .i64 0] 71)).heap.size = w.heap.size + 2 := by simp
  have S2 := hideI hs2
  have K2 := hideI k2
  clear k1 k2 hp hs2
  generalize lkP p = R at *
  go_enter Tryz.func9, Tryz.ntmps9
  go_wp2_with fail
  refine (unhideI LP).mono ?_
  rintro e w3 ⟨rfl, k3⟩
  have hs3 := unhideI S2
  have K3 := hideI ((unhideI K2).trans (k3.kb.below (by omega) (by omega)))
  clear LP k3 K2
  go_wp2_with fail
  go_ret
  exact ⟨rfl, unhideI K3⟩
end Go.Proofs.YtaidefdbjcgcbaaGreat
