/-
  Programs as a whole: for loops.
-/
import Derived.Test.YtaidefdbjcgcbaaGreatCkPz
import Derived.Test.YtaidefdbjcgcbaaGreatCkGz
import Derived.Test.YtaidefdbjcgcbaaGreatCkLz
namespace Go.Proofs.YtaidefdbjcgcbaaGreat
open Go.RowKit Go.Maps Go.Great
set_option linter.unusedSimpArgs false
set_option linter.unusedVariables false

set_option maxRecDepth 100000 in
set_option maxHeartbeats 2000000 in
theorem cfor_any (E : Nev) (res : Int × Bool) (x : Sm) (v : Sv) (I1 : ∀ y ∈ x.init, CkSm E res y) (I2 : ∀ y ∈ x.step, CkSm E res y) (I3 : ∀ y ∈ x.body, CkSm E res y) (N1 : ∀ y ∈ x.init, NmS y) (N2 : ∀ y ∈ x.step, NmS y) (N3 : ∀ y ∈ x.body, NmS y) (B : Nat) (w : World) (sb vb fb lb : Nat) (wd : Int) (L : Loc) (lp : Nat) (h : Sc B w sb vb fb lb wd E L res lp) (hs : SvL B w x v) (hf : SmF x) (ho : x.has = true → TyC x.x) (ok : OpOk L) (hfr : L.fr + 4 * ((szL x.init + szL x.step + szL x.body : Nat) : Int) ≤ 1000000) (hlp : lp + 1 + (szL x.init + szL x.step + szL x.body) ≤ 1000000) :
    Calls Tryz.prog 97 #[.pointer (some ⟨sb, 0, none⟩), .agg (smA x v)] w fun e w' => ScR B w sb vb fb lb wd E res lp (thc (hid L (ckL E res x.init lp L)) fun L => thc (perC E L x.has x.x, L) fun L => thc (hid L (ckL E res x.step lp L)) fun L => hid L (ckL E res x.body (lp + 1) L)) e w' := by
  have S := hideI (Sk.begin h hs hf)
  have hAs := hideI (smA_size x v)
  have GD := hideI (gd_hid (ckL_gd E res x.init N1 lp L))
  have GE := hideI (fun M => gd_hid (ckL_gd E res x.step N2 lp M))
  have CI := hideI (fun (W : World) (s : Sk B w W sb vb fb lb wd E L res lp x v) => cblock_any E res x.init I1 N1 B W sb vb fb lb wd L lp v.init s.sc s.sv.h1 ok (by omega) (by omega))
  have CP := hideI (fun (W : World) (M : Loc) (s : Sk B w W sb vb fb lb wd E M res lp x v) => cperhaps_any x v B W sb vb fb lb wd E M res lp s.sc s.sv s.ok ho)
  have CS := hideI (fun (W : World) (M : Loc) (s : Sk B w W sb vb fb lb wd E M res lp x v) (g : Gd (szL x.init) L M) => cblock_any E res x.step I2 N2 B W sb vb fb lb wd M lp v.step s.sc s.sv.h2 (g.2.2.1 ok) (by have := g.2.1; omega) (by omega))
  have CB := hideI (fun (W : World) (M : Loc) (s : Sk B w W sb vb fb lb wd E M res lp x v) (g : Gd (szL x.init + szL x.step) L M) => cloop_any E res x.body I3 N3 B W sb vb fb lb wd M lp v.body s.sc s.sv.h3 (g.2.2.1 ok) (by have := g.2.1; omega) (by omega))
  clear h hs hf ho I1 I2 I3 N1 N2 N3 hfr hlp ok
  obtain ⟨R, hR⟩ : ∃ R, R = thc (hid L (ckL E res x.init lp L)) fun L => thc (perC E L x.has x.x, L) fun L => thc (hid L (ckL E res x.step lp L)) fun L => hid L (ckL E res x.body (lp + 1) L) := ⟨_, rfl⟩
  rw [← hR]
  obtain ⟨T, hT⟩ : ∃ T, T = hid L (ckL E res x.init lp L) := ⟨_, rfl⟩
  have g1 : Gd (szL x.init) L T.2 := by rw [hT]; exact unhideI GD
  rw [← hT] at hR CI
  have HR := hideI hR
  have G1 := hideI g1
  obtain ⟨er, N⟩ := T
  clear hR GD hT g1
  have HH := (unhideI S).bx.heap
  generalize hA : smA x v = A at *
  generalize hW : w.alloc (.cells A 103) = W0 at *
  have hs0 : w.heap.size < W0.heap.size := (unhideI S).bx.lt
  obtain ⟨c0, c1, c2, c3⟩ := (unhideI S).bx.lists
  have C0 := hideI (unhideI CI W0 (unhideI S))
  clear CI
  go_enter Tryz.func97, Tryz.ntmps97
  go_wp2_with (first | (refine wpList_boxTo rfl 103 (.tmp 1) rfl (some 3) rfl _ rfl A rfl ?_; rw [hW]))
  refine (unhideI C0).mono ?_
  rintro e W1 ⟨rfl, sc1, k1⟩
  have S1 := hideI (show Sk B w W1 sb vb fb lb wd E N res lp x v from (unhideI S).next k1 sc1)
  clear C0 S k1 sc1 HH hs0 c0 c1 c2 c3
  by_cases h1 : er = 0
  rotate_left
  · obtain rfl : R = (er, N) := by rw [unhideI HR]; exact if_pos h1
    have b1 : (er != 0) = true := bne_iff_ne.2 h1
    clear h1 HR CP CS CB
    go_wp2_with fail
    go_ret
    exact ⟨rfl, (unhideI S1).sc, (unhideI S1).wk⟩
  subst h1
  have hR2 : R = thc (perC E N x.has x.x, N) fun L => thc (hid L (ckL E res x.step lp L)) fun L => hid L (ckL E res x.body (lp + 1) L) := by rw [unhideI HR]; exact if_neg (show ¬ ((0 : Int) ≠ 0) by decide)
  have C0 := unhideI CP W1 N (unhideI S1)
  generalize perC E N x.has x.x = P at *
  have HR2 := hideI hR2
  have C1 := hideI C0
  clear C0
  have HH := (unhideI S1).bx.heap
  rw [hA] at HH
  have hs1 : w.heap.size < W1.heap.size := (unhideI S1).bx.lt
  clear HR hR2 CP
  go_wp2_with (refine wpList_load_row rfl 103 (.tmp 3) rfl w.heap.size rfl _ A _ _ HH Tryz.underlying103 rfl (by rw [unhideI hAs]; exact Tryz.sizeStat) ?_)
  refine (unhideI C1).mono ?_
  rintro e W2 ⟨rfl, k2⟩
  have S2 := hideI ((unhideI S1).step k2)
  clear C1 S1 k2 HH hs1
  by_cases h1 : P = 0
  rotate_left
  · obtain rfl : R = (P, N) := by rw [unhideI HR2]; exact if_pos h1
    have b1 : (P != 0) = true := bne_iff_ne.2 h1
    clear h1 HR2 CS CB
    go_wp2_with fail
    go_ret
    exact ⟨rfl, (unhideI S2).sc, (unhideI S2).wk⟩
  subst h1
  have hR3 : R = thc (hid N (ckL E res x.step lp N)) fun L => hid L (ckL E res x.body (lp + 1) L) := by rw [unhideI HR2]; exact if_neg (show ¬ ((0 : Int) ≠ 0) by decide)
  have C0 := unhideI CS W2 N (unhideI S2) (unhideI G1)
  have g2 : Gd (szL x.init + szL x.step) L (hid N (ckL E res x.step lp N)).2 := (unhideI G1).trans (unhideI GE N)
  generalize hid N (ckL E res x.step lp N) = T at *
  obtain ⟨er, O⟩ := T
  have C1 := hideI C0
  have HR3 := hideI hR3
  have G2 := hideI (show Gd (szL x.init + szL x.step) L O from g2)
  obtain ⟨c0, c1, c2, c3⟩ := (unhideI S2).bx.lists
  have hs1 : w.heap.size < W2.heap.size := (unhideI S2).bx.lt
  clear C0 hR3 HR2 CS GE G1 g2
  go_wp2_with fail
  refine (unhideI C1).mono ?_
  rintro e W3 ⟨rfl, sc3, k3⟩
  have S3 := hideI (show Sk B w W3 sb vb fb lb wd E O res lp x v from (unhideI S2).next k3 sc3)
  clear C1 S2 sc3 k3 c0 c1 c2 c3 hs1
  by_cases h1 : er = 0
  rotate_left
  · obtain rfl : R = (er, O) := by rw [unhideI HR3]; exact if_pos h1
    have b1 : (er != 0) = true := bne_iff_ne.2 h1
    clear h1 HR3 CB
    go_wp2_with fail
    go_ret
    exact ⟨rfl, (unhideI S3).sc, (unhideI S3).wk⟩
  subst h1
  have hR4 : R = hid O (ckL E res x.body (lp + 1) O) := by rw [unhideI HR3]; exact if_neg (show ¬ ((0 : Int) ≠ 0) by decide)
  have D0 := unhideI CB W3 O (unhideI S3) (unhideI G2)
  rw [← hR4] at D0
  have D1 := hideI D0
  obtain ⟨c0, c1, c2, c3⟩ := (unhideI S3).bx.lists
  have hs1 : w.heap.size < W3.heap.size := (unhideI S3).bx.lt
  clear hR4 D0 HR3 CB G2
  go_wp2_with fail
  refine (unhideI D1).mono ?_
  rintro e W4 ⟨rfl, sc4, k4⟩
  have Z := hideI (And.intro sc4 ((unhideI S3).wk.trans k4))
  clear D1 S3 sc4 k4 c0 c1 c2 c3 hs1
  go_wp2_with fail
  go_ret
  exact ⟨rfl, (unhideI Z).1, (unhideI Z).2⟩
end Go.Proofs.YtaidefdbjcgcbaaGreat

/-
  Programs as a whole: returns.
-/
namespace Go.Proofs.YtaidefdbjcgcbaaGreat
open Go.RowKit Go.Maps Go.Great
set_option linter.unusedSimpArgs false
set_option linter.unusedVariables false

set_option maxRecDepth 100000 in
set_option maxHeartbeats 2000000 in
theorem creturns_any (E : Nev) (res : Int × Bool) (x : Sm) (v : Sv) (B : Nat) (w : World) (sb vb fb lb : Nat) (wd : Int) (L : Loc) (lp : Nat) (h : Sc B w sb vb fb lb wd E L res lp) (hs : SvL B w x v) (hf : SmF x) (ho : x.has = true → TyC x.x) :
    Calls Tryz.prog 93 #[.pointer (some ⟨sb, 0, none⟩), .agg (smA x v)] w fun e w' => e = .returned (.int .i64 (if x.has = decide (res ≠ (0, false)) then perC E L x.has x.x else 9)) ∧ Below w.heap.size w w' := by
  have S := hideI (Sk.begin h hs hf)
  have K0 := hideI (below_a w (.cells (smA x v) 103))
  have hAs := hideI (smA_size x v)
  have CP := hideI (fun (W : World) (s : Sk B w W sb vb fb lb wd E L res lp x v) => cperhaps_any x v B W sb vb fb lb wd E L res lp s.sc s.sv s.ok ho)
  clear h hs hf ho
  have HH := (unhideI S).bx.heap
  generalize hA : smA x v = A at *
  generalize hW : w.alloc (.cells A 103) = W0 at *
  have hs0 : w.heap.size < W0.heap.size := (unhideI S).bx.lt
  obtain ⟨c0, c1, c2, c3, c4⟩ := (unhideI S).bx.own
  obtain ⟨va, n, h0, -⟩ := (unhideI S).sc.has
  have d7 := box_cells h0 7 _ rfl
  have d8 := box_cells h0 8 _ rfl
  have hsb := h0.lt
  obtain ⟨rb, rs⟩ := res
  dsimp only at d7 d8
  clear h0
  generalize perC E L x.has x.x = P at *
  generalize x.has = hh at *
  by_cases hz : rb = 0
  · subst hz
    cases rs <;> cases hh
    · rw [if_pos (show false = decide (((0 : Int), false) ≠ (0, false)) from by simp)]
      go_enter Tryz.func93, Tryz.ntmps93
      go_wp2_with (first | (refine wpList_boxTo rfl 103 (.tmp 1) rfl (some 3) rfl _ rfl A rfl ?_; rw [hW]))
      go_quiet (fail)
      have kq := below_drewN W0 nq
      have S1 := (unhideI S).step kq
      have K1 := hideI (bT (unhideI K0) kq)
      have C0 := hideI (unhideI CP _ S1)
      have HH1 := S1.bx.heap
      rw [hA] at HH1
      clear kq S S1 K0 CP HH hs0 c0 c1 c2 c3 c4 d7 d8 hsb
      generalize W0.drewN nq = W1 at *
      go_wp2_with (refine wpList_load_row rfl 103 (.tmp 3) rfl w.heap.size rfl _ A _ _ HH1 Tryz.underlying103 rfl (by rw [unhideI hAs]; exact Tryz.sizeStat) ?_)
      refine (unhideI C0).mono ?_
      rintro e W2 ⟨rfl, k2⟩
      have K2 := hideI (bT (unhideI K1) k2)
      clear C0 k2 K1 HH1
      go_wp2_with fail
      go_ret
      exact ⟨rfl, unhideI K2⟩
    · rw [if_neg (show ¬ (true = decide (((0 : Int), false) ≠ (0, false))) from by simp)]
      go_enter Tryz.func93, Tryz.ntmps93
      go_wp2_with (first | (refine wpList_boxTo rfl 103 (.tmp 1) rfl (some 3) rfl _ rfl A rfl ?_; rw [hW]))
      go_quiet (fail)
      have kq := below_drewN W0 nq
      have S1 := (unhideI S).step kq
      have K1 := hideI (bT (unhideI K0) kq)
      clear kq S S1 K0 CP HH hs0 c0 c1 c2 c3 c4 d7 d8 hsb
      generalize W0.drewN nq = W1 at *
      go_wp2_with fail
      go_ret
      exact ⟨rfl, unhideI K1⟩
    · rw [if_neg (show ¬ (false = decide (((0 : Int), true) ≠ (0, false))) from by simp)]
      go_enter Tryz.func93, Tryz.ntmps93
      go_wp2_with (first | (refine wpList_boxTo rfl 103 (.tmp 1) rfl (some 3) rfl _ rfl A rfl ?_; rw [hW]))
      go_quiet (fail)
      have kq := below_drewN W0 nq
      have S1 := (unhideI S).step kq
      have K1 := hideI (bT (unhideI K0) kq)
      clear kq S S1 K0 CP HH hs0 c0 c1 c2 c3 c4 d7 d8 hsb
      generalize W0.drewN nq = W1 at *
      go_wp2_with fail
      go_ret
      exact ⟨rfl, unhideI K1⟩
    · rw [if_pos (show true = decide (((0 : Int), true) ≠ (0, false)) from by simp)]
      go_enter Tryz.func93, Tryz.ntmps93
      go_wp2_with (first | (refine wpList_boxTo rfl 103 (.tmp 1) rfl (some 3) rfl _ rfl A rfl ?_; rw [hW]))
      go_quiet (fail)
      have kq := below_drewN W0 nq
      have S1 := (unhideI S).step kq
      have K1 := hideI (bT (unhideI K0) kq)
      have C0 := hideI (unhideI CP _ S1)
      have HH1 := S1.bx.heap
      rw [hA] at HH1
      clear kq S S1 K0 CP HH hs0 c0 c1 c2 c3 c4 d7 d8 hsb
      generalize W0.drewN nq = W1 at *
      go_wp2_with (refine wpList_load_row rfl 103 (.tmp 3) rfl w.heap.size rfl _ A _ _ HH1 Tryz.underlying103 rfl (by rw [unhideI hAs]; exact Tryz.sizeStat) ?_)
      refine (unhideI C0).mono ?_
      rintro e W2 ⟨rfl, k2⟩
      have K2 := hideI (bT (unhideI K1) k2)
      clear C0 k2 K1 HH1
      go_wp2_with fail
      go_ret
      exact ⟨rfl, unhideI K2⟩
  · cases hh
    · rw [if_neg (show ¬ (false = decide ((rb, rs) ≠ (0, false))) from by simp [hz])]
      go_enter Tryz.func93, Tryz.ntmps93
      go_wp2_with (first | (refine wpList_boxTo rfl 103 (.tmp 1) rfl (some 3) rfl _ rfl A rfl ?_; rw [hW]))
      go_quiet (fail)
      have kq := below_drewN W0 nq
      have S1 := (unhideI S).step kq
      have K1 := hideI (bT (unhideI K0) kq)
      clear kq S S1 K0 CP HH hs0 c0 c1 c2 c3 c4 d7 d8 hsb
      generalize W0.drewN nq = W1 at *
      go_wp2_with fail
      go_ret
      exact ⟨rfl, unhideI K1⟩
    · rw [if_pos (show true = decide ((rb, rs) ≠ (0, false)) from by simp [hz])]
      go_enter Tryz.func93, Tryz.ntmps93
      go_wp2_with (first | (refine wpList_boxTo rfl 103 (.tmp 1) rfl (some 3) rfl _ rfl A rfl ?_; rw [hW]))
      go_quiet (fail)
      have kq := below_drewN W0 nq
      have S1 := (unhideI S).step kq
      have K1 := hideI (bT (unhideI K0) kq)
      have C0 := hideI (unhideI CP _ S1)
      have HH1 := S1.bx.heap
      rw [hA] at HH1
      clear kq S S1 K0 CP HH hs0 c0 c1 c2 c3 c4 d7 d8 hsb
      generalize W0.drewN nq = W1 at *
      go_wp2_with (refine wpList_load_row rfl 103 (.tmp 3) rfl w.heap.size rfl _ A _ _ HH1 Tryz.underlying103 rfl (by rw [unhideI hAs]; exact Tryz.sizeStat) ?_)
      refine (unhideI C0).mono ?_
      rintro e W2 ⟨rfl, k2⟩
      have K2 := hideI (bT (unhideI K1) k2)
      clear C0 k2 K1 HH1
      go_wp2_with fail
      go_ret
      exact ⟨rfl, unhideI K2⟩
end Go.Proofs.YtaidefdbjcgcbaaGreat

/-
  Programs as a whole: statements, a kind at a time (mkCkV.py).
-/
namespace Go.Proofs.YtaidefdbjcgcbaaGreat
open Go.RowKit Go.Maps Go.Great
set_option linter.unusedSimpArgs false
set_option linter.unusedVariables false

set_option maxRecDepth 100000 in
set_option maxHeartbeats 2000000 in
theorem cst_2 (E : Nev) (res : Int × Bool) (x : Sm) (v : Sv) (hk : x.k = 2) (B : Nat) (w : World) (sb vb fb lb : Nat) (wd : Int) (L : Loc) (lp : Nat) (ho : x.has = true → TyC x.x) (hb : IsW x.b) (hfr : L.fr ≤ 1000000) (h : Sc B w sb vb fb lb wd E L res lp) (hs : SvL B w x v) (hf : SmF x) :
    Calls Tryz.prog 52 #[.pointer (some ⟨sb, 0, none⟩), .agg (smA x v)] w fun e w' => ScR B w sb vb fb lb wd E res lp (thc (perC E L x.has x.x, L) fun L => declC L x.b x.s x.nm) e w' := by
  have S := hideI (Sk.begin h hs hf)
  have hAs := hideI (smA_size x v)
  have CC := hideI (show ∀ (W : World), Sk B w W sb vb fb lb wd E L res lp x v → Calls Tryz.prog 90 #[.pointer (some ⟨sb, 0, none⟩), .agg (smA x v)] W fun e w' => ScR B W sb vb fb lb wd E res lp (thc (perC E L x.has x.x, L) fun L => declC L x.b x.s x.nm) e w' from fun W s => cdeclaration_any x v B W sb vb fb lb wd E L res lp s.sc s.sv s.ok ho hb hfr)
  clear h hs hf ho
  have HH := (unhideI S).bx.heap
  generalize hA : smA x v = A at *
  generalize hW : w.alloc (.cells A 103) = W0 at *
  have hs0 : w.heap.size < W0.heap.size := (unhideI S).bx.lt
  obtain ⟨c0, c1, c2, c3, c4⟩ := (unhideI S).bx.own
  rw [hk] at c0
  have C0 := hideI (unhideI CC W0 (unhideI S))
  clear CC hk
  generalize (thc (perC E L x.has x.x, L) fun L => declC L x.b x.s x.nm) = R at *
  go_enter Tryz.func52, Tryz.ntmps52
  go_wp2_with (first | (refine wpList_boxTo rfl 103 (.tmp 1) rfl (some 3) rfl _ rfl A rfl ?_; rw [hW]) | (refine wpList_load_row rfl 103 (.tmp 3) rfl w.heap.size rfl _ A _ _ HH Tryz.underlying103 rfl (by rw [unhideI hAs]; exact Tryz.sizeStat) ?_))
  refine (unhideI C0).mono ?_
  rintro e W2 ⟨rfl, sc2, k2⟩
  have Z := hideI (And.intro sc2 ((unhideI S).wk.trans k2))
  clear C0 S sc2 k2 c0 c1 c2 c3 c4 hs0 HH
  go_wp2_with fail
  go_ret
  exact ⟨rfl, (unhideI Z).1, (unhideI Z).2⟩
set_option maxRecDepth 100000 in
set_option maxHeartbeats 2000000 in
theorem cst_3 (E : Nev) (res : Int × Bool) (x : Sm) (v : Sv) (hk : x.k = 3) (B : Nat) (w : World) (sb vb fb lb : Nat) (wd : Int) (L : Loc) (lp : Nat) (ho : TyC x.x) (hi : x.has = true → TyC x.i) (h : Sc B w sb vb fb lb wd E L res lp) (hs : SvL B w x v) (hf : SmF x) :
    Calls Tryz.prog 52 #[.pointer (some ⟨sb, 0, none⟩), .agg (smA x v)] w fun e w' => ScR B w sb vb fb lb wd E res lp ((setC E L x.has x.nm x.i x.x, L)) e w' := by
  have S := hideI (Sk.begin h hs hf)
  have hAs := hideI (smA_size x v)
  have CC := hideI (show ∀ (W : World), Sk B w W sb vb fb lb wd E L res lp x v → Calls Tryz.prog 91 #[.pointer (some ⟨sb, 0, none⟩), .agg (smA x v)] W fun e w' => e = .returned (.int .i64 (setC E L x.has x.nm x.i x.x)) ∧ Below W.heap.size W w' from fun W s => cset_any x v B W sb vb fb lb wd E L res lp s.sc s.sv s.ok ho hi)
  clear h hs hf ho
  have HH := (unhideI S).bx.heap
  generalize hA : smA x v = A at *
  generalize hW : w.alloc (.cells A 103) = W0 at *
  have hs0 : w.heap.size < W0.heap.size := (unhideI S).bx.lt
  obtain ⟨c0, c1, c2, c3, c4⟩ := (unhideI S).bx.own
  rw [hk] at c0
  have C0 := hideI (unhideI CC W0 (unhideI S))
  clear CC hk
  generalize (setC E L x.has x.nm x.i x.x) = R at *
  go_enter Tryz.func52, Tryz.ntmps52
  go_wp2_with (first | (refine wpList_boxTo rfl 103 (.tmp 1) rfl (some 3) rfl _ rfl A rfl ?_; rw [hW]) | (refine wpList_load_row rfl 103 (.tmp 3) rfl w.heap.size rfl _ A _ _ HH Tryz.underlying103 rfl (by rw [unhideI hAs]; exact Tryz.sizeStat) ?_))
  refine (unhideI C0).mono ?_
  rintro e W2 ⟨rfl, k2⟩
  have S2 := hideI ((unhideI S).step k2)
  clear C0 S k2 c0 c1 c2 c3 c4 hs0 HH
  go_wp2_with fail
  go_ret
  exact ⟨rfl, (unhideI S2).sc, (unhideI S2).wk⟩
set_option maxRecDepth 100000 in
set_option maxHeartbeats 2000000 in
theorem cst_8 (E : Nev) (res : Int × Bool) (x : Sm) (v : Sv) (hk : x.k = 8) (B : Nat) (w : World) (sb vb fb lb : Nat) (wd : Int) (L : Loc) (lp : Nat) (ho : x.has = true → TyC x.x) (h : Sc B w sb vb fb lb wd E L res lp) (hs : SvL B w x v) (hf : SmF x) :
    Calls Tryz.prog 52 #[.pointer (some ⟨sb, 0, none⟩), .agg (smA x v)] w fun e w' => ScR B w sb vb fb lb wd E res lp ((if x.has = decide (res ≠ (0, false)) then perC E L x.has x.x else 9, L)) e w' := by
  have S := hideI (Sk.begin h hs hf)
  have hAs := hideI (smA_size x v)
  have CC := hideI (show ∀ (W : World), Sk B w W sb vb fb lb wd E L res lp x v → Calls Tryz.prog 93 #[.pointer (some ⟨sb, 0, none⟩), .agg (smA x v)] W fun e w' => e = .returned (.int .i64 (if x.has = decide (res ≠ (0, false)) then perC E L x.has x.x else 9)) ∧ Below W.heap.size W w' from fun W s => creturns_any E res x v B W sb vb fb lb wd L lp s.sc s.sv s.ok ho)
  clear h hs hf ho
  have HH := (unhideI S).bx.heap
  generalize hA : smA x v = A at *
  generalize hW : w.alloc (.cells A 103) = W0 at *
  have hs0 : w.heap.size < W0.heap.size := (unhideI S).bx.lt
  obtain ⟨c0, c1, c2, c3, c4⟩ := (unhideI S).bx.own
  rw [hk] at c0
  have C0 := hideI (unhideI CC W0 (unhideI S))
  clear CC hk
  generalize (if x.has = decide (res ≠ (0, false)) then perC E L x.has x.x else 9) = R at *
  go_enter Tryz.func52, Tryz.ntmps52
  go_wp2_with (first | (refine wpList_boxTo rfl 103 (.tmp 1) rfl (some 3) rfl _ rfl A rfl ?_; rw [hW]) | (refine wpList_load_row rfl 103 (.tmp 3) rfl w.heap.size rfl _ A _ _ HH Tryz.underlying103 rfl (by rw [unhideI hAs]; exact Tryz.sizeStat) ?_))
  refine (unhideI C0).mono ?_
  rintro e W2 ⟨rfl, k2⟩
  have S2 := hideI ((unhideI S).step k2)
  clear C0 S k2 c0 c1 c2 c3 c4 hs0 HH
  go_wp2_with fail
  go_ret
  exact ⟨rfl, (unhideI S2).sc, (unhideI S2).wk⟩
set_option maxRecDepth 100000 in
set_option maxHeartbeats 2000000 in
theorem cst_5 (E : Nev) (res : Int × Bool) (x : Sm) (v : Sv) (hk : x.k = 5) (B : Nat) (w : World) (sb vb fb lb : Nat) (wd : Int) (L : Loc) (lp : Nat) (I3 : ∀ y ∈ x.body, CkSm E res y) (I4 : ∀ y ∈ x.els, CkSm E res y) (N3 : ∀ y ∈ x.body, NmS y) (N4 : ∀ y ∈ x.els, NmS y) (ok : OpOk L) (ho : TyC x.x) (hfr : L.fr + 4 * ((szL x.body + szL x.els : Nat) : Int) ≤ 1000000) (hlp : lp + (szL x.body + szL x.els) ≤ 1000000) (h : Sc B w sb vb fb lb wd E L res lp) (hs : SvL B w x v) (hf : SmF x) :
    Calls Tryz.prog 52 #[.pointer (some ⟨sb, 0, none⟩), .agg (smA x v)] w fun e w' => ScR B w sb vb fb lb wd E res lp (thc (tellC E L x.x, L) fun L => thc (hid L (ckL E res x.body lp L)) fun L => hid L (ckL E res x.els lp L)) e w' := by
  have S := hideI (Sk.begin h hs hf)
  have hAs := hideI (smA_size x v)
  have CC := hideI (show ∀ (W : World), Sk B w W sb vb fb lb wd E L res lp x v → Calls Tryz.prog 94 #[.pointer (some ⟨sb, 0, none⟩), .agg (smA x v)] W fun e w' => ScR B W sb vb fb lb wd E res lp (thc (tellC E L x.x, L) fun L => thc (hid L (ckL E res x.body lp L)) fun L => hid L (ckL E res x.els lp L)) e w' from fun W s => cchoice_any E res x v I3 I4 N3 N4 B W sb vb fb lb wd L lp s.sc s.sv s.ok ho ok hfr hlp)
  clear h hs hf ho
  have HH := (unhideI S).bx.heap
  generalize hA : smA x v = A at *
  generalize hW : w.alloc (.cells A 103) = W0 at *
  have hs0 : w.heap.size < W0.heap.size := (unhideI S).bx.lt
  obtain ⟨c0, c1, c2, c3, c4⟩ := (unhideI S).bx.own
  rw [hk] at c0
  have C0 := hideI (unhideI CC W0 (unhideI S))
  clear CC hk
  generalize (thc (tellC E L x.x, L) fun L => thc (hid L (ckL E res x.body lp L)) fun L => hid L (ckL E res x.els lp L)) = R at *
  go_enter Tryz.func52, Tryz.ntmps52
  go_wp2_with (first | (refine wpList_boxTo rfl 103 (.tmp 1) rfl (some 3) rfl _ rfl A rfl ?_; rw [hW]) | (refine wpList_load_row rfl 103 (.tmp 3) rfl w.heap.size rfl _ A _ _ HH Tryz.underlying103 rfl (by rw [unhideI hAs]; exact Tryz.sizeStat) ?_))
  refine (unhideI C0).mono ?_
  rintro e W2 ⟨rfl, sc2, k2⟩
  have Z := hideI (And.intro sc2 ((unhideI S).wk.trans k2))
  clear C0 S sc2 k2 c0 c1 c2 c3 c4 hs0 HH
  go_wp2_with fail
  go_ret
  exact ⟨rfl, (unhideI Z).1, (unhideI Z).2⟩
set_option maxRecDepth 100000 in
set_option maxHeartbeats 2000000 in
theorem cst_7 (E : Nev) (res : Int × Bool) (x : Sm) (v : Sv) (hk : x.k = 7) (B : Nat) (w : World) (sb vb fb lb : Nat) (wd : Int) (L : Loc) (lp : Nat) (I1 : ∀ y ∈ x.init, CkSm E res y) (I2 : ∀ y ∈ x.step, CkSm E res y) (I3 : ∀ y ∈ x.body, CkSm E res y) (N1 : ∀ y ∈ x.init, NmS y) (N2 : ∀ y ∈ x.step, NmS y) (N3 : ∀ y ∈ x.body, NmS y) (ok : OpOk L) (ho : x.has = true → TyC x.x) (hfr : L.fr + 4 * ((szL x.init + szL x.step + szL x.body : Nat) : Int) ≤ 1000000) (hlp : lp + 1 + (szL x.init + szL x.step + szL x.body) ≤ 1000000) (h : Sc B w sb vb fb lb wd E L res lp) (hs : SvL B w x v) (hf : SmF x) :
    Calls Tryz.prog 52 #[.pointer (some ⟨sb, 0, none⟩), .agg (smA x v)] w fun e w' => ScR B w sb vb fb lb wd E res lp (thc (hid L (ckL E res x.init lp L)) fun L => thc (perC E L x.has x.x, L) fun L => thc (hid L (ckL E res x.step lp L)) fun L => hid L (ckL E res x.body (lp + 1) L)) e w' := by
  have S := hideI (Sk.begin h hs hf)
  have hAs := hideI (smA_size x v)
  have CC := hideI (show ∀ (W : World), Sk B w W sb vb fb lb wd E L res lp x v → Calls Tryz.prog 97 #[.pointer (some ⟨sb, 0, none⟩), .agg (smA x v)] W fun e w' => ScR B W sb vb fb lb wd E res lp (thc (hid L (ckL E res x.init lp L)) fun L => thc (perC E L x.has x.x, L) fun L => thc (hid L (ckL E res x.step lp L)) fun L => hid L (ckL E res x.body (lp + 1) L)) e w' from fun W s => cfor_any E res x v I1 I2 I3 N1 N2 N3 B W sb vb fb lb wd L lp s.sc s.sv s.ok ho ok hfr hlp)
  clear h hs hf ho
  have HH := (unhideI S).bx.heap
  generalize hA : smA x v = A at *
  generalize hW : w.alloc (.cells A 103) = W0 at *
  have hs0 : w.heap.size < W0.heap.size := (unhideI S).bx.lt
  obtain ⟨c0, c1, c2, c3, c4⟩ := (unhideI S).bx.own
  rw [hk] at c0
  have C0 := hideI (unhideI CC W0 (unhideI S))
  clear CC hk
  generalize (thc (hid L (ckL E res x.init lp L)) fun L => thc (perC E L x.has x.x, L) fun L => thc (hid L (ckL E res x.step lp L)) fun L => hid L (ckL E res x.body (lp + 1) L)) = R at *
  go_enter Tryz.func52, Tryz.ntmps52
  go_wp2_with (first | (refine wpList_boxTo rfl 103 (.tmp 1) rfl (some 3) rfl _ rfl A rfl ?_; rw [hW]) | (refine wpList_load_row rfl 103 (.tmp 3) rfl w.heap.size rfl _ A _ _ HH Tryz.underlying103 rfl (by rw [unhideI hAs]; exact Tryz.sizeStat) ?_))
  refine (unhideI C0).mono ?_
  rintro e W2 ⟨rfl, sc2, k2⟩
  have Z := hideI (And.intro sc2 ((unhideI S).wk.trans k2))
  clear C0 S sc2 k2 c0 c1 c2 c3 c4 hs0 HH
  go_wp2_with fail
  go_ret
  exact ⟨rfl, (unhideI Z).1, (unhideI Z).2⟩
end Go.Proofs.YtaidefdbjcgcbaaGreat
