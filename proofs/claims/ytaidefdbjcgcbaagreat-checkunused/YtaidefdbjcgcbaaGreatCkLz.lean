/-
  Programs as a whole: a statement on the way; what it may have.
-/
import Derived.Test.YtaidefdbjcgcbaaGreatCkJz
import Derived.Test.YtaidefdbjcgcbaaGreatLwEz
import Derived.Test.YtaidefdbjcgcbaaGreatR7Hz
namespace Go.Proofs.YtaidefdbjcgcbaaGreat
open Go.RowKit Go.Maps Go.Great
set_option linter.unusedSimpArgs false
set_option linter.unusedVariables false

/-- On the way through a statement. -/
structure Sk (B : Nat) (w W : World) (sb vb fb lb : Nat) (wd : Int) (E : Nev) (L : Loc) (res : Int × Bool) (lp : Nat) (x : Sm) (v : Sv) : Prop where
  wk : Wd9 B sb lb w W
  sc : Sc B W sb vb fb lb wd E L res lp
  bx : SmB W w.heap.size x v
  lts : sb < w.heap.size ∧ lb < w.heap.size
  sv : SvL B W x v
  ok : SmF x
section
variable {B : Nat} {w W W' : World} {sb vb fb lb : Nat} {wd : Int} {E : Nev} {L L' : Loc} {res : Int × Bool} {lp lp' : Nat} {x : Sm} {v : Sv}
theorem Sk.begin (h : Sc B w sb vb fb lb wd E L res lp) (hs : SvL B w x v) (hf : SmF x) : Sk B w (w.alloc (.cells (smA x v) 103)) sb vb fb lb wd E L res lp x v := by
  have hal := below_a w (.cells (smA x v) 103)
  exact ⟨Wd9.of hal h.hB, h.step hal, SmB.new _ _ _, h.lts, hs.step (hal.mono h.hB), hf⟩
theorem Sk.next (h : Sk B w W sb vb fb lb wd E L res lp x v) (q : Wd9 B sb lb W W') (s : Sc B W' sb vb fb lb wd E L' res lp') : Sk B w W' sb vb fb lb wd E L' res lp' x v := by
  have hl := h.lts
  exact ⟨h.wk.trans q, s, ⟨q.wc.block _ _ h.bx.heap (by omega) (by omega) (fun cs fr e => by injection e with _ e _; exact absurd e (by decide))⟩, hl, h.sv.step q.below, h.ok⟩
theorem Sk.step (h : Sk B w W sb vb fb lb wd E L res lp x v) (q : Below W.heap.size W W') : Sk B w W' sb vb fb lb wd E L res lp x v := h.next (Wd9.of q h.sc.hB) (h.sc.step q)
end
set_option maxRecDepth 100000 in
set_option maxHeartbeats 1000000 in
theorem cperhaps_any (x : Sm) (v : Sv) (B : Nat) (w : World) (sb vb fb lb : Nat) (wd : Int) (E : Nev) (L : Loc) (res : Int × Bool) (lp : Nat) (h : Sc B w sb vb fb lb wd E L res lp) (hs : SvL B w x v) (hf : SmF x) (ho : x.has = true → TyC x.x) :
    Calls Tryz.prog 133 #[.pointer (some ⟨sb, 0, none⟩), .agg (smA x v)] w fun e w' => e = .returned (.int .i64 (perC E L x.has x.x)) ∧ Below w.heap.size w w' := by
  have S0 := hideI (Sk.begin h hs hf)
  have K0 := hideI (below_a w (.cells (smA x v) 103))
  clear h hs hf
  generalize hA : smA x v = A at *
  generalize hW : w.alloc (.cells A 103) = W0 at *
  obtain ⟨-, -, -, -, c4⟩ := (unhideI S0).bx.own
  obtain ⟨p0, p1, p2, p3, p4, p5⟩ := (unhideI S0).bx.exX
  have hs0 : w.heap.size < W0.heap.size := (unhideI S0).bx.lt
  unfold perC
  by_cases hh : x.has = true
  · rw [if_pos hh]
    rw [hh] at c4
    have XA := hideI (tells_any x.x (ho hh) B W0 sb vb fb lb wd E L res lp v.xk (unhideI S0).sc (unhideI S0).sv.hx (unhideI S0).ok.2.1)
    clear hh ho S0
    go_enter Tryz.func133, Tryz.ntmps133
    go_wp2_with (refine wpList_boxTo rfl 103 (.tmp 1) rfl (some 3) rfl _ rfl A rfl ?_; rw [hW])
    refine (unhideI XA).mono ?_
    rintro e W2 ⟨rfl, k2⟩
    have K2 := hideI (bT (unhideI K0) k2)
    clear XA k2 K0 p0 p1 p2 p3 p4 p5 c4 hs0
    go_wp2_with fail
    go_ret
    exact ⟨rfl, unhideI K2⟩
  · have hh2 : x.has = false := by simpa using hh
    rw [if_neg hh]
    rw [hh2] at c4
    clear hh hh2 ho S0
    go_enter Tryz.func133, Tryz.ntmps133
    go_wp2_with (refine wpList_boxTo rfl 103 (.tmp 1) rfl (some 3) rfl _ rfl A rfl ?_; rw [hW])
    go_ret
    exact ⟨rfl, unhideI K0⟩
end Go.Proofs.YtaidefdbjcgcbaaGreat

/-
  Programs as a whole: a variable is set; a name is declared by a statement.
-/
namespace Go.Proofs.YtaidefdbjcgcbaaGreat
open Go.RowKit Go.Maps Go.Great
set_option linter.unusedSimpArgs false
set_option linter.unusedVariables false

set_option maxRecDepth 100000 in
set_option maxHeartbeats 2000000 in
theorem cset_any (x : Sm) (v : Sv) (B : Nat) (w : World) (sb vb fb lb : Nat) (wd : Int) (E : Nev) (L : Loc) (res : Int × Bool) (lp : Nat) (h : Sc B w sb vb fb lb wd E L res lp) (hs : SvL B w x v) (hf : SmF x) (ho : TyC x.x) (hi : x.has = true → TyC x.i) :
    Calls Tryz.prog 91 #[.pointer (some ⟨sb, 0, none⟩), .agg (smA x v)] w fun e w' => e = .returned (.int .i64 (setC E L x.has x.nm x.i x.x)) ∧ Below w.heap.size w w' := by
  have S := hideI (Sk.begin h hs hf)
  have K0 := hideI (below_a w (.cells (smA x v) 103))
  have HO := hideI ho
  clear h hs hf ho
  generalize hA : smA x v = A at *
  generalize hW : w.alloc (.cells A 103) = W0 at *
  obtain ⟨R, hR⟩ : ∃ R, R = setC E L x.has x.nm x.i x.x := ⟨_, rfl⟩
  rw [← hR]
  obtain ⟨c0, c1, c2, c3, c4⟩ := (unhideI S).bx.own
  obtain ⟨q0, q1, q2, q3, q4, q5⟩ := (unhideI S).bx.exI
  obtain ⟨p0, p1, p2, p3, p4, p5⟩ := (unhideI S).bx.exX
  have hs0 : w.heap.size < W0.heap.size := (unhideI S).bx.lt
  -- the end: from the name on, in whatever world
  have CA := hideI (fun (W : World) (s : Sk B w W sb vb fb lb wd E L res lp x v) => asked_any B W sb vb fb lb wd E L res lp s.sc x.nm s.ok.1 x.has)
  have CX := hideI (fun (W : World) (s : Sk B w W sb vb fb lb wd E L res lp x v) => tells_any x.x (unhideI HO) B W sb vb fb lb wd E L res lp v.xk s.sc s.sv.hx s.ok.2.1)
  unfold setC perC at hR
  generalize askC E L x.nm x.has = AC at *
  generalize tellC E L x.x = X at *
  obtain ⟨⟨tb, ts⟩, e2⟩ := AC
  dsimp only at CA hR
  by_cases hh : x.has = true
  · rw [hh] at c4 CA
    simp only [hh, if_true] at hR
    have CI := hideI (tells_any x.i (hi hh) B W0 sb vb fb lb wd E L res lp v.ik (unhideI S).sc (unhideI S).sv.hi (unhideI S).ok.2.2)
    have HHT := hideI hh
    clear hh hi
    generalize tellC E L x.i = I at *
    have HR := hideI hR
    clear hR
    go_enter Tryz.func91, Tryz.ntmps91
    go_wp2_with (refine wpList_boxTo rfl 103 (.tmp 1) rfl (some 3) rfl _ rfl A rfl ?_; rw [hW])
    refine (unhideI CI).mono ?_
    rintro e W1 ⟨rfl, k1⟩
    have S1 := hideI ((unhideI S).step k1)
    have K1 := hideI (bT (unhideI K0) k1)
    clear CI k1 S K0 c0 c1 c2 c3 c4 q0 q1 q2 q3 q4 q5 p0 p1 p2 p3 p4 p5 hs0
    by_cases h1 : I = 0
    rotate_left
    · obtain rfl : R = I := by rw [unhideI HR, if_pos h1]
      have b1 : (R != 0) = true := bne_iff_ne.2 h1
      clear h1 CA CX HR
      go_wp2_with fail
      go_ret
      exact ⟨rfl, unhideI K1⟩
    subst h1
    have hR := unhideI HR
    rw [if_neg (by decide)] at hR
    have HR := hideI hR
    clear hR
    obtain ⟨c0, c1, c2, c3, c4⟩ := (unhideI S1).bx.own
    have hs0 : w.heap.size < W1.heap.size := (unhideI S1).bx.lt
    rw [unhideI HHT] at c4
    go_wp2_with fail
    refine (unhideI CA _ (unhideI S1)).mono ?_
    rintro e W2 ⟨rfl, k2⟩
    have kT := below_a W2 (.cells #[.int .i64 tb, .bool ts] 34)
    have S2 := hideI (((unhideI S1).step k2).step kT)
    have K2 := hideI (bT (bT (unhideI K1) k2) kT)
    clear k2 kT S1 K1 CA c0 c1 c2 c3 c4 hs0
    generalize hW2 : W2.alloc (.cells #[.int .i64 tb, .bool ts] 34) = W3 at *
    by_cases h2 : e2 = 0
    rotate_left
    · obtain rfl : R = e2 := by rw [unhideI HR, if_pos h2]
      have b2 : (R != 0) = true := bne_iff_ne.2 h2
      clear h2 CX HR
      by_cases hz : tb = 0 ∧ ts = false
      · obtain ⟨rfl, rfl⟩ := hz
        subst hW2
        go_wp2_with fail
        go_ret
        exact ⟨rfl, unhideI K2⟩
      · clear hz
        go_wp2_with fail
        go_ret
        exact ⟨rfl, unhideI K2⟩
    subst h2
    have hR := unhideI HR
    rw [if_neg (show ¬ ((0 : Int) ≠ 0) by decide)] at hR
    subst hR
    clear HR
    by_cases hz : tb = 0 ∧ ts = false
    · obtain ⟨rfl, rfl⟩ := hz
      have HCX := hideI (unhideI CX _ (unhideI S2))
      obtain ⟨p0, p1, p2, p3, p4, p5⟩ := (unhideI S2).bx.exX
      have hs2 : w.heap.size < W3.heap.size := (unhideI S2).bx.lt
      clear S2 CX
      subst hW2
      go_wp2_with fail
      refine (unhideI HCX).mono ?_
      rintro e W4 ⟨rfl, k4⟩
      have K4 := hideI (bT (unhideI K2) k4)
      clear k4 K2 HCX p0 p1 p2 p3 p4 p5 hs2
      go_wp2_with fail
      go_ret
      exact ⟨rfl, unhideI K4⟩
    · clear hz
      have HCX := hideI (unhideI CX _ (unhideI S2))
      obtain ⟨p0, p1, p2, p3, p4, p5⟩ := (unhideI S2).bx.exX
      have hs2 : w.heap.size < W3.heap.size := (unhideI S2).bx.lt
      clear S2 CX
      go_wp2_with fail
      refine (unhideI HCX).mono ?_
      rintro e W4 ⟨rfl, k4⟩
      have K4 := hideI (bT (unhideI K2) k4)
      clear k4 K2 HCX p0 p1 p2 p3 p4 p5 hs2
      go_wp2_with fail
      go_ret
      exact ⟨rfl, unhideI K4⟩
  · have hh2 : x.has = false := by simpa using hh
    rw [hh2] at c4 CA
    replace hR : R = if e2 ≠ 0 then e2 else X := by rw [hR, hh2]; rfl
    have HR := hideI hR
    clear hR hh hh2 hi p0 p1 p2 p3 p4 p5 q0 q1 q2 q3 q4 q5
    go_enter Tryz.func91, Tryz.ntmps91
    go_wp2_with (refine wpList_boxTo rfl 103 (.tmp 1) rfl (some 3) rfl _ rfl A rfl ?_; rw [hW])
    have S1 := S
    have K1 := K0
    clear S K0
    refine (unhideI CA _ (unhideI S1)).mono ?_
    rintro e W2 ⟨rfl, k2⟩
    have kT := below_a W2 (.cells #[.int .i64 tb, .bool ts] 34)
    have S2 := hideI (((unhideI S1).step k2).step kT)
    have K2 := hideI (bT (bT (unhideI K1) k2) kT)
    clear k2 kT S1 K1 CA c0 c1 c2 c3 c4 hs0
    generalize hW2 : W2.alloc (.cells #[.int .i64 tb, .bool ts] 34) = W3 at *
    by_cases h2 : e2 = 0
    rotate_left
    · obtain rfl : R = e2 := by rw [unhideI HR, if_pos h2]
      have b2 : (R != 0) = true := bne_iff_ne.2 h2
      clear h2 CX HR
      by_cases hz : tb = 0 ∧ ts = false
      · obtain ⟨rfl, rfl⟩ := hz
        subst hW2
        go_wp2_with fail
        go_ret
        exact ⟨rfl, unhideI K2⟩
      · clear hz
        go_wp2_with fail
        go_ret
        exact ⟨rfl, unhideI K2⟩
    subst h2
    have hR := unhideI HR
    rw [if_neg (show ¬ ((0 : Int) ≠ 0) by decide)] at hR
    subst hR
    clear HR
    by_cases hz : tb = 0 ∧ ts = false
    · obtain ⟨rfl, rfl⟩ := hz
      have HCX := hideI (unhideI CX _ (unhideI S2))
      obtain ⟨p0, p1, p2, p3, p4, p5⟩ := (unhideI S2).bx.exX
      have hs2 : w.heap.size < W3.heap.size := (unhideI S2).bx.lt
      clear S2 CX
      subst hW2
      go_wp2_with fail
      refine (unhideI HCX).mono ?_
      rintro e W4 ⟨rfl, k4⟩
      have K4 := hideI (bT (unhideI K2) k4)
      clear k4 K2 HCX p0 p1 p2 p3 p4 p5 hs2
      go_wp2_with fail
      go_ret
      exact ⟨rfl, unhideI K4⟩
    · clear hz
      have HCX := hideI (unhideI CX _ (unhideI S2))
      obtain ⟨p0, p1, p2, p3, p4, p5⟩ := (unhideI S2).bx.exX
      have hs2 : w.heap.size < W3.heap.size := (unhideI S2).bx.lt
      clear S2 CX
      go_wp2_with fail
      refine (unhideI HCX).mono ?_
      rintro e W4 ⟨rfl, k4⟩
      have K4 := hideI (bT (unhideI K2) k4)
      clear k4 K2 HCX p0 p1 p2 p3 p4 p5 hs2
      go_wp2_with fail
      go_ret
      exact ⟨rfl, unhideI K4⟩
end Go.Proofs.YtaidefdbjcgcbaaGreat

/-
  Programs as a whole: a declaration.
-/
namespace Go.Proofs.YtaidefdbjcgcbaaGreat
open Go.RowKit Go.Maps Go.Great
set_option linter.unusedSimpArgs false
set_option linter.unusedVariables false

/-- What a call of the checker leaves: the answer, names, all else. -/
def ScR (B : Nat) (w : World) (sb vb fb lb : Nat) (wd : Int) (E : Nev) (res : Int × Bool) (lp : Nat) (R : Int × Loc) (e : Ending) (w' : World) : Prop := e = .returned (.int .i64 R.1) ∧ Sc B w' sb vb fb lb wd E R.2 res lp ∧ Wd9 B sb lb w w'
set_option maxRecDepth 100000 in
set_option maxHeartbeats 2000000 in
theorem cdeclaration_any (x : Sm) (v : Sv) (B : Nat) (w : World) (sb vb fb lb : Nat) (wd : Int) (E : Nev) (L : Loc) (res : Int × Bool) (lp : Nat) (h : Sc B w sb vb fb lb wd E L res lp) (hs : SvL B w x v) (hf : SmF x) (ho : x.has = true → TyC x.x) (hb : IsW x.b) (hfr : L.fr ≤ 1000000) :
    Calls Tryz.prog 90 #[.pointer (some ⟨sb, 0, none⟩), .agg (smA x v)] w fun e w' => ScR B w sb vb fb lb wd E res lp (thc (perC E L x.has x.x, L) fun L => declC L x.b x.s x.nm) e w' := by
  have S := hideI (Sk.begin h hs hf)
  have hAs := hideI (smA_size x v)
  have CP := hideI (fun (W : World) (s : Sk B w W sb vb fb lb wd E L res lp x v) => cperhaps_any x v B W sb vb fb lb wd E L res lp s.sc s.sv s.ok ho)
  have CD := hideI (fun (W : World) (s : Sk B w W sb vb fb lb wd E L res lp x v) => declare_any B W sb vb fb lb wd E L res lp s.sc x.b x.s x.nm s.ok.1 hb hfr)
  clear h hs hf ho hb hfr
  obtain ⟨R, hR⟩ : ∃ R, R = thc (perC E L x.has x.x, L) fun L => declC L x.b x.s x.nm := ⟨_, rfl⟩
  rw [← hR]
  have HH := (unhideI S).bx.heap
  generalize hA : smA x v = A at *
  generalize hW : w.alloc (.cells A 103) = W0 at *
  have hs0 : w.heap.size < W0.heap.size := (unhideI S).bx.lt
  have C0 := hideI (unhideI CP W0 (unhideI S))
  generalize perC E L x.has x.x = P at *
  have HR := hideI hR
  clear hR CP
  go_enter Tryz.func90, Tryz.ntmps90
  go_wp2_with (first | (refine wpList_boxTo rfl 103 (.tmp 1) rfl (some 3) rfl _ rfl A rfl ?_; rw [hW]) | (refine wpList_load_row rfl 103 (.tmp 3) rfl w.heap.size rfl _ A _ _ HH Tryz.underlying103 rfl (by rw [unhideI hAs]; exact Tryz.sizeStat) ?_))
  refine (unhideI C0).mono ?_
  rintro e W1 ⟨rfl, k1⟩
  have S1 := hideI ((unhideI S).step k1)
  clear C0 S k1 HH hs0
  by_cases h1 : P = 0
  rotate_left
  · obtain rfl : R = (P, L) := by rw [unhideI HR]; exact if_pos h1
    have b1 : (P != 0) = true := bne_iff_ne.2 h1
    clear h1 CD HR
    go_wp2_with fail
    go_ret
    exact ⟨rfl, (unhideI S1).sc, (unhideI S1).wk⟩
  subst h1
  have hRd : R = declC L x.b x.s x.nm := by rw [unhideI HR]; exact if_neg (show ¬ ((0 : Int) ≠ 0) by decide)
  have D0 := unhideI CD W1 (unhideI S1)
  rw [← hRd] at D0
  have D1 := hideI D0
  clear hRd D0
  obtain ⟨c0, c1, c2, c3, c4⟩ := (unhideI S1).bx.own
  have hs1 : w.heap.size < W1.heap.size := (unhideI S1).bx.lt
  clear CD HR
  go_wp2_with fail
  refine (unhideI D1).mono ?_
  rintro e W2 ⟨rfl, sc2, k2⟩
  have Z := hideI (And.intro sc2 ((unhideI S1).wk.trans k2))
  clear D1 S1 sc2 k2 c0 c1 c2 c3 c4 hs1
  go_wp2_with fail
  go_ret
  exact ⟨rfl, (unhideI Z).1, (unhideI Z).2⟩
end Go.Proofs.YtaidefdbjcgcbaaGreat

/-
  Programs as a whole: how much statements declare (mathematics).
-/
namespace Go.Proofs.YtaidefdbjcgcbaaGreat
open Go.RowKit
set_option linter.unusedSimpArgs false
set_option linter.unusedVariables false

mutual
def szS : Sm → Nat
  | .mk k _ _ _ _ _ _ i s b e => 1 + (if k = 7 then szL i + szL s else 0) + (if k = 5 ∨ k = 6 ∨ k = 7 ∨ k = 11 then szL b else 0) + (if k = 5 then szL e else 0)
def szL : List Sm → Nat
  | [] => 0
  | x :: xs => szS x + szL xs
end
theorem szS_at (x : Sm) : 1 ≤ szS x ∧ (x.k = 5 → szS x = 1 + szL x.body + szL x.els) ∧ (x.k = 6 ∨ x.k = 11 → szS x = 1 + szL x.body) ∧ (x.k = 7 → szS x = 1 + szL x.init + szL x.step + szL x.body) := by
  obtain ⟨k, b, s, nm, has, x, i, init, step, body, els⟩ := x
  simp only [Sm.k, Sm.init, Sm.step, Sm.body, Sm.els]
  rw [szS]
  refine ⟨by omega, fun h => ?_, fun h => ?_, fun h => ?_⟩
  · rw [if_neg (by omega), if_pos (by omega), if_pos h]; try omega
  · rw [if_neg (by omega), if_pos (by omega), if_neg (by omega)]; try omega
  · rw [if_pos h, if_pos (by omega), if_neg (by omega)]; try omega
/-- All its names are names that fit in memory. -/
inductive NmS : Sm → Prop
  | mk (x : Sm) (h : x.nm.size ≤ maxLen) (h1 : ∀ y ∈ x.init, NmS y) (h2 : ∀ y ∈ x.step, NmS y) (h3 : ∀ y ∈ x.body, NmS y) (h4 : ∀ y ∈ x.els, NmS y) : NmS x
theorem nmS_of : ∀ (x : Sm) (B : Nat) (w : World), x.nm.size ≤ maxLen → (∃ v, SmL B w v x.init) → (∃ v, SmL B w v x.step) → (∃ v, SmL B w v x.body) → (∃ v, SmL B w v x.els) → NmS x := by
  apply Sm.ind
  intro x I1 I2 I3 I4 B w hn h1 h2 h3 h4
  have key : ∀ l : List Sm, (∃ v, SmL B w v l) → (∀ y ∈ l, ∀ (B : Nat) (w : World), y.nm.size ≤ maxLen → (∃ v, SmL B w v y.init) → (∃ v, SmL B w v y.step) → (∃ v, SmL B w v y.body) → (∃ v, SmL B w v y.els) → NmS y) → ∀ y ∈ l, NmS y := by
    intro l ⟨v, hl⟩ I y hy
    cases hl with
    | mk v xs ks hlen hv lies ok hx hi a1 a2 a3 a4 =>
      obtain ⟨j, hj, rfl⟩ := List.mem_iff_getElem.1 hy
      exact I _ hy B w (ok _ hy).1 ⟨_, a1 j hj⟩ ⟨_, a2 j hj⟩ ⟨_, a3 j hj⟩ ⟨_, a4 j hj⟩
  exact .mk x hn (key _ h1 I1) (key _ h2 I2) (key _ h3 I3) (key _ h4 I4)
def OpOk (L : Loc) : Prop := ∀ k ∈ L.op, k.size ≤ maxLen
/-- So much at most is declared. -/
def Gd (n : Nat) (L L' : Loc) : Prop := L.fr ≤ L'.fr ∧ L'.fr ≤ L.fr + 4 * (n : Int) ∧ (OpOk L → OpOk L') ∧ L.op.length ≤ L'.op.length
theorem Gd.refl (n : Nat) (L : Loc) : Gd n L L := ⟨Int.le_refl _, by omega, fun h => h, Nat.le_refl _⟩
theorem Gd.trans {n m : Nat} {L M N : Loc} (h : Gd n L M) (k : Gd m M N) : Gd (n + m) L N := ⟨Int.le_trans h.1 k.1, by have := h.2.1; have := k.2.1; omega, fun o => k.2.2.1 (h.2.2.1 o), Nat.le_trans h.2.2.2 k.2.2.2⟩
theorem Gd.mono {n m : Nat} {L M : Loc} (h : Gd n L M) (hm : n ≤ m) : Gd m L M := ⟨h.1, by have := h.2.1; omega, h.2.2⟩
theorem gd_hid {n : Nat} {L M : Loc} (h : Gd n L M) : Gd n L (hideC L.op.length M) := ⟨h.1, h.2.1, fun o x hx => h.2.2.1 o x (List.mem_of_mem_take hx), by show _ ≤ (M.op.take L.op.length).length; rw [List.length_take]; have := h.2.2.2; omega⟩
theorem gd_decl (L : Loc) (b : Int) (s : Bool) (nm : ByteArray) (hn : nm.size ≤ maxLen) : Gd 1 L (declC L b s nm).2 := by
  unfold declC
  split
  · exact Gd.refl _ _
  · have : 1 ≤ wds b ∧ wds b ≤ 4 := by
      unfold wds
      repeat' split
      all_goals omega
    refine ⟨by show L.fr ≤ L.fr + wds b; omega, by show L.fr + wds b ≤ L.fr + 4 * 1; omega, fun o x hx => ?_, by show _ ≤ (L.op ++ [nm]).length; simp⟩
    rcases List.mem_append.1 hx with hx | hx
    · exact o x hx
    · rw [List.mem_singleton.1 hx]; exact hn
theorem gd_thc {n m : Nat} {L : Loc} {r : Int × Loc} {f : Loc → Int × Loc} (h : Gd n L r.2) (k : ∀ M, Gd m M (f M).2) : Gd (n + m) L (thc r f).2 := by
  unfold thc
  split
  · exact h.mono (by omega)
  · exact h.trans (k _)
theorem gd_list (E : Nev) (res : Int × Bool) : ∀ xs : List Sm, (∀ y ∈ xs, ∀ lp L, Gd (szS y) L (ckS E res y lp L).2) → ∀ lp L, Gd (szL xs) L (ckL E res xs lp L).2 := by
  intro xs
  induction xs with
  | nil => intro _ lp L; rw [ckL]; exact Gd.refl _ _
  | cons x xs ih =>
    intro I lp L
    rw [ckL, szL]
    exact gd_thc (I x List.mem_cons_self lp L) fun M => ih (fun y hy => I y (List.mem_cons_of_mem _ hy)) lp M
theorem ckS_gd (E : Nev) (res : Int × Bool) : ∀ x : Sm, NmS x → ∀ lp L, Gd (szS x) L (ckS E res x lp L).2 := by
  apply Sm.ind
  intro x I1 I2 I3 I4 hn lp L
  obtain ⟨_, hnm, n1, n2, n3, n4⟩ := hn
  have L1 := gd_list E res x.init fun y hy => I1 y hy (n1 y hy)
  have L2 := gd_list E res x.step fun y hy => I2 y hy (n2 y hy)
  have L3 := gd_list E res x.body fun y hy => I3 y hy (n3 y hy)
  have L4 := gd_list E res x.els fun y hy => I4 y hy (n4 y hy)
  have Z := szS_at x
  obtain ⟨k, b, s, nm, has, x, i, init, step, body, els⟩ := x
  simp only [Sm.k, Sm.init, Sm.step, Sm.body, Sm.els, Sm.nm] at *
  rw [ckS]
  generalize szS (Sm.mk k b s nm has x i init step body els) = z at *
  obtain ⟨z1, z5, z6, z7⟩ := Z
  have b1 : ∀ lp M, Gd (szL body) M (hid M (ckL E res body lp M)).2 := fun lp M => gd_hid (L3 lp M)
  have b2 : ∀ lp M, Gd (szL els) M (hid M (ckL E res els lp M)).2 := fun lp M => gd_hid (L4 lp M)
  have b3 : ∀ lp M, Gd (szL init) M (hid M (ckL E res init lp M)).2 := fun lp M => gd_hid (L1 lp M)
  have b4 : ∀ lp M, Gd (szL step) M (hid M (ckL E res step lp M)).2 := fun lp M => gd_hid (L2 lp M)
  split
  · exact (gd_thc (Gd.refl 0 L) fun M => gd_decl M b s nm hnm).mono (by omega)
  split
  · exact Gd.refl _ _
  split
  · exact Gd.refl _ _
  split
  · exact Gd.refl _ _
  split
  · exact Gd.refl _ _
  split
  · exact (gd_thc (Gd.refl 0 L) fun M => gd_thc (b1 lp M) fun N => b2 lp N).mono (by omega)
  split
  · exact (gd_thc (Gd.refl 0 L) fun M => b1 (lp + 1) M).mono (by omega)
  split
  · exact (gd_thc (b3 lp L) fun M => gd_thc (Gd.refl 0 M) fun N => gd_thc (b4 lp N) fun O => b1 (lp + 1) O).mono (by omega)
  split
  · exact (b1 lp L).mono (by omega)
  · exact Gd.refl _ _
end Go.Proofs.YtaidefdbjcgcbaaGreat
