/-
  The document's machine: a step.
-/
import Derived.Test.YtjlbenbfmookoaaR3Sa
import Derived.Test.YtjlbenbfmookoaaR3Sc
import Derived.Test.YtjlbenbfmookoaaR3Se
import Derived.Test.YtjlbenbfmookoaaR3Sfz
namespace Go.Proofs.Ytjlbenbfmookoaa
open Go.RowKit
set_option linter.unusedSimpArgs false
set_option linter.unusedVariables false

/-- A step that has been counted. -/
def stp (m : Ma) (xs bs : List Int) : Ma :=
  if (oneA xs m.pc).2 = 0 then { m with how := 4 }
  else
    let m2 := ({ m with pc := lw (m.pc + (oneA xs m.pc).2) } : Ma).act (oneA xs m.pc).1 bs
    if m2.how = 0 then m2 else { m2 with pc := m.pc }
theorem stp_step (m : Ma) (xs bs : List Int) : stp { m with took := m.took + 1 } xs bs = m.step xs bs := rfl
theorem BX.how {w0 w : World} {p q n : Nat} {vc vm vi vo : Value} {m : Ma} {ms xs bs : List Int} (h : BX w0 w p q n vc vm vi vo m ms xs bs) (x : Int) : BX w0 w p q n vc vm vi vo { m with how := x } ms xs bs :=
  ⟨h.box, h.hp, h.hq, h.hpq, h.map, h.code, h.mem0, h.inp, h.low, h.own, h.ho, { h.fine with }⟩
theorem SRet.how {w0 w' : World} {p q n : Nat} {vc vm vi : Value} {ms xs bs : List Int} {y : Int} {m : Ma} {e : Ending} (h : SRet w0 p q n vc vm vi ms xs bs y m e w') (x : Int) : SRet w0 p q n vc vm vi ms xs bs y { m with how := x } e w' := by
  obtain ⟨vo, n', h1, h2, h3⟩ := h
  exact ⟨vo, n', h1, h2, h3.how x⟩
section
variable {m : Ma} {xs bs : List Int} {i : Ins} {k : Int}
theorem stp_go (R : oneA xs m.pc = (i, k)) (hk : k ≠ 0) {m2 : Ma} (h : ({ m with pc := lw (m.pc + k) } : Ma).act i bs = m2) (h0 : m2.how = 0) : stp m xs bs = m2 := by
  unfold stp
  rw [R]
  dsimp only
  rw [if_neg hk, h, if_pos h0]
theorem stp_stop (R : oneA xs m.pc = (i, k)) (hk : k ≠ 0) {m2 : Ma} (h : ({ m with pc := lw (m.pc + k) } : Ma).act i bs = m2) (h0 : ¬ m2.how = 0) : stp m xs bs = { m2 with pc := m.pc } := by
  unfold stp
  rw [R]
  dsimp only
  rw [if_neg hk, h, if_neg h0]
theorem stp_bad (R : oneA xs m.pc = (i, 0)) : stp m xs bs = { m with how := 4 } := by
  unfold stp
  rw [R]
  rfl
end
theorem step3_any {w0 w : World} {p q n : Nat} {vc vm vi vo : Value} {m : Ma} {ms xs bs : List Int} (h : BX w0 w p q n vc vm vi vo m ms xs bs) (hh : m.how = 0) (hn : n < 2000000) :
    Calls Try.prog 31 #[.pointer (some ⟨p, 0, none⟩)] w fun e w' => SRet w0 p q n vc vm vi ms xs bs (stp m xs bs).how (stp m xs bs) e w' := by
  have OK := oneA_ok xs m.pc
  generalize hR : oneA xs m.pc = R at *
  obtain ⟨⟨o, d, s, mm⟩, k⟩ := R
  dsimp only at OK
  by_cases hk : k = 0
  · subst hk
    rw [stp_bad hR]
    refine (sxbad h o d s mm hR).mono ?_
    intro e w' hr
    exact hr.how 4
  · obtain ⟨o0, o1, hd, hd', hs, hs', hm, hk1, hk2⟩ := OK hk
    have ho : o = 0 ∨ o = 1 ∨ o = 2 ∨ o = 3 ∨ o = 4 ∨ o = 5 ∨ o = 6 ∨ o = 7 ∨ o = 8 ∨ o = 9 ∨ o = 10 ∨ o = 11 ∨ o = 12 ∨ o = 13 ∨ o = 14 ∨ o = 15 ∨ o = 16 ∨ o = 17 ∨ o = 18 ∨ o = 19 ∨ o = 20 ∨ o = 21 ∨ o = 22 ∨ o = 23 ∨ o = 24 ∨ o = 25 ∨ o = 26 ∨ o = 27 ∨ o = 28 ∨ o = 29 ∨ o = 30 ∨ o = 31 ∨ o = 32 := by omega
    rcases ho with rfl | rfl | rfl | rfl | rfl | rfl | rfl | rfl | rfl | rfl | rfl | rfl | rfl | rfl | rfl | rfl | rfl | rfl | rfl | rfl | rfl | rfl | rfl | rfl | rfl | rfl | rfl | rfl | rfl | rfl | rfl | rfl | rfl
    · refine (sx0 h d s mm k hR hd hd' hs hs' hm hk1 hk2 hn).mono ?_
      intro e w' hr
      have e1 : stp m xs bs = { m with how := 1 } := stp_stop hR hk (m2 := { m with how := 1, pc := lw (m.pc + k) }) (by rfl) (by show ¬ (1 : Int) = 0; decide)
      rw [e1]
      exact hr.how 1
    · refine (sx1 h d s mm k hR hd hd' hs hs' hm hk1 hk2 hn).mono ?_
      intro e w' hr
      have e1 : stp m xs bs = ({ m.setR d (m.reg s) with pc := lw (m.pc + k) } : Ma) := stp_go hR hk (by rfl) hh
      rw [e1]
      exact (show (({ m.setR d (m.reg s) with pc := lw (m.pc + k) } : Ma) : Ma).how = 0 from hh) ▸ hr
    · refine (sx2 h d s mm k hR hd hd' hs hs' hm hk1 hk2 hn).mono ?_
      intro e w' hr
      have e1 : stp m xs bs = ({ m.setR d mm with pc := lw (m.pc + k) } : Ma) := stp_go hR hk (by rfl) hh
      rw [e1]
      exact (show (({ m.setR d mm with pc := lw (m.pc + k) } : Ma) : Ma).how = 0 from hh) ▸ hr
    · refine (sx3 h d s mm k hR hd hd' hs hs' hm hk1 hk2 hn).mono ?_
      intro e w' hr
      have e1 : stp m xs bs = ({ m.setR d (m.ld (lw (m.reg s + mm))) with pc := lw (m.pc + k) } : Ma) := stp_go hR hk (by rfl) hh
      rw [e1]
      exact (show (({ m.setR d (m.ld (lw (m.reg s + mm))) with pc := lw (m.pc + k) } : Ma) : Ma).how = 0 from hh) ▸ hr
    · refine (sx4 h d s mm k hR hd hd' hs hs' hm hk1 hk2 hn).mono ?_
      intro e w' hr
      have e1 : stp m xs bs = ({ m.st (lw (m.reg d + mm)) (m.reg s) with pc := lw (m.pc + k) } : Ma) := stp_go hR hk (by rfl) hh
      rw [e1]
      exact (show (({ m.st (lw (m.reg d + mm)) (m.reg s) with pc := lw (m.pc + k) } : Ma) : Ma).how = 0 from hh) ▸ hr
    · refine (sx5 h d s mm k hR hd hd' hs hs' hm hk1 hk2 hn).mono ?_
      intro e w' hr
      have e1 : stp m xs bs = ({ m.sum d (m.reg d) (m.reg s) false with pc := lw (m.pc + k) } : Ma) := stp_go hR hk (by rfl) hh
      rw [e1]
      exact (show (({ m.sum d (m.reg d) (m.reg s) false with pc := lw (m.pc + k) } : Ma) : Ma).how = 0 from hh) ▸ hr
    · refine (sx6 h d s mm k hR hd hd' hs hs' hm hk1 hk2 hn).mono ?_
      intro e w' hr
      have e1 : stp m xs bs = ({ m.sum d (m.reg d) (m.reg s) m.c with pc := lw (m.pc + k) } : Ma) := stp_go hR hk (by rfl) hh
      rw [e1]
      exact (show (({ m.sum d (m.reg d) (m.reg s) m.c with pc := lw (m.pc + k) } : Ma) : Ma).how = 0 from hh) ▸ hr
    · refine (sx7 h d s mm k hR hd hd' hs hs' hm hk1 hk2 hn).mono ?_
      intro e w' hr
      have e1 : stp m xs bs = ({ m.dif d (m.reg d) (m.reg s) false with pc := lw (m.pc + k) } : Ma) := stp_go hR hk (by rfl) hh
      rw [e1]
      exact (show (({ m.dif d (m.reg d) (m.reg s) false with pc := lw (m.pc + k) } : Ma) : Ma).how = 0 from hh) ▸ hr
    · refine (sx8 h d s mm k hR hd hd' hs hs' hm hk1 hk2 hn).mono ?_
      intro e w' hr
      have e1 : stp m xs bs = ({ m.dif d (m.reg d) (m.reg s) m.c with pc := lw (m.pc + k) } : Ma) := stp_go hR hk (by rfl) hh
      rw [e1]
      exact (show (({ m.dif d (m.reg d) (m.reg s) m.c with pc := lw (m.pc + k) } : Ma) : Ma).how = 0 from hh) ▸ hr
    · refine (sx9 h d s mm k hR hd hd' hs hs' hm hk1 hk2 hn).mono ?_
      intro e w' hr
      have e1 : stp m xs bs = ({ m.become d (andI (m.reg d) (m.reg s)) false with pc := lw (m.pc + k) } : Ma) := stp_go hR hk (by rfl) hh
      rw [e1]
      exact (show (({ m.become d (andI (m.reg d) (m.reg s)) false with pc := lw (m.pc + k) } : Ma) : Ma).how = 0 from hh) ▸ hr
    · refine (sx10 h d s mm k hR hd hd' hs hs' hm hk1 hk2 hn).mono ?_
      intro e w' hr
      have e1 : stp m xs bs = ({ m.become d (orI (m.reg d) (m.reg s)) false with pc := lw (m.pc + k) } : Ma) := stp_go hR hk (by rfl) hh
      rw [e1]
      exact (show (({ m.become d (orI (m.reg d) (m.reg s)) false with pc := lw (m.pc + k) } : Ma) : Ma).how = 0 from hh) ▸ hr
    · refine (sx11 h d s mm k hR hd hd' hs hs' hm hk1 hk2 hn).mono ?_
      intro e w' hr
      have e1 : stp m xs bs = ({ m.become d (xorI (m.reg d) (m.reg s)) false with pc := lw (m.pc + k) } : Ma) := stp_go hR hk (by rfl) hh
      rw [e1]
      exact (show (({ m.become d (xorI (m.reg d) (m.reg s)) false with pc := lw (m.pc + k) } : Ma) : Ma).how = 0 from hh) ▸ hr
    · refine (sx12 h d s mm k hR hd hd' hs hs' hm hk1 hk2 hn).mono ?_
      intro e w' hr
      have e1 : stp m xs bs = ({ m.cmp (m.reg d) (m.reg s) false with pc := lw (m.pc + k) } : Ma) := stp_go hR hk (by rfl) hh
      rw [e1]
      exact (show (({ m.cmp (m.reg d) (m.reg s) false with pc := lw (m.pc + k) } : Ma) : Ma).how = 0 from hh) ▸ hr
    · cases hj : m.z
      · refine (sx13f h d s mm k hR hd hd' hs hs' hm hk1 hk2 hn hj).mono ?_
        intro e w' hr
        have e1 : stp m xs bs = ({ m.cmp (m.reg d) (m.reg s) m.c with z := (m.cmp (m.reg d) (m.reg s) m.c).z && false, pc := lw (m.pc + k) } : Ma) := stp_go hR hk (by rw [← hj]; rfl) hh
        rw [e1]
        exact (show (({ m.cmp (m.reg d) (m.reg s) m.c with z := (m.cmp (m.reg d) (m.reg s) m.c).z && false, pc := lw (m.pc + k) } : Ma) : Ma).how = 0 from hh) ▸ hr
      · refine (sx13t h d s mm k hR hd hd' hs hs' hm hk1 hk2 hn hj).mono ?_
        intro e w' hr
        have e1 : stp m xs bs = ({ m.cmp (m.reg d) (m.reg s) m.c with z := (m.cmp (m.reg d) (m.reg s) m.c).z && true, pc := lw (m.pc + k) } : Ma) := stp_go hR hk (by rw [← hj]; rfl) hh
        rw [e1]
        exact (show (({ m.cmp (m.reg d) (m.reg s) m.c with z := (m.cmp (m.reg d) (m.reg s) m.c).z && true, pc := lw (m.pc + k) } : Ma) : Ma).how = 0 from hh) ▸ hr
    · refine (sx14 h d s mm k hR hd hd' hs hs' hm hk1 hk2 hn).mono ?_
      intro e w' hr
      have e1 : stp m xs bs = ({ m.become d (upb (m.reg d) 0) (m.reg d / 32768 == 1) with pc := lw (m.pc + k) } : Ma) := stp_go hR hk (by rfl) hh
      rw [e1]
      exact (show (({ m.become d (upb (m.reg d) 0) (m.reg d / 32768 == 1) with pc := lw (m.pc + k) } : Ma) : Ma).how = 0 from hh) ▸ hr
    · refine (sx15 h d s mm k hR hd hd' hs hs' hm hk1 hk2 hn).mono ?_
      intro e w' hr
      have e1 : stp m xs bs = ({ m.become d (upb (m.reg d) (oi m.c)) (m.reg d / 32768 == 1) with pc := lw (m.pc + k) } : Ma) := stp_go hR hk (by rfl) hh
      rw [e1]
      exact (show (({ m.become d (upb (m.reg d) (oi m.c)) (m.reg d / 32768 == 1) with pc := lw (m.pc + k) } : Ma) : Ma).how = 0 from hh) ▸ hr
    · refine (sx16 h d s mm k hR hd hd' hs hs' hm hk1 hk2 hn).mono ?_
      intro e w' hr
      have e1 : stp m xs bs = ({ m.become d (dnb (m.reg d) 0) (m.reg d % 2 == 1) with pc := lw (m.pc + k) } : Ma) := stp_go hR hk (by rfl) hh
      rw [e1]
      exact (show (({ m.become d (dnb (m.reg d) 0) (m.reg d % 2 == 1) with pc := lw (m.pc + k) } : Ma) : Ma).how = 0 from hh) ▸ hr
    · refine (sx17 h d s mm k hR hd hd' hs hs' hm hk1 hk2 hn).mono ?_
      intro e w' hr
      have e1 : stp m xs bs = ({ m.become d (dnb (m.reg d) (m.reg d / 32768)) (m.reg d % 2 == 1) with pc := lw (m.pc + k) } : Ma) := stp_go hR hk (by rfl) hh
      rw [e1]
      exact (show (({ m.become d (dnb (m.reg d) (m.reg d / 32768)) (m.reg d % 2 == 1) with pc := lw (m.pc + k) } : Ma) : Ma).how = 0 from hh) ▸ hr
    · refine (sx18 h d s mm k hR hd hd' hs hs' hm hk1 hk2 hn).mono ?_
      intro e w' hr
      have e1 : stp m xs bs = ({ m.become d (dnb (m.reg d) (oi m.c)) (m.reg d % 2 == 1) with pc := lw (m.pc + k) } : Ma) := stp_go hR hk (by rfl) hh
      rw [e1]
      exact (show (({ m.become d (dnb (m.reg d) (oi m.c)) (m.reg d % 2 == 1) with pc := lw (m.pc + k) } : Ma) : Ma).how = 0 from hh) ▸ hr
    · refine (sx19 h d s mm k hR hd hd' hs hs' hm hk1 hk2 hn).mono ?_
      intro e w' hr
      have e1 : stp m xs bs = ({ m with pc := mm } : Ma) := stp_go hR hk (by rfl) hh
      rw [e1]
      exact (show (({ m with pc := mm } : Ma) : Ma).how = 0 from hh) ▸ hr
    · cases hj : m.z
      · refine (sx20n h d s mm k hR hd hd' hs hs' hm hk1 hk2 hn hj).mono ?_
        intro e w' hr
        have e1 : stp m xs bs = ({ m with pc := lw (m.pc + k) } : Ma) := stp_go hR hk (by show Ma.jump _ (m.z) mm = _; rw [hj]; rfl) hh
        rw [e1]
        exact (show (({ m with pc := lw (m.pc + k) } : Ma) : Ma).how = 0 from hh) ▸ hr
      · refine (sx20y h d s mm k hR hd hd' hs hs' hm hk1 hk2 hn hj).mono ?_
        intro e w' hr
        have e1 : stp m xs bs = ({ m with pc := mm } : Ma) := stp_go hR hk (by show Ma.jump _ (m.z) mm = _; rw [hj]; rfl) hh
        rw [e1]
        exact (show (({ m with pc := mm } : Ma) : Ma).how = 0 from hh) ▸ hr
    · cases hj : m.z
      · refine (sx21y h d s mm k hR hd hd' hs hs' hm hk1 hk2 hn hj).mono ?_
        intro e w' hr
        have e1 : stp m xs bs = ({ m with pc := mm } : Ma) := stp_go hR hk (by show Ma.jump _ (!m.z) mm = _; rw [hj]; rfl) hh
        rw [e1]
        exact (show (({ m with pc := mm } : Ma) : Ma).how = 0 from hh) ▸ hr
      · refine (sx21n h d s mm k hR hd hd' hs hs' hm hk1 hk2 hn hj).mono ?_
        intro e w' hr
        have e1 : stp m xs bs = ({ m with pc := lw (m.pc + k) } : Ma) := stp_go hR hk (by show Ma.jump _ (!m.z) mm = _; rw [hj]; rfl) hh
        rw [e1]
        exact (show (({ m with pc := lw (m.pc + k) } : Ma) : Ma).how = 0 from hh) ▸ hr
    · cases hj : m.c
      · refine (sx22n h d s mm k hR hd hd' hs hs' hm hk1 hk2 hn hj).mono ?_
        intro e w' hr
        have e1 : stp m xs bs = ({ m with pc := lw (m.pc + k) } : Ma) := stp_go hR hk (by show Ma.jump _ (m.c) mm = _; rw [hj]; rfl) hh
        rw [e1]
        exact (show (({ m with pc := lw (m.pc + k) } : Ma) : Ma).how = 0 from hh) ▸ hr
      · refine (sx22y h d s mm k hR hd hd' hs hs' hm hk1 hk2 hn hj).mono ?_
        intro e w' hr
        have e1 : stp m xs bs = ({ m with pc := mm } : Ma) := stp_go hR hk (by show Ma.jump _ (m.c) mm = _; rw [hj]; rfl) hh
        rw [e1]
        exact (show (({ m with pc := mm } : Ma) : Ma).how = 0 from hh) ▸ hr
    · cases hj : m.c
      · refine (sx23y h d s mm k hR hd hd' hs hs' hm hk1 hk2 hn hj).mono ?_
        intro e w' hr
        have e1 : stp m xs bs = ({ m with pc := mm } : Ma) := stp_go hR hk (by show Ma.jump _ (!m.c) mm = _; rw [hj]; rfl) hh
        rw [e1]
        exact (show (({ m with pc := mm } : Ma) : Ma).how = 0 from hh) ▸ hr
      · refine (sx23n h d s mm k hR hd hd' hs hs' hm hk1 hk2 hn hj).mono ?_
        intro e w' hr
        have e1 : stp m xs bs = ({ m with pc := lw (m.pc + k) } : Ma) := stp_go hR hk (by show Ma.jump _ (!m.c) mm = _; rw [hj]; rfl) hh
        rw [e1]
        exact (show (({ m with pc := lw (m.pc + k) } : Ma) : Ma).how = 0 from hh) ▸ hr
    · cases hj : (m.n != m.v)
      · refine (sx24 h d s mm k hR hd hd' hs hs' hm hk1 hk2 hn m.n m.v rfl rfl).mono ?_
        intro e w' hr
        rw [hj] at hr
        have e1 : stp m xs bs = ({ m with pc := lw (m.pc + k) } : Ma) := stp_go hR hk (by show Ma.jump _ (m.n != m.v) mm = _; rw [hj]; rfl) hh
        rw [e1]
        exact (show (({ m with pc := lw (m.pc + k) } : Ma) : Ma).how = 0 from hh) ▸ hr
      · refine (sx24 h d s mm k hR hd hd' hs hs' hm hk1 hk2 hn m.n m.v rfl rfl).mono ?_
        intro e w' hr
        rw [hj] at hr
        have e1 : stp m xs bs = ({ m with pc := mm } : Ma) := stp_go hR hk (by show Ma.jump _ (m.n != m.v) mm = _; rw [hj]; rfl) hh
        rw [e1]
        exact (show (({ m with pc := mm } : Ma) : Ma).how = 0 from hh) ▸ hr
    · cases hj : (m.n == m.v)
      · refine (sx25 h d s mm k hR hd hd' hs hs' hm hk1 hk2 hn m.n m.v rfl rfl).mono ?_
        intro e w' hr
        rw [hj] at hr
        have e1 : stp m xs bs = ({ m with pc := lw (m.pc + k) } : Ma) := stp_go hR hk (by show Ma.jump _ (m.n == m.v) mm = _; rw [hj]; rfl) hh
        rw [e1]
        exact (show (({ m with pc := lw (m.pc + k) } : Ma) : Ma).how = 0 from hh) ▸ hr
      · refine (sx25 h d s mm k hR hd hd' hs hs' hm hk1 hk2 hn m.n m.v rfl rfl).mono ?_
        intro e w' hr
        rw [hj] at hr
        have e1 : stp m xs bs = ({ m with pc := mm } : Ma) := stp_go hR hk (by show Ma.jump _ (m.n == m.v) mm = _; rw [hj]; rfl) hh
        rw [e1]
        exact (show (({ m with pc := mm } : Ma) : Ma).how = 0 from hh) ▸ hr
    · refine (sx26 h d s mm k hR hd hd' hs hs' hm hk1 hk2 hn).mono ?_
      intro e w' hr
      have e1 : stp m xs bs = ({ m.push (lw (m.pc + k)) with pc := mm } : Ma) := stp_go hR hk (by rfl) hh
      rw [e1]
      exact (show (({ m.push (lw (m.pc + k)) with pc := mm } : Ma) : Ma).how = 0 from hh) ▸ hr
    · refine (sx27 h d s mm k hR hd hd' hs hs' hm hk1 hk2 hn).mono ?_
      intro e w' hr
      have e1 : stp m xs bs = ({ m.pop with pc := m.ld (m.reg 7) } : Ma) := stp_go hR hk (by rfl) hh
      rw [e1]
      exact (show (({ m.pop with pc := m.ld (m.reg 7) } : Ma) : Ma).how = 0 from hh) ▸ hr
    · refine (sx28 h d s mm k hR hd hd' hs hs' hm hk1 hk2 hn).mono ?_
      intro e w' hr
      have e1 : stp m xs bs = ({ m.push (m.reg s) with pc := lw (m.pc + k) } : Ma) := stp_go hR hk (by rfl) hh
      rw [e1]
      exact (show (({ m.push (m.reg s) with pc := lw (m.pc + k) } : Ma) : Ma).how = 0 from hh) ▸ hr
    · refine (sx29 h d s mm k hR hd hd' hs hs' hm hk1 hk2 hn).mono ?_
      intro e w' hr
      have e1 : stp m xs bs = ({ m.pop.setR d (m.ld (m.reg 7)) with pc := lw (m.pc + k) } : Ma) := stp_go hR hk (by rfl) hh
      rw [e1]
      exact (show (({ m.pop.setR d (m.ld (m.reg 7)) with pc := lw (m.pc + k) } : Ma) : Ma).how = 0 from hh) ▸ hr
    · by_cases hf : m.out.length = 65536
      · refine (sx30f h d s mm k hR hd hd' hs hs' hm hk1 hk2 hn hf).mono ?_
        intro e w' hr
        have e1 : stp m xs bs = { m with how := 5 } := stp_stop hR hk (m2 := { m with how := 5, pc := lw (m.pc + k) }) (by show Ma.tell _ _ = _; unfold Ma.tell; rw [if_pos hf]) (by show ¬ (5 : Int) = 0; decide)
        rw [e1]
        exact hr.how 5
      · have hl := h.fine.out
        refine (sx30n h d s mm k hR hd hd' hs hs' hm hk1 hk2 hn (by omega)).mono ?_
        intro e w' hr
        have e1 : stp m xs bs = ({ m with out := m.out ++ [m.reg s % 256], pc := lw (m.pc + k) } : Ma) := stp_go hR hk (by show Ma.tell _ _ = _; unfold Ma.tell; rw [if_neg hf]; rfl) hh
        rw [e1]
        exact (show (({ m with out := m.out ++ [m.reg s % 256], pc := lw (m.pc + k) } : Ma) : Ma).how = 0 from hh) ▸ hr
    · by_cases hf : m.rd = bs.length
      · refine (sx31e h d s mm k hR hd hd' hs hs' hm hk1 hk2 hn hf).mono ?_
        intro e w' hr
        have e1 : stp m xs bs = ({ Ma.setR { m with c := true } d 0 with pc := lw (m.pc + k) } : Ma) := stp_go hR hk (by show Ma.setR (Ma.take _ bs) d (Ma.took1 _ bs) = _; unfold Ma.take Ma.took1; rw [if_pos hf, if_pos hf]; rfl) hh
        rw [e1]
        exact (show (({ Ma.setR { m with c := true } d 0 with pc := lw (m.pc + k) } : Ma) : Ma).how = 0 from hh) ▸ hr
      · have hl := h.fine.rd
        refine (sx31n h d s mm k hR hd hd' hs hs' hm hk1 hk2 hn (by omega)).mono ?_
        intro e w' hr
        have e1 : stp m xs bs = ({ Ma.setR { m with c := false, rd := m.rd + 1 } d (bs.getD m.rd 0) with pc := lw (m.pc + k) } : Ma) := stp_go hR hk (by show Ma.setR (Ma.take _ bs) d (Ma.took1 _ bs) = _; unfold Ma.take Ma.took1; rw [if_neg hf, if_neg hf]; rfl) hh
        rw [e1]
        exact (show (({ Ma.setR { m with c := false, rd := m.rd + 1 } d (bs.getD m.rd 0) with pc := lw (m.pc + k) } : Ma) : Ma).how = 0 from hh) ▸ hr
    · refine (sx32 h d s mm k hR hd hd' hs hs' hm hk1 hk2 hn).mono ?_
      intro e w' hr
      have e1 : stp m xs bs = { m with how := 2, trap := mm } := stp_stop hR hk (m2 := { m with how := 2, trap := mm, pc := lw (m.pc + k) }) (by rfl) (by show ¬ (2 : Int) = 0; decide)
      rw [e1]
      exact hr.how 2
end Go.Proofs.Ytjlbenbfmookoaa
