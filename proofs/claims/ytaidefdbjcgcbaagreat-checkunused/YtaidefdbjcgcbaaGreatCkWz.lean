/-
  Programs as a whole: statements, the other kinds.
-/
import Derived.Test.YtaidefdbjcgcbaaGreatCkTz
namespace Go.Proofs.YtaidefdbjcgcbaaGreat
open Go.RowKit Go.Maps Go.Great
set_option linter.unusedSimpArgs false
set_option linter.unusedVariables false

set_option maxRecDepth 100000 in
set_option maxHeartbeats 2000000 in
theorem cst_6 (E : Nev) (res : Int × Bool) (x : Sm) (v : Sv) (hk : x.k = 6) (B : Nat) (w : World) (sb vb fb lb : Nat) (wd : Int) (L : Loc) (lp : Nat) (I3 : ∀ y ∈ x.body, CkSm E res y) (N3 : ∀ y ∈ x.body, NmS y) (ok : OpOk L) (ho : TyC x.x) (hfr : L.fr + 4 * (szL x.body : Int) ≤ 1000000) (hlp : lp + 1 + szL x.body ≤ 1000000) (h : Sc B w sb vb fb lb wd E L res lp) (hs : SvL B w x v) (hf : SmF x) :
    Calls Tryz.prog 52 #[.pointer (some ⟨sb, 0, none⟩), .agg (smA x v)] w fun e w' => ScR B w sb vb fb lb wd E res lp (thc (tellC E L x.x, L) fun L => hid L (ckL E res x.body (lp + 1) L)) e w' := by
  have S := hideI (Sk.begin h hs hf)
  have CT := hideI (fun (W : World) (s : Sk B w W sb vb fb lb wd E L res lp x v) => tells_any x.x ho B W sb vb fb lb wd E L res lp v.xk s.sc s.sv.hx s.ok.2.1)
  have CB := hideI (fun (W : World) (s : Sk B w W sb vb fb lb wd E L res lp x v) => cloop_any E res x.body I3 N3 B W sb vb fb lb wd L lp v.body s.sc s.sv.h3 ok hfr hlp)
  clear h hs hf ho I3 N3 hfr hlp ok
  obtain ⟨R, hR⟩ : ∃ R, R = thc (tellC E L x.x, L) fun L => hid L (ckL E res x.body (lp + 1) L) := ⟨_, rfl⟩
  rw [← hR]
  generalize hA : smA x v = A at *
  generalize hW : w.alloc (.cells A 103) = W0 at *
  have hs0 : w.heap.size < W0.heap.size := (unhideI S).bx.lt
  have c0 := (unhideI S).bx.own.1
  rw [hk] at c0
  obtain ⟨p0, p1, p2, p3, p4, p5⟩ := (unhideI S).bx.exX
  have C0 := hideI (unhideI CT W0 (unhideI S))
  generalize tellC E L x.x = P at *
  have HR := hideI hR
  clear hR CT
  go_enter Tryz.func52, Tryz.ntmps52
  go_wp2_with (first | (refine wpList_boxTo rfl 103 (.tmp 1) rfl (some 3) rfl _ rfl A rfl ?_; rw [hW]))
  refine (unhideI C0).mono ?_
  rintro e W1 ⟨rfl, k1⟩
  have S1 := hideI ((unhideI S).step k1)
  clear C0 S k1 hs0 c0 p0 p1 p2 p3 p4 p5
  by_cases h1 : P = 0
  rotate_left
  · obtain rfl : R = (P, L) := by rw [unhideI HR]; exact if_pos h1
    have b1 : (P != 0) = true := bne_iff_ne.2 h1
    clear h1 HR CB
    go_wp2_with fail
    go_ret
    exact ⟨rfl, (unhideI S1).sc, (unhideI S1).wk⟩
  subst h1
  have hR4 : R = hid L (ckL E res x.body (lp + 1) L) := by rw [unhideI HR]; exact if_neg (show ¬ ((0 : Int) ≠ 0) by decide)
  have D0 := unhideI CB W1 (unhideI S1)
  rw [← hR4] at D0
  have D1 := hideI D0
  obtain ⟨c0, c1, c2, c3⟩ := (unhideI S1).bx.lists
  have hs1 : w.heap.size < W1.heap.size := (unhideI S1).bx.lt
  clear hR4 D0 HR CB
  go_wp2_with fail
  refine (unhideI D1).mono ?_
  rintro e W3 ⟨rfl, sc3, k3⟩
  have Z := hideI (And.intro sc3 ((unhideI S1).wk.trans k3))
  clear D1 S1 sc3 k3 c0 c1 c2 c3 hs1
  go_wp2_with fail
  go_ret
  exact ⟨rfl, (unhideI Z).1, (unhideI Z).2⟩
set_option maxRecDepth 100000 in
set_option maxHeartbeats 2000000 in
theorem cst_11 (E : Nev) (res : Int × Bool) (x : Sm) (v : Sv) (hk : x.k = 11) (B : Nat) (w : World) (sb vb fb lb : Nat) (wd : Int) (L : Loc) (lp : Nat) (I3 : ∀ y ∈ x.body, CkSm E res y) (N3 : ∀ y ∈ x.body, NmS y) (ok : OpOk L) (hfr : L.fr + 4 * (szL x.body : Int) ≤ 1000000) (hlp : lp + szL x.body ≤ 1000000) (h : Sc B w sb vb fb lb wd E L res lp) (hs : SvL B w x v) (hf : SmF x) :
    Calls Tryz.prog 52 #[.pointer (some ⟨sb, 0, none⟩), .agg (smA x v)] w fun e w' => ScR B w sb vb fb lb wd E res lp (hid L (ckL E res x.body lp L)) e w' := by
  have S := hideI (Sk.begin h hs hf)
  have CB := hideI (fun (W : World) (s : Sk B w W sb vb fb lb wd E L res lp x v) => cblock_any E res x.body I3 N3 B W sb vb fb lb wd L lp v.body s.sc s.sv.h3 ok hfr hlp)
  clear h hs hf I3 N3 hfr hlp ok
  generalize hid L (ckL E res x.body lp L) = R at *
  generalize hA : smA x v = A at *
  generalize hW : w.alloc (.cells A 103) = W0 at *
  have hs0 : w.heap.size < W0.heap.size := (unhideI S).bx.lt
  have k0 := (unhideI S).bx.own.1
  rw [hk] at k0
  obtain ⟨c0, c1, c2, c3⟩ := (unhideI S).bx.lists
  have D1 := hideI (unhideI CB W0 (unhideI S))
  clear CB
  go_enter Tryz.func52, Tryz.ntmps52
  go_wp2_with (first | (refine wpList_boxTo rfl 103 (.tmp 1) rfl (some 3) rfl _ rfl A rfl ?_; rw [hW]))
  refine (unhideI D1).mono ?_
  rintro e W3 ⟨rfl, sc3, k3⟩
  have Z := hideI (And.intro sc3 ((unhideI S).wk.trans k3))
  clear D1 S sc3 k3 c0 c1 c2 c3 hs0 k0
  go_wp2_with fail
  go_ret
  exact ⟨rfl, (unhideI Z).1, (unhideI Z).2⟩
end Go.Proofs.YtaidefdbjcgcbaaGreat

/-
  Programs as a whole: statements, the last kinds.
-/
namespace Go.Proofs.YtaidefdbjcgcbaaGreat
open Go.RowKit Go.Maps Go.Great
set_option linter.unusedSimpArgs false
set_option linter.unusedVariables false

set_option maxRecDepth 100000 in
set_option maxHeartbeats 2000000 in
theorem cst_4 (E : Nev) (res : Int × Bool) (x : Sm) (v : Sv) (hk : x.k = 4) (B : Nat) (w : World) (sb vb fb lb : Nat) (wd : Int) (L : Loc) (lp : Nat) (ho : TyC x.x) (h : Sc B w sb vb fb lb wd E L res lp) (hs : SvL B w x v) (hf : SmF x) :
    Calls Tryz.prog 52 #[.pointer (some ⟨sb, 0, none⟩), .agg (smA x v)] w fun e w' => ScR B w sb vb fb lb wd E res lp ((tyE E L x.x).2, L) e w' := by
  have S := hideI (Sk.begin h hs hf)
  have CT := hideI (fun (W : World) (s : Sk B w W sb vb fb lb wd E L res lp x v) => ho B W sb vb fb lb wd E L res lp v.xk s.sc s.sv.hx s.ok.2.1)
  clear h hs hf ho
  generalize hA : smA x v = A at *
  generalize hW : w.alloc (.cells A 103) = W0 at *
  have hs0 : w.heap.size < W0.heap.size := (unhideI S).bx.lt
  have c0 := (unhideI S).bx.own.1
  rw [hk] at c0
  obtain ⟨p0, p1, p2, p3, p4, p5⟩ := (unhideI S).bx.exX
  have C0 := hideI (unhideI CT W0 (unhideI S))
  generalize tyE E L x.x = P at *
  obtain ⟨⟨tb, ts⟩, er⟩ := P
  clear CT
  go_enter Tryz.func52, Tryz.ntmps52
  go_wp2_with (first | (refine wpList_boxTo rfl 103 (.tmp 1) rfl (some 3) rfl _ rfl A rfl ?_; rw [hW]))
  refine (unhideI C0).mono ?_
  rintro e W1 ⟨rfl, k1⟩
  have S1 := hideI ((unhideI S).step k1)
  clear C0 S k1 hs0 c0 p0 p1 p2 p3 p4 p5
  go_wp2_with fail
  go_ret
  have S3 := (unhideI S1).step (below_a W1 (.cells #[.int .i64 tb, .bool ts] 34))
  exact ⟨rfl, S3.sc, S3.wk⟩
set_option maxRecDepth 100000 in
set_option maxHeartbeats 2000000 in
theorem cst_9 (E : Nev) (res : Int × Bool) (x : Sm) (v : Sv) (hk : x.k = 9 ∨ x.k = 10) (B : Nat) (w : World) (sb vb fb lb : Nat) (wd : Int) (L : Loc) (lp : Nat) (h : Sc B w sb vb fb lb wd E L res lp) (hs : SvL B w x v) (hf : SmF x) :
    Calls Tryz.prog 52 #[.pointer (some ⟨sb, 0, none⟩), .agg (smA x v)] w fun e w' => ScR B w sb vb fb lb wd E res lp (if lp = 0 then 8 else 0, L) e w' := by
  have S := hideI (Sk.begin h hs hf)
  clear h hs hf
  generalize hA : smA x v = A at *
  generalize hW : w.alloc (.cells A 103) = W0 at *
  have hs0 : w.heap.size < W0.heap.size := (unhideI S).bx.lt
  have c0 := (unhideI S).bx.own.1
  obtain ⟨va, n, h0, -⟩ := (unhideI S).sc.has
  have d6 := box_cells h0 6 _ rfl
  have hsb := h0.lt
  have hl0 : (0 : Int) ≤ (lp : Int) := by omega
  clear h0
  by_cases hz : lp = 0
  · rw [if_pos hz]
    rw [hz] at d6
    rcases hk with hk | hk <;> rw [hk] at c0
    · go_enter Tryz.func52, Tryz.ntmps52
      go_wp2_with (first | (refine wpList_boxTo rfl 103 (.tmp 1) rfl (some 3) rfl _ rfl A rfl ?_; rw [hW]))
      go_ret
      exact ⟨rfl, (unhideI S).sc, (unhideI S).wk⟩
    · go_enter Tryz.func52, Tryz.ntmps52
      go_wp2_with (first | (refine wpList_boxTo rfl 103 (.tmp 1) rfl (some 3) rfl _ rfl A rfl ?_; rw [hW]))
      go_ret
      exact ⟨rfl, (unhideI S).sc, (unhideI S).wk⟩
  · rw [if_neg hz]
    have hzI : ¬ (lp : Int) = 0 := by omega
    clear hz
    rcases hk with hk | hk <;> rw [hk] at c0
    · go_enter Tryz.func52, Tryz.ntmps52
      go_wp2_with (first | (refine wpList_boxTo rfl 103 (.tmp 1) rfl (some 3) rfl _ rfl A rfl ?_; rw [hW]))
      go_ret
      exact ⟨rfl, (unhideI S).sc, (unhideI S).wk⟩
    · go_enter Tryz.func52, Tryz.ntmps52
      go_wp2_with (first | (refine wpList_boxTo rfl 103 (.tmp 1) rfl (some 3) rfl _ rfl A rfl ?_; rw [hW]))
      go_ret
      exact ⟨rfl, (unhideI S).sc, (unhideI S).wk⟩
set_option maxRecDepth 100000 in
set_option maxHeartbeats 2000000 in
theorem cst_0 (E : Nev) (res : Int × Bool) (x : Sm) (v : Sv) (h2 : x.k ≠ 2) (h3 : x.k ≠ 3) (h4 : x.k ≠ 4) (h5 : x.k ≠ 5) (h6 : x.k ≠ 6) (h7 : x.k ≠ 7) (h8 : x.k ≠ 8) (h9 : x.k ≠ 9) (h10 : x.k ≠ 10) (h11 : x.k ≠ 11) (B : Nat) (w : World) (sb vb fb lb : Nat) (wd : Int) (L : Loc) (lp : Nat) (h : Sc B w sb vb fb lb wd E L res lp) (hs : SvL B w x v) (hf : SmF x) :
    Calls Tryz.prog 52 #[.pointer (some ⟨sb, 0, none⟩), .agg (smA x v)] w fun e w' => ScR B w sb vb fb lb wd E res lp (0, L) e w' := by
  have S := hideI (Sk.begin h hs hf)
  clear h hs hf
  generalize hA : smA x v = A at *
  generalize hW : w.alloc (.cells A 103) = W0 at *
  have hs0 : w.heap.size < W0.heap.size := (unhideI S).bx.lt
  have c0 := (unhideI S).bx.own.1
  generalize x.k = k at *
  go_enter Tryz.func52, Tryz.ntmps52
  go_wp2_with (first | (refine wpList_boxTo rfl 103 (.tmp 1) rfl (some 3) rfl _ rfl A rfl ?_; rw [hW]))
  go_ret
  exact ⟨rfl, (unhideI S).sc, (unhideI S).wk⟩
end Go.Proofs.YtaidefdbjcgcbaaGreat

/-
  Programs as a whole: any statement, any block.
-/
namespace Go.Proofs.YtaidefdbjcgcbaaGreat
open Go.RowKit Go.Maps Go.Great
set_option linter.unusedSimpArgs false
set_option linter.unusedVariables false

/-- Of the right form, as far as it is looked at. -/
inductive TvS : Sm → Prop
  | mk (x : Sm) (hx : (x.k = 3 ∨ x.k = 4 ∨ x.k = 5 ∨ x.k = 6) ∨ ((x.k = 2 ∨ x.k = 7 ∨ x.k = 8) ∧ x.has = true) → TvE x.x) (hi : x.k = 3 → x.has = true → TvE x.i) (hb : x.k = 2 → IsW x.b)
      (h1 : x.k = 7 → ∀ y ∈ x.init, TvS y) (h2 : x.k = 7 → ∀ y ∈ x.step, TvS y) (h3 : x.k = 5 ∨ x.k = 6 ∨ x.k = 7 ∨ x.k = 11 → ∀ y ∈ x.body, TvS y) (h4 : x.k = 5 → ∀ y ∈ x.els, TvS y) : TvS x
theorem ckS_eq (E : Nev) (res : Int × Bool) (x : Sm) (lp : Nat) (L : Loc) : ckS E res x lp L =
    if x.k = 2 then thc (perC E L x.has x.x, L) fun L => declC L x.b x.s x.nm
    else if x.k = 3 then (setC E L x.has x.nm x.i x.x, L)
    else if x.k = 4 then ((tyE E L x.x).2, L)
    else if x.k = 8 then (if x.has = decide (res ≠ (0, false)) then perC E L x.has x.x else 9, L)
    else if x.k = 9 ∨ x.k = 10 then (if lp = 0 then 8 else 0, L)
    else if x.k = 5 then thc (tellC E L x.x, L) fun L => thc (hid L (ckL E res x.body lp L)) fun L => hid L (ckL E res x.els lp L)
    else if x.k = 6 then thc (tellC E L x.x, L) fun L => hid L (ckL E res x.body (lp + 1) L)
    else if x.k = 7 then thc (hid L (ckL E res x.init lp L)) fun L => thc (perC E L x.has x.x, L) fun L => thc (hid L (ckL E res x.step lp L)) fun L => hid L (ckL E res x.body (lp + 1) L)
    else if x.k = 11 then hid L (ckL E res x.body lp L)
    else (0, L) := by
  obtain ⟨k, b, s, nm, has, x, i, init, step, body, els⟩ := x
  rw [ckS]
  rfl
theorem cstat_any (E : Nev) (res : Int × Bool) : ∀ x : Sm, TvS x → NmS x → CkSm E res x := by
  apply Sm.ind
  intro x I1 I2 I3 I4 ht hn B w sb vb fb lb wd L lp v h hs hf ok hfr hlp
  obtain ⟨_, hx, hi, hb, h1, h2, h3, h4⟩ := ht
  obtain ⟨_, hnm, n1, n2, n3, n4⟩ := hn
  obtain ⟨z1, z5, z6, z7⟩ := szS_at x
  generalize szS x = z at *
  rw [ckS_eq]
  by_cases k2 : x.k = 2
  · rw [if_pos k2]
    exact cst_2 E res x v k2 B w sb vb fb lb wd L lp (fun o => tyC_any _ (hx (.inr ⟨.inl k2, o⟩))) (hb k2) (by omega) h hs hf
  rw [if_neg k2]
  by_cases k3 : x.k = 3
  · rw [if_pos k3]
    exact cst_3 E res x v k3 B w sb vb fb lb wd L lp (tyC_any _ (hx (.inl (.inl k3)))) (fun o => tyC_any _ (hi k3 o)) h hs hf
  rw [if_neg k3]
  by_cases k4 : x.k = 4
  · rw [if_pos k4]
    exact cst_4 E res x v k4 B w sb vb fb lb wd L lp (tyC_any _ (hx (.inl (.inr (.inl k4))))) h hs hf
  rw [if_neg k4]
  by_cases k8 : x.k = 8
  · rw [if_pos k8]
    exact cst_8 E res x v k8 B w sb vb fb lb wd L lp (fun o => tyC_any _ (hx (.inr ⟨.inr (.inr k8), o⟩))) h hs hf
  rw [if_neg k8]
  by_cases k9 : x.k = 9 ∨ x.k = 10
  · rw [if_pos k9]
    exact cst_9 E res x v k9 B w sb vb fb lb wd L lp h hs hf
  rw [if_neg k9]
  by_cases k5 : x.k = 5
  · rw [if_pos k5]
    exact cst_5 E res x v k5 B w sb vb fb lb wd L lp (fun y hy => I3 y hy (h3 (.inl k5) y hy) (n3 y hy)) (fun y hy => I4 y hy (h4 k5 y hy) (n4 y hy)) n3 n4 ok (tyC_any _ (hx (.inl (.inr (.inr (.inl k5)))))) (by omega) (by omega) h hs hf
  rw [if_neg k5]
  by_cases k6 : x.k = 6
  · rw [if_pos k6]
    exact cst_6 E res x v k6 B w sb vb fb lb wd L lp (fun y hy => I3 y hy (h3 (.inr (.inl k6)) y hy) (n3 y hy)) n3 ok (tyC_any _ (hx (.inl (.inr (.inr (.inr k6)))))) (by omega) (by omega) h hs hf
  rw [if_neg k6]
  by_cases k7 : x.k = 7
  · rw [if_pos k7]
    exact cst_7 E res x v k7 B w sb vb fb lb wd L lp (fun y hy => I1 y hy (h1 k7 y hy) (n1 y hy)) (fun y hy => I2 y hy (h2 k7 y hy) (n2 y hy)) (fun y hy => I3 y hy (h3 (.inr (.inr (.inl k7))) y hy) (n3 y hy)) n1 n2 n3 ok (fun o => tyC_any _ (hx (.inr ⟨.inr (.inl k7), o⟩))) (by omega) (by omega) h hs hf
  rw [if_neg k7]
  by_cases k11 : x.k = 11
  · rw [if_pos k11]
    exact cst_11 E res x v k11 B w sb vb fb lb wd L lp (fun y hy => I3 y hy (h3 (.inr (.inr (.inr k11))) y hy) (n3 y hy)) n3 ok (by omega) (by omega) h hs hf
  rw [if_neg k11]
  exact cst_0 E res x v k2 k3 k4 k5 k6 k7 k8 (fun q => k9 (.inl q)) (fun q => k9 (.inr q)) k11 B w sb vb fb lb wd L lp h hs hf
end Go.Proofs.YtaidefdbjcgcbaaGreat
