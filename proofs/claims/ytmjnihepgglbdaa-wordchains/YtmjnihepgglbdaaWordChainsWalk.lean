/-
  WordChains, walked.
-/
import Derived.Test.YtmjnihepgglbdaaWcT
import Derived.Test.YtmjnihepgglbdaaOpenI
namespace Go.Proofs.Ytmjnihepgglbdaa
open Go.RowKit
set_option linter.unusedSimpArgs false
set_option linter.unusedVariables false

set_option maxHeartbeats 1000000 in
theorem rsame_yes (xs : List Int) (va vb : Value) (w : World) (ha : Ints w va xs) (hb : Ints w vb xs) :
    Calls Try.prog 10 #[va, vb] w fun e w' => e = .returned (.bool true) ∧ Below w.heap.size w w' := by
  obtain ⟨ao, ca, rfl, hmax, hat⟩ := ha.at
  obtain ⟨bo, cb, rfl, _, hbt⟩ := hb.at
  clear ha hb
  have HA := hide hat
  have HB := hide hbt
  clear hat hbt
  unfold maxLen at hmax
  have hne : ((xs.length : Int) != (xs.length : Int)) = false := by simp
  go_enter Try.func10, Try.ntmps10
  go_wp2_with fail
  go_loopg [13] xs.length (fun g t wr => ∃ (i q : Nat), i ≤ xs.length ∧ g = xs.length - i ∧ t = .int .i64 i ∧ wr = w.drewN q)
  case atStart => exact ⟨0, 0, Nat.zero_le _, rfl, rfl, rfl⟩
  case round =>
    obtain ⟨i, q, hi, rfl, rfl, rfl⟩ := hrel
    by_cases hlt : i < xs.length
    · have hn : xs ≠ [] := by intro h; rw [h] at hlt; simp at hlt
      obtain ⟨b1, o1, rfl, h1, c1⟩ := (unhide HA) hn
      obtain ⟨b2, o2, rfl, h2, c2⟩ := (unhide HB) hn
      have x1 := c1 i hlt
      have x2 := c2 i hlt
      clear c1 c2
      have hee : (xs[i] != xs[i]) = false := by simp
      generalize xs[i] = y at *
      go_wp2_with fail
      go_quiet (fail)
      go_wp2_with fail
      go_roundg (xs.length - (i + 1))
      case measure => omega
      case rel => exact ⟨i + 1, _, by omega, rfl, by go_num, rfl⟩
    · go_wp2
      go_ret
      exact ⟨rfl, bdw (Below.refl _ _) _⟩
theorem eqFl (a b c d : Bool) (w : World) : (Op.equalIn 10000 24 (.agg #[.bool a, .bool b, .bool c, .bool d]) (.agg #[.bool a, .bool b, .bool c, .bool d])).run Try.prog w = .ok true w := by
  have hS : Try.prog.underlying 24 = some (.struct (Try.prog.fieldsOf 24)) := by kernel_rfl
  rw [show (10000 : Nat) = 9999 + 1 from rfl, run_equalIn_agg w 9999 24 _ _ hS (by kernel_rfl)]
  simp only [Program.fieldsOf, Try.underlying24]
  go_simp
theorem btw {w a b : World} (h : Below w.heap.size w a) (k : Below a.heap.size a b) : Below w.heap.size w b := h.trans (k.mono h.size)
/-- One answer for both. -/
def OneRet (r : Int) (C Z N V : Bool) (w : World) (e : Ending) (w' : World) : Prop := e = .returned (.tuple #[.int .i64 r, .agg #[.bool C, .bool Z, .bool N, .bool V]]) ∧ Below w.heap.size w w'
theorem one_sum (x y : Int) (c : Bool) : ∃ r C Z N V, (∀ w, Calls Try.prog 4 #[.int .i64 x, .int .i64 y, .bool c] w (OneRet r C Z N V w)) ∧ ∀ w, Calls Try.prog 5 #[.int .i64 x, .int .i64 y, .bool c] w (OneRet r C Z N V w) :=
  ⟨_, _, _, _, _, fun w => (sum_res x y c w).mono (by rintro e w' ⟨rfl, rfl⟩; exact ⟨rfl, ((Below.refl _ _).alloc (Nat.le_refl _) _ |>.alloc (by simp) _).alloc (by simp; omega) _⟩), fun w => rsum_any x y c w⟩
theorem one_dif (x y : Int) (c : Bool) : ∃ r C Z N V, (∀ w, Calls Try.prog 6 #[.int .i64 x, .int .i64 y, .bool c] w (OneRet r C Z N V w)) ∧ ∀ w, Calls Try.prog 7 #[.int .i64 x, .int .i64 y, .bool c] w (OneRet r C Z N V w) :=
  ⟨_, _, _, _, _, fun w => (dif_res x y c w).mono (by rintro e w' ⟨rfl, rfl⟩; exact ⟨rfl, ((Below.refl _ _).alloc (Nat.le_refl _) _ |>.alloc (by simp) _).alloc (by simp; omega) _⟩), fun w => rdif_any x y c w⟩
/-- Both places of flags. -/
structure Fl2 (w : World) (pa pb : Nat) (a0 a1 a2 a3 b0 b1 b2 b3 : Bool) (W : World) : Prop where
  kw : Below w.heap.size w W
  A : Box W pa [.bool a0, .bool a1, .bool a2, .bool a3]
  B : Box W pb [.bool b0, .bool b1, .bool b2, .bool b3]
  la : w.heap.size ≤ pa
  lb : w.heap.size ≤ pb
  ne : pa ≠ pb
section
variable {w W W' : World} {pa pb : Nat} {a0 a1 a2 a3 b0 b1 b2 b3 c0 c1 c2 c3 : Bool}
theorem Fl2.call (h : Fl2 w pa pb a0 a1 a2 a3 b0 b1 b2 b3 W) (k : Below W.heap.size W W') : Fl2 w pa pb a0 a1 a2 a3 b0 b1 b2 b3 W' := ⟨h.kw.trans (k.mono h.kw.size), h.A.step k, h.B.step k, h.la, h.lb, h.ne⟩
theorem Fl2.setA (h : Fl2 w pa pb a0 a1 a2 a3 b0 b1 b2 b3 W) : Fl2 w pa pb c0 c1 c2 c3 b0 b1 b2 b3 ((((W.setCell ⟨pa, 0, none⟩ (.bool c0)).setCell ⟨pa, 1, none⟩ (.bool c1)).setCell ⟨pa, 2, none⟩ (.bool c2)).setCell ⟨pa, 3, none⟩ (.bool c3)) :=
  ⟨below_4 h.kw h.la _ _ _ _, (((h.A.set (j := 0) (u := .bool c0) (by simp)).set (j := 1) (u := .bool c1) (by simp)).set (j := 2) (u := .bool c2) (by simp)).set (j := 3) (u := .bool c3) (by simp), (((h.B.other h.ne.symm).other h.ne.symm).other h.ne.symm).other h.ne.symm, h.la, h.lb, h.ne⟩
theorem Fl2.setB (h : Fl2 w pa pb a0 a1 a2 a3 b0 b1 b2 b3 W) : Fl2 w pa pb a0 a1 a2 a3 c0 c1 c2 c3 ((((W.setCell ⟨pb, 0, none⟩ (.bool c0)).setCell ⟨pb, 1, none⟩ (.bool c1)).setCell ⟨pb, 2, none⟩ (.bool c2)).setCell ⟨pb, 3, none⟩ (.bool c3)) :=
  ⟨below_4 h.kw h.lb _ _ _ _, (((h.A.other h.ne).other h.ne).other h.ne).other h.ne, (((h.B.set (j := 0) (u := .bool c0) (by simp)).set (j := 1) (u := .bool c1) (by simp)).set (j := 2) (u := .bool c2) (by simp)).set (j := 3) (u := .bool c3) (by simp), h.la, h.lb, h.ne⟩
end
/-- A row of ints stays where flags are written. -/
theorem ints_set4 {W : World} {v : Value} {L : List Int} {p : Nat} {a b c d : Value} {f0 f1 f2 f3 : Bool} (h : Ints W v L) (k : Box W p [.bool f0, .bool f1, .bool f2, .bool f3]) : Ints ((((W.setCell ⟨p, 0, none⟩ a).setCell ⟨p, 1, none⟩ b).setCell ⟨p, 2, none⟩ c).setCell ⟨p, 3, none⟩ d) v L := by
  obtain ⟨c0, c1, c2, c3⟩ := k.at4
  obtain ⟨h1, ao, cap, rfl, h3, h4, h6, h5⟩ := h
  refine ⟨h1, ao, cap, rfl, h3, h4, h6, fun hn => ?_⟩
  obtain ⟨q, off, rfl, hb, hc⟩ := h5 hn
  refine ⟨q, off, rfl, by simpa [World.setCell] using hb, fun j hj => ?_⟩
  have hcj := hc j hj
  have hlt : j < (L.map int1).length := by omega
  have ne : ∀ (i : Nat) (f : Bool), W.cell? ⟨p, i, none⟩ = some (.bool f) → (⟨q, off + j, none⟩ : Addr) ≠ ⟨p, i, none⟩ := by
    intro i f hf e
    rw [e, hf, List.getElem?_eq_getElem hlt, List.getElem_map] at hcj
    cases hcj
  rw [World.cell?_setCell_other _ _ _ _ (ne 3 _ c3).symm, World.cell?_setCell_other _ _ _ _ (ne 2 _ c2).symm, World.cell?_setCell_other _ _ _ _ (ne 1 _ c1).symm, World.cell?_setCell_other _ _ _ _ (ne 0 _ c0).symm]
  exact hcj
set_option maxRecDepth 100000 in
set_option maxHeartbeats 4000000 in
theorem walk_wordChains (LA LB : List Int) (x y : Int) (c : Bool) (va vb : Value) (w : World) (ha : Ints w va LA) (_ : ∀ x ∈ LA, I64o x) (hb : Ints w vb LB) (_ : ∀ x ∈ LB, I64o x) (_ : (Lit.int .i64 x).wf = true) (_ : (Lit.int .i64 y).wf = true) :
    Calls Try.prog 3 #[va, vb, .int .i64 x, .int .i64 y, .bool c] w fun e w' => e = .returned (.bool true) ∧ Below w.heap.size w w' := by
  obtain ⟨r1, C1, Z1, N1, V1, s1, t1⟩ := one_sum x y c
  obtain ⟨r2, C2, Z2, N2, V2, s2, t2⟩ := one_dif x y c
  obtain ⟨L3, C3, Z3, N3, V3, er3, s3, t3⟩ := both_add LA LB va vb
  obtain ⟨L4, C4, Z4, N4, V4, er4, s4, t4⟩ := both_sub LA LB va vb
  have E1 := eqFl C1 Z1 N1 V1
  have E2 := eqFl C2 Z2 N2 V2
  have E3 := eqFl C3 Z3 N3 V3
  have E4 := eqFl C4 Z4 N4 V4
  have n1 : (r1 != r1) = false := by simp
  have n2 : (r2 != r2) = false := by simp
  have n3 : (er3 != er3) = false := by simp
  have n4 : (er4 == er4) = true := by simp
  have S1 := hide s1
  have S2 := hide s2
  have S3 := hide s3
  have S4 := hide s4
  have T1 := hide t1
  have T2 := hide t2
  have T3 := hide t3
  have T4 := hide t4
  have HA := hide ha
  have HB := hide hb
  clear s1 s2 s3 s4 t1 t2 t3 t4 ha hb
  go_enter Try.func3, Try.ntmps3
  go_wp2_with fail
  refine (unhide S1 _).mono ?_
  rintro e w1 ⟨rfl, k1⟩
  have K2 := hide (btw k1 (below_a w1 (.cells #[.bool C1, .bool Z1, .bool N1, .bool V1] 24)))
  have A2 := hide (Box.new w1 #[.bool C1, .bool Z1, .bool N1, .bool V1] 24)
  have l1 := k1.size
  clear k1
  go_wp2_with fail
  generalize w1.alloc (.cells #[.bool C1, .bool Z1, .bool N1, .bool V1] 24) = w2 at *
  generalize w1.heap.size = pa at *
  refine (unhide T1 _).mono ?_
  rintro e w3 ⟨rfl, k3⟩
  have kk := below_a w3 (.cells #[.bool C1, .bool Z1, .bool N1, .bool V1] 24)
  have F4 := hide (Fl2.mk (w := w) (pa := pa) (pb := w3.heap.size) (btw (btw (unhide K2) k3) kk) (((unhide A2).step k3).step kk) (Box.new w3 #[.bool C1, .bool Z1, .bool N1, .bool V1] 24) l1 (btw (unhide K2) k3).size (Nat.ne_of_lt ((unhide A2).step k3).1))
  have c0 := (unhide F4).A.at4
  obtain ⟨x0, x1, x2, x3⟩ := c0
  clear k3 kk A2 K2
  go_wp2_with fail
  generalize w3.alloc (.cells #[.bool C1, .bool Z1, .bool N1, .bool V1] 24) = w4 at *
  generalize w3.heap.size = pb at *
  clear x0 x1 x2 x3 E1
  refine (unhide S2 _).mono ?_
  rintro e w5 ⟨rfl, k5⟩
  have F5 := hide ((unhide F4).call k5)
  obtain ⟨x0, x1, x2, x3⟩ := (unhide F5).A.at4
  have x4 := (unhide F5).A.2.2
  clear k5 F4
  go_wp2_with fail
  have F6 := hide ((unhide F5).setA (c0 := C2) (c1 := Z2) (c2 := N2) (c3 := V2))
  clear x0 x1 x2 x3 x4
  generalize (((w5.setCell ⟨pa, 0, none⟩ (.bool C2)).setCell ⟨pa, 1, none⟩ (.bool Z2)).setCell ⟨pa, 2, none⟩ (.bool N2)).setCell ⟨pa, 3, none⟩ (.bool V2) = w6 at *
  refine (unhide T2 _).mono ?_
  rintro e w7 ⟨rfl, k7⟩
  have F7 := hide ((unhide F6).call k7)
  obtain ⟨x0, x1, x2, x3⟩ := (unhide F7).B.at4
  have x4 := (unhide F7).B.2.2
  have F8 := hide ((unhide F7).setB (c0 := C2) (c1 := Z2) (c2 := N2) (c3 := V2))
  obtain ⟨y0, y1, y2, y3⟩ := (unhide F8).A.at4
  obtain ⟨z0, z1, z2, z3⟩ := (unhide F8).B.at4
  clear k7 F5 F6
  go_wp2_with fail
  clear x0 x1 x2 x3 x4 y0 y1 y2 y3 z0 z1 z2 z3
  generalize (((w7.setCell ⟨pb, 0, none⟩ (.bool C2)).setCell ⟨pb, 1, none⟩ (.bool Z2)).setCell ⟨pb, 2, none⟩ (.bool N2)).setCell ⟨pb, 3, none⟩ (.bool V2) = w8 at *
  refine (unhide S3 _ ((unhide HA).step (unhide F8).kw) ((unhide HB).step (unhide F8).kw)).mono ?_
  rintro e w9 ⟨u3, rfl, k9, i3⟩
  have F9 := hide ((unhide F8).call k9)
  obtain ⟨x0, x1, x2, x3⟩ := (unhide F9).A.at4
  have x4 := (unhide F9).A.2.2
  have I9 := hide i3
  clear k9 F8 i3
  go_wp2_with fail
  have F10 := hide ((unhide F9).setA (c0 := C3) (c1 := Z3) (c2 := N3) (c3 := V3))
  have I10 := hide (ints_set4 (p := pa) (a := .bool C3) (b := .bool Z3) (c := .bool N3) (d := .bool V3) (unhide I9) (unhide F9).A)
  clear x0 x1 x2 x3 x4
  generalize (((w9.setCell ⟨pa, 0, none⟩ (.bool C3)).setCell ⟨pa, 1, none⟩ (.bool Z3)).setCell ⟨pa, 2, none⟩ (.bool N3)).setCell ⟨pa, 3, none⟩ (.bool V3) = w10 at *
  refine (unhide T3 _ ((unhide HA).step (unhide F10).kw) ((unhide HB).step (unhide F10).kw)).mono ?_
  rintro e w11 ⟨v3, rfl, k11, j3⟩
  have I11 := hide (Ints.step (unhide I10) k11)
  have J11 := hide j3
  have F11 := hide ((unhide F10).call k11)
  obtain ⟨x0, x1, x2, x3⟩ := (unhide F11).B.at4
  have x4 := (unhide F11).B.2.2
  have F12 := hide ((unhide F11).setB (c0 := C3) (c1 := Z3) (c2 := N3) (c3 := V3))
  obtain ⟨y0, y1, y2, y3⟩ := (unhide F12).A.at4
  obtain ⟨z0, z1, z2, z3⟩ := (unhide F12).B.at4
  have I12 := hide (ints_set4 (p := pb) (a := .bool C3) (b := .bool Z3) (c := .bool N3) (d := .bool V3) (unhide I11) (unhide F11).B)
  have J12 := hide (ints_set4 (p := pb) (a := .bool C3) (b := .bool Z3) (c := .bool N3) (d := .bool V3) (unhide J11) (unhide F11).B)
  clear k11 j3 F9 F10
  go_wp2_with fail
  clear x0 x1 x2 x3 x4
  generalize (((w11.setCell ⟨pb, 0, none⟩ (.bool C3)).setCell ⟨pb, 1, none⟩ (.bool Z3)).setCell ⟨pb, 2, none⟩ (.bool N3)).setCell ⟨pb, 3, none⟩ (.bool V3) = w12 at *
  refine (rsame_yes L3 u3 v3 w12 (unhide I12) (unhide J12)).mono ?_
  rintro e w13 ⟨rfl, k13⟩
  have F13 := hide ((unhide F12).call k13)
  clear y0 y1 y2 y3 z0 z1 z2 z3
  obtain ⟨y0, y1, y2, y3⟩ := (unhide F13).A.at4
  obtain ⟨z0, z1, z2, z3⟩ := (unhide F13).B.at4
  clear k13
  go_wp2_with fail
  clear y0 y1 y2 y3 z0 z1 z2 z3
  refine (unhide S4 _ ((unhide HA).step (unhide F13).kw) ((unhide HB).step (unhide F13).kw)).mono ?_
  rintro e w14 ⟨u4, rfl, k14, i4⟩
  have F14 := hide ((unhide F13).call k14)
  obtain ⟨x0, x1, x2, x3⟩ := (unhide F14).A.at4
  have x4 := (unhide F14).A.2.2
  have I14 := hide i4
  clear k14 F13 i4
  go_wp2_with fail
  have F15 := hide ((unhide F14).setA (c0 := C4) (c1 := Z4) (c2 := N4) (c3 := V4))
  have I15 := hide (ints_set4 (p := pa) (a := .bool C4) (b := .bool Z4) (c := .bool N4) (d := .bool V4) (unhide I14) (unhide F14).A)
  clear x0 x1 x2 x3 x4
  generalize (((w14.setCell ⟨pa, 0, none⟩ (.bool C4)).setCell ⟨pa, 1, none⟩ (.bool Z4)).setCell ⟨pa, 2, none⟩ (.bool N4)).setCell ⟨pa, 3, none⟩ (.bool V4) = w15 at *
  refine (unhide T4 _ ((unhide HA).step (unhide F15).kw) ((unhide HB).step (unhide F15).kw)).mono ?_
  rintro e w16 ⟨v4, rfl, k16, j4⟩
  have I16 := hide (Ints.step (unhide I15) k16)
  have J16 := hide j4
  have F16 := hide ((unhide F15).call k16)
  obtain ⟨x0, x1, x2, x3⟩ := (unhide F16).B.at4
  have x4 := (unhide F16).B.2.2
  have F17 := hide ((unhide F16).setB (c0 := C4) (c1 := Z4) (c2 := N4) (c3 := V4))
  obtain ⟨y0, y1, y2, y3⟩ := (unhide F17).A.at4
  obtain ⟨z0, z1, z2, z3⟩ := (unhide F17).B.at4
  have I17 := hide (ints_set4 (p := pb) (a := .bool C4) (b := .bool Z4) (c := .bool N4) (d := .bool V4) (unhide I16) (unhide F16).B)
  have J17 := hide (ints_set4 (p := pb) (a := .bool C4) (b := .bool Z4) (c := .bool N4) (d := .bool V4) (unhide J16) (unhide F16).B)
  clear k16 j4 F14 F15
  go_wp2_with fail
  clear x0 x1 x2 x3 x4
  generalize (((w16.setCell ⟨pb, 0, none⟩ (.bool C4)).setCell ⟨pb, 1, none⟩ (.bool Z4)).setCell ⟨pb, 2, none⟩ (.bool N4)).setCell ⟨pb, 3, none⟩ (.bool V4) = w17 at *
  refine (rsame_yes L4 u4 v4 w17 (unhide I17) (unhide J17)).mono ?_
  rintro e w18 ⟨rfl, k18⟩
  have F18 := hide ((unhide F17).call k18)
  clear y0 y1 y2 y3 z0 z1 z2 z3
  obtain ⟨y0, y1, y2, y3⟩ := (unhide F18).A.at4
  obtain ⟨z0, z1, z2, z3⟩ := (unhide F18).B.at4
  clear k18
  go_wp2_with fail
  go_ret
  exact ⟨rfl, (unhide F18).kw⟩
end Go.Proofs.Ytmjnihepgglbdaa
