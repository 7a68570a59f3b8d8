/-
  QuoRem, DivMod and Mod (a divisor above nought).
-/
import Derived.Test.YtaidefdbjcgcbaaGreatBigDz
import Derived.Test.YtaidefdbjcgcbaaGreatBig8z
namespace Go.Proofs.YtaidefdbjcgcbaaGreat
open Go.RowKit
set_option linter.unusedSimpArgs false
set_option linter.unusedVariables false

/-- Of what was there two blocks alone may have turned. -/
structure Tn2 (p r : Nat) (w w' : World) : Prop where
  os : w'.os = w.os
  tape : w'.tape = w.tape
  output : w'.output = w.output
  size : w.heap.size ≤ w'.heap.size
  block : ∀ k, k < w.heap.size → k ≠ p → k ≠ r → w'.heap[k]? = w.heap[k]?
theorem Tn2.of {p r : Nat} {w w1 w' : World} (h : Tn p w w1) (k : Tn r w1 w') : Tn2 p r w w' :=
  ⟨k.os.trans h.os, k.tape.trans h.tape, k.output.trans h.output, Nat.le_trans h.size k.size, fun i hi h1 h2 => (k.block i (Nat.lt_of_lt_of_le hi h.size) h2).trans (h.block i hi h1)⟩
theorem Tn2.trans {p r : Nat} {a b c : World} (h : Tn2 p r a b) (k : Tn2 p r b c) : Tn2 p r a c :=
  ⟨k.os.trans h.os, k.tape.trans h.tape, k.output.trans h.output, Nat.le_trans h.size k.size, fun i hi h1 h2 => (k.block i (Nat.lt_of_lt_of_le hi h.size) h1 h2).trans (h.block i hi h1 h2)⟩
theorem Tn.left {p r : Nat} {w w' : World} (h : Tn p w w') : Tn2 p r w w' := ⟨h.os, h.tape, h.output, h.size, fun k hk h1 _ => h.block k hk h1⟩
theorem Tn.right {p r : Nat} {w w' : World} (h : Tn r w w') : Tn2 p r w w' := ⟨h.os, h.tape, h.output, h.size, fun k hk _ h2 => h.block k hk h2⟩
theorem Tn2.below {p r B : Nat} {w w' : World} (h : Tn2 p r w w') (hp : B ≤ p) (hr : B ≤ r) (hB : B ≤ w.heap.size) : Below B w w' := ⟨h.os, h.tape, h.output, h.size, fun k hk => h.block k (by omega) (by omega) (by omega)⟩
theorem Big.tn2 {w w' : World} {p r q : Nat} {z : Int} (h : Big w q z) (k : Tn2 p r w w') (hp : IntAt w p) (hr : IntAt w r) (h1 : q ≠ p) (h2 : q ≠ r) : Big w' q z := by
  have hl := h.lt
  obtain ⟨v, e1, L, hR, hI⟩ := h
  refine ⟨v, by rw [k.block q hl h1 h2]; exact e1, L, ?_, hI⟩
  rcases hR with hR | ⟨d, cap, cs, fz, g1, g2, g3, g4, g5⟩
  · exact .inl hR
  · refine .inr ⟨d, cap, cs, fz, g1, g2, g3, ?_, g5⟩
    rw [k.block d (Array.getElem?_eq_some_iff.1 g4).1 ?_ ?_]; exact g4
    · rintro rfl
      obtain ⟨s, u, e⟩ := hp
      rw [g4] at e
      simp at e
    · rintro rfl
      obtain ⟨s, u, e⟩ := hr
      rw [g4] at e
      simp at e
theorem IntAt.tn2 {w w' : World} {p r q : Nat} (h : IntAt w q) (k : Tn2 p r w w') (h1 : q ≠ p) (h2 : q ≠ r) : IntAt w' q := by
  have := h.lt
  obtain ⟨s, v, e⟩ := h
  exact ⟨s, v, by rw [k.block q this h1 h2]; exact e⟩
/-- div tells quotient and rest of these two. -/
def DivOk (n1 n2 : Int) : Prop := ∀ (w : World) (v1 v2 : Value), Dg w v1 n1 → Dg w v2 n2 →
  Calls Tryz.prog 144 #[v1, v2] w fun e w' => Below w.heap.size w w' ∧ ∃ q r, e = .returned (.tuple #[q, r]) ∧ Dg w' q (n1 / n2) ∧ Dg w' r (n1 % n2)
theorem divOk_short {n1 n2 : Int} (hn1 : n1 < 4294967296 ^ 8) (hn2 : n2 < 4294967296 ^ 8) (hp : 0 < n2) (hs : n1 < n2 ∨ n1 < 18446744073709551616 ∨ n2 < 4294967296) : DivOk n1 n2 :=
  fun w v1 v2 h1 h2 => div_short v1 v2 n1 n2 w h1 h2 hn1 hn2 hp hs
theorem sg_quo (x y : Int) : sg (decide (x < 0) != decide (y < 0)) ((x.natAbs : Int) / (y.natAbs : Int)) = x.tdiv y := by
  unfold sg
  by_cases hx : x < 0 <;> by_cases hy : y < 0 <;> simp only [hx, hy, decide_true, decide_false]
  · rw [show (x.natAbs : Int) = -x by omega, show (y.natAbs : Int) = -y by omega]
    have := Int.neg_tdiv_neg x y
    rw [← this, Int.tdiv_eq_ediv_of_nonneg (by omega)]; rfl
  · rw [show (x.natAbs : Int) = -x by omega, show (y.natAbs : Int) = y by omega]
    rw [← Int.tdiv_eq_ediv_of_nonneg (by omega), Int.neg_tdiv, Int.neg_neg]; rfl
  · rw [show (x.natAbs : Int) = x by omega, show (y.natAbs : Int) = -y by omega]
    rw [← Int.tdiv_eq_ediv_of_nonneg (by omega), Int.tdiv_neg, Int.neg_neg]; rfl
  · rw [show (x.natAbs : Int) = x by omega, show (y.natAbs : Int) = y by omega]
    rw [← Int.tdiv_eq_ediv_of_nonneg (by omega)]; rfl
theorem sg_rem (x y : Int) : sg (decide (x < 0)) ((x.natAbs : Int) % (y.natAbs : Int)) = x.tmod y := by
  have ey : (x.natAbs : Int) % (y.natAbs : Int) = (x.natAbs : Int).tmod y := by
    rw [← Int.tmod_eq_emod_of_nonneg (by omega)]
    by_cases hy : y < 0
    · rw [show (y.natAbs : Int) = -y by omega, Int.tmod_neg]
    · rw [show (y.natAbs : Int) = y by omega]
  rw [ey]
  unfold sg
  by_cases hx : x < 0
  · rw [if_pos (by simp [hx]), show (x.natAbs : Int) = -x by omega, Int.neg_tmod, Int.neg_neg]
  · rw [if_neg (by simp [hx]), show (x.natAbs : Int) = x by omega]
set_option maxRecDepth 100000 in
set_option maxHeartbeats 2000000 in
theorem quorem_any (p a b r : Nat) (x y : Int) (w : World) (hp : IntAt w p) (hr : IntAt w r) (ha : Big w a x) (hb : Big w b y) (hne : p ≠ r) (hd : DivOk x.natAbs y.natAbs) (hx : x.natAbs < 4294967296 ^ 8) (hy : y.natAbs < 4294967296 ^ 8) (h0 : y ≠ 0) :
    Calls Tryz.prog 112 #[.pointer (some ⟨p, 0, none⟩), .pointer (some ⟨a, 0, none⟩), .pointer (some ⟨b, 0, none⟩), .pointer (some ⟨r, 0, none⟩)] w fun e w' => e = .returned (.tuple #[.pointer (some ⟨p, 0, none⟩), .pointer (some ⟨r, 0, none⟩)]) ∧ Tn2 p r w w' ∧ Big w' p (x.tdiv y) ∧ Big w' r (x.tmod y) := by
  obtain ⟨v, c0, c1, hD, hlt⟩ := ha.cells
  obtain ⟨u, d0, d1, hE, hlr⟩ := hb.cells
  have HP := hide hp
  have HR := hide hr
  have DV := hide (fun k => hd (w.drewN k) v u hD hE)
  have SQ := hide (sg_quo x y)
  have SR := hide (sg_rem x y)
  obtain ⟨q1, q2, q3, q4, q5⟩ := divOf (n1 := (x.natAbs : Int)) (n2 := (y.natAbs : Int)) (by omega) (by omega)
  clear hp hr ha hb hD hE hd
  go_enter Tryz.func112, Tryz.ntmps112
  go_wp2_with fail
  go_quiet (fail)
  go_wp2_with fail
  refine reg_start (fun W => W.cell? ⟨a, 1, none⟩ = some v ∧ W.cell? ⟨b, 1, none⟩ = some u) (by kernel_rfl) ?_
  refine reg_seg 0 8 6 (by kernel_rfl) (by decide) (by kernel_rfl) (by kernel_rfl) (fun _ _ _ _ _ h => h) ?_
  simp only [List.take_succ_cons, List.take_zero, List.drop_succ_cons, List.drop_zero]
  repeat (refine wpSteady_step (fun K hK => ?_); go_simp; first | (refine steady_of ?_ (fun W hW => ?_) (hK _ ?_); rotate_left; (obtain ⟨h1, h2⟩ := hW; go_simp; first | done | rfl); clear hK K) | (refine hK _ ?_; clear hK K))
  refine wpSteady_nil ?_
  refine reg_one 8 5 (by kernel_rfl) (by kernel_rfl) ⟨c1, d1⟩ ?_
  simp only [List.take_succ_cons, List.take_zero, List.drop_succ_cons, List.drop_zero]
  go_wp2_with fail
  refine (unhide DV _).mono ?_
  rintro e w1 ⟨k1, q, t, rfl, D1, D2⟩
  have K1 := hide (of_drewN k1)
  have HD1 := hide D1
  have HD2 := hide D2
  have c11 := cell_keep (unhide K1) hlt c1
  have d11 := cell_keep (unhide K1) hlr d1
  clear k1 D1 D2
  go_wp2_with fail
  first | refine next_nil ?_ | refine next_go ?_
  refine reg_seg 9 5 0 (by kernel_rfl) (by decide) (by kernel_rfl) (by kernel_rfl) (fun _ _ _ _ _ h => h) ?_
  simp only [List.take_succ_cons, List.take_zero, List.drop_succ_cons, List.drop_zero]
  repeat (refine wpSteady_step (fun K hK => ?_); go_simp; first | (refine steady_of ?_ (fun W hW => ?_) (hK _ ?_); rotate_left; (obtain ⟨h1, h2⟩ := hW; go_simp; first | done | rfl); clear hK K) | (refine hK _ ?_; clear hK K))
  refine wpSteady_nil ?_
  refine reg_end (by kernel_rfl) ⟨c11, d11⟩ ?_
  go_wp2_with fail
  refine (give_any p (decide (x < 0) != decide (y < 0)) q _ w1 ((unhide HP).step (unhide K1)) (unhide HD1) (by omega)).mono ?_
  rintro e w2 ⟨rfl, k2, b2⟩
  rw [unhide SQ] at b2
  have K2 := hide k2
  have B2 := hide b2
  have T2 := hide ((unhide HD2).tn (unhide K2) ((unhide HP).step (unhide K1)))
  have R2 := hide (((unhide HR).step (unhide K1)).tn (unhide K2) (Ne.symm hne))
  clear k2 b2
  go_wp2_with fail
  refine (give_any r _ t _ w2 (unhide R2) (unhide T2) (by omega)).mono ?_
  rintro e w3 ⟨rfl, k3, b3⟩
  rw [unhide SR] at b3
  have K3 := hide k3
  have B3 := hide b3
  have B23 := hide ((unhide B2).tn (unhide K3) (unhide R2) hne)
  clear k3 b3
  go_wp2_with fail
  go_ret2
  exact ⟨rfl, Tn2.of ((Tn.of (unhide K1)).trans (unhide K2)) (unhide K3), unhide B23, unhide B3⟩
theorem fdiv_pos {x y : Int} (hy : 0 < y) : (0 ≤ x.tmod y → x.tdiv y = x / y ∧ x.tmod y = x % y) ∧ (x.tmod y < 0 → x.tdiv y - 1 = x / y ∧ x.tmod y + y = x % y) := by
  have h1 := Int.mul_tdiv_add_tmod x y
  have h2 : x.tmod y < y := Int.tmod_lt_of_pos x hy
  have h3 : -y < x.tmod y := by
    by_cases hx : 0 ≤ x
    · have := Int.tmod_nonneg y hx; omega
    · have e : (-x).tmod y = -(x.tmod y) := Int.neg_tmod ..
      have : (-x).tmod y < y := Int.tmod_lt_of_pos _ hy
      omega
  constructor
  · intro h
    have e : x = x.tmod y + y * x.tdiv y := by omega
    constructor
    · conv => rhs; rw [e]
      rw [Int.add_mul_ediv_left _ _ (by omega), Int.ediv_eq_zero_of_lt h h2]; omega
    · conv => rhs; rw [e]
      rw [Int.add_mul_emod_self_left, Int.emod_eq_of_lt h h2]
  · intro h
    have e : x = (x.tmod y + y) + y * (x.tdiv y - 1) := by rw [Int.mul_sub, Int.mul_one]; omega
    constructor
    · conv => rhs; rw [e]
      rw [Int.add_mul_ediv_left _ _ (by omega), Int.ediv_eq_zero_of_lt (by omega) (by omega)]; omega
    · conv => rhs; rw [e]
      rw [Int.add_mul_emod_self_left, Int.emod_eq_of_lt (by omega) (by omega)]
theorem tdiv_abs (x y : Int) (h0 : 0 < y) : (x.tdiv y).natAbs ≤ x.natAbs ∧ (x.tmod y).natAbs ≤ x.natAbs := by
  constructor
  · rw [Int.natAbs_tdiv]; exact Nat.div_le_self _ _
  · rw [Int.natAbs_tmod]; exact Nat.mod_le _ _
set_option maxRecDepth 100000 in
set_option maxHeartbeats 2000000 in
/-- With a rest of at least nought, by a divisor above nought. -/
theorem divmod_any (p a b r : Nat) (x y : Int) (w : World) (hp : IntAt w p) (hr : IntAt w r) (ha : Big w a x) (hb : Big w b y) (hne : p ≠ r) (hd : DivOk x.natAbs y.natAbs) (hx : x.natAbs < 4294967296 ^ 6) (hy : y.natAbs < 4294967296 ^ 6) (h0 : 0 < y) :
    Calls Tryz.prog 108 #[.pointer (some ⟨p, 0, none⟩), .pointer (some ⟨a, 0, none⟩), .pointer (some ⟨b, 0, none⟩), .pointer (some ⟨r, 0, none⟩)] w fun e w' => e = .returned (.tuple #[.pointer (some ⟨p, 0, none⟩), .pointer (some ⟨r, 0, none⟩)]) ∧ Tn2 p r w w' ∧ Big w' p (x / y) ∧ Big w' r (x % y) := by
  have HN := hide (Big.new w)
  have KN := hide (below_a w (.cells #[.bool false, .slice none 0 0] 127))
  have HP := hide hp
  have HR := hide hr
  have HA := hide ha
  have HB := hide hb
  have HD := hide hd
  obtain ⟨f1, f2⟩ := fdiv_pos (x := x) h0
  obtain ⟨a1, a2⟩ := tdiv_abs x y h0
  have lp := hp.lt
  have lr := hr.lt
  have la := ha.lt
  have lb := hb.lt
  clear hp hr ha hb hd
  go_enter Tryz.func108, Tryz.ntmps108
  go_wp2_with fail
  refine (set_any w.heap.size b y _ (unhide HN).int ((unhide HB).step (unhide KN)) (by omega) (by omega)).mono ?_
  rintro e w1 ⟨rfl, k1, b1⟩
  have K1 := hide ((unhide KN).trans (k1.below (Nat.le_refl _) (by simp)))
  have B1 := hide b1
  clear k1 b1
  go_wp2_with fail
  refine (quorem_any p a b r x y w1 ((unhide HP).step (unhide K1)) ((unhide HR).step (unhide K1)) ((unhide HA).step (unhide K1)) ((unhide HB).step (unhide K1)) hne (unhide HD) (by omega) (by omega) (by omega)).mono ?_
  rintro e w2 ⟨rfl, k2, b2, c2⟩
  have K2 := hide k2
  have B2 := hide b2
  have C2 := hide c2
  have D2 := hide ((unhide B1).tn2 (unhide K2) ((unhide HP).step (unhide K1)) ((unhide HR).step (unhide K1)) (by omega) (by omega))
  obtain ⟨vr, m0, m1, _, _⟩ := c2.cells
  obtain ⟨vd, n0, n1, _, _⟩ := (unhide D2).cells
  have lr2 := c2.lt
  have ld2 := (unhide D2).lt
  clear k2 b2 c2
  by_cases hneg : x.tmod y < 0
  · have bn : decide (x.tmod y < 0) = true := decide_eq_true hneg
    have by0 : decide (y < 0) = false := decide_eq_false (by omega)
    rw [bn] at m0
    rw [by0] at n0
    obtain ⟨e1, e2⟩ := f2 hneg
    clear f1 f2 bn by0
    go_wp2_with fail
    refine (newI_any 1 w2 ⟨by decide, by decide⟩).mono ?_
    rintro e w3 ⟨rfl, k3, b3⟩
    have K3 := hide k3
    have B3 := hide b3
    clear k3 b3
    go_wp2_with fail
    refine (sub_big p p w2.heap.size (x.tdiv y) 1 w3 ((unhide B2).int.step (unhide K3)) ((unhide B2).step (unhide K3)) (unhide B3) (by have := (unhide B2).lt; omega) (by omega) (by decide)).mono ?_
    rintro e w4 ⟨rfl, k4, b4⟩
    rw [e1] at b4
    have K4 := hide k4
    have B4 := hide b4
    have C4 := hide (((unhide C2).step (unhide K3)).tn (unhide K4) ((unhide B2).int.step (unhide K3)) (Ne.symm hne))
    have D4 := hide (((unhide D2).step (unhide K3)).tn (unhide K4) ((unhide B2).int.step (unhide K3)) (by omega))
    clear k4 b4
    go_wp2_with fail
    refine (add_big r r w.heap.size (x.tmod y) y w4 (unhide C4).int (unhide C4) (unhide D4) (by omega) (by omega) (by omega)).mono ?_
    rintro e w5 ⟨rfl, k5, b5⟩
    rw [e2] at b5
    have K5 := hide k5
    have B5 := hide b5
    have B45 := hide ((unhide B4).tn (unhide K5) (unhide C4).int hne)
    clear k5 b5
    go_wp2_with fail
    go_ret2
    exact ⟨rfl, ((Tn.left (Tn.of (unhide K1))).trans (unhide K2)).trans ((Tn.left ((Tn.of (unhide K3)).trans (unhide K4))).trans (Tn.right (unhide K5))), unhide B45, unhide B5⟩
  · have bn : decide (x.tmod y < 0) = false := decide_eq_false hneg
    rw [bn] at m0
    obtain ⟨e1, e2⟩ := f1 (by omega)
    rw [e1] at B2
    rw [e2] at C2
    clear f1 f2 bn e1 e2
    go_wp2_with fail
    go_ret2
    exact ⟨rfl, (Tn.left (Tn.of (unhide K1))).trans (unhide K2), unhide B2, unhide C2⟩
theorem mod_any (p a b : Nat) (x y : Int) (w : World) (hp : IntAt w p) (ha : Big w a x) (hb : Big w b y) (hd : DivOk x.natAbs y.natAbs) (hx : x.natAbs < 4294967296 ^ 6) (hy : y.natAbs < 4294967296 ^ 6) (h0 : 0 < y) :
    Calls Tryz.prog 101 #[.pointer (some ⟨p, 0, none⟩), .pointer (some ⟨a, 0, none⟩), .pointer (some ⟨b, 0, none⟩)] w fun e w' => e = .returned (.pointer (some ⟨p, 0, none⟩)) ∧ Tn p w w' ∧ Big w' p (x % y) := by
  have HN := hide (Big.new w)
  have KN := hide (below_a w (.cells #[.bool false, .slice none 0 0] 127))
  have HP := hide hp
  have HA := hide ha
  have HB := hide hb
  have HD := hide hd
  have lp := hp.lt
  clear hp ha hb hd
  go_enter Tryz.func101, Tryz.ntmps101
  go_wp2_with fail
  refine (divmod_any w.heap.size a b p x y _ (unhide HN).int ((unhide HP).step (unhide KN)) ((unhide HA).step (unhide KN)) ((unhide HB).step (unhide KN)) (by omega) (unhide HD) hx hy h0).mono ?_
  rintro e w1 ⟨rfl, k1, b1, c1⟩
  have K1 := hide k1
  have C1 := hide c1
  clear k1 b1 c1
  go_wp2_with fail
  go_ret
  refine ⟨rfl, ⟨(unhide K1).os, (unhide K1).tape, (unhide K1).output, ?_, fun k hk hn => ?_⟩, unhide C1⟩
  · have := (unhide K1).size; simp at this; omega
  · rw [(unhide K1).block k (by simp; omega) (by omega) hn]; exact (unhide KN).block k hk
end Go.Proofs.YtaidefdbjcgcbaaGreat

/-
  Lsh and Mul.
-/
namespace Go.Proofs.YtaidefdbjcgcbaaGreat
open Go.RowKit
set_option linter.unusedSimpArgs false
set_option linter.unusedVariables false

theorem mul_sign {z : Int} (k : Nat) : (z * 2 ^ k).natAbs = z.natAbs * 2 ^ k := by
  rw [Int.natAbs_mul, Int.natAbs_pow]; rfl
theorem sg_mul2 (z : Int) (k : Nat) : sg (decide (z < 0)) ((z.natAbs : Int) * 2 ^ k) = z * 2 ^ k := by
  have h := sg_abs z
  unfold sg at *
  split
  · rename_i hh; rw [if_pos hh] at h; rw [← Int.neg_mul, h]
  · rename_i hh; rw [if_neg hh] at h; rw [h]
theorem sg_mulp (a b : Int) : sg (decide (a < 0) != decide (b < 0)) ((a.natAbs : Int) * b.natAbs) = a * b := by
  have h1 := sg_abs a
  have h2 := sg_abs b
  unfold sg at *
  by_cases ha : a < 0 <;> by_cases hb : b < 0 <;> simp [ha, hb] at h1 h2 ⊢
  · rw [show (a.natAbs : Int) = -a by omega, show (b.natAbs : Int) = -b by omega]; grind
  · rw [show (a.natAbs : Int) = -a by omega, show (b.natAbs : Int) = b by omega]; grind
  · rw [show (a.natAbs : Int) = a by omega, show (b.natAbs : Int) = -b by omega]; grind
  · rw [show (a.natAbs : Int) = a by omega, show (b.natAbs : Int) = b by omega]
set_option maxHeartbeats 1000000 in
theorem lsh_any (p q k : Nat) (z : Int) (w : World) (hp : IntAt w p) (hq : Big w q z) (hne : q ≠ p) (hk : k ≤ 1000) (hz : (z.natAbs : Int) * 2 ^ k < 4294967296 ^ 8) :
    Calls Tryz.prog 107 #[.pointer (some ⟨p, 0, none⟩), .pointer (some ⟨q, 0, none⟩), .int .u64 (k : Int)] w fun e w' => e = .returned (.pointer (some ⟨p, 0, none⟩)) ∧ Tn p w w' ∧ Big w' p (z * 2 ^ k) := by
  obtain ⟨v, c0, c1, hD, hlt⟩ := hq.cells
  have HP := hide hp
  have HQ := hide hq
  have HD := hide hD
  have hz1 : (z.natAbs : Int) < 4294967296 ^ 8 := by
    have h1 : (1 : Int) ≤ 2 ^ k := Int.pow_pos (by decide)
    have h2 := Int.mul_le_mul_of_nonneg_left h1 (show (0 : Int) ≤ z.natAbs by omega)
    omega
  have HZ := hide hz
  clear hp hq hD hz
  go_enter Tryz.func107, Tryz.ntmps107
  go_wp2_with fail
  refine reg_start (fun W => W.cell? ⟨q, 0, none⟩ = some (.bool (decide (z < 0))) ∧ W.cell? ⟨q, 1, none⟩ = some v) (by kernel_rfl) ?_
  refine reg_seg 0 10 3 (by kernel_rfl) (by decide) (by kernel_rfl) (by kernel_rfl) (fun _ _ _ _ _ h => h) ?_
  simp only [List.take_succ_cons, List.take_zero, List.drop_succ_cons, List.drop_zero]
  repeat (refine wpSteady_step (fun K hK => ?_); go_simp; first | (refine steady_of ?_ (fun W hW => ?_) (hK _ ?_); rotate_left; (obtain ⟨h1, h2⟩ := hW; go_simp; first | done | rfl); clear hK K) | (refine hK _ ?_; clear hK K))
  refine wpSteady_nil ?_
  refine reg_one 10 2 (by kernel_rfl) (by kernel_rfl) ⟨c0, c1⟩ ?_
  simp only [List.take_succ_cons, List.take_zero, List.drop_succ_cons, List.drop_zero]
  go_wp2_with fail
  refine (left_any v z.natAbs k w.drew (unhide HD) hz1 hk).mono ?_
  rintro e w1 ⟨k1, v1, rfl, D1⟩
  have K1 := hide (of_drew k1)
  have HD1 := hide D1
  have c01 := cell_keep (unhide K1) hlt c0
  have c11 := cell_keep (unhide K1) hlt c1
  have hp1 := hide ((unhide HP).step (unhide K1))
  clear k1 D1
  go_wp2_with fail
  first | refine next_nil ?_ | refine next_go ?_
  refine reg_one 11 1 (by kernel_rfl) (by kernel_rfl) ⟨c01, c11⟩ ?_
  simp only [List.take_succ_cons, List.take_zero, List.drop_succ_cons, List.drop_zero]
  go_wp2_with fail
  refine (give_any p (decide (z < 0)) v1 _ w1 (unhide hp1) (unhide HD1) (unhide HZ)).mono ?_
  rintro e w2 ⟨rfl, k2, b2⟩
  rw [sg_mul2] at b2
  have K2 := hide k2
  have B2 := hide b2
  have hlt1 : q < w1.heap.size := Nat.lt_of_lt_of_le hlt (unhide K1).size
  have c02 := (World.cell?_of_block (w := w1) (a := ⟨q, 0, none⟩) ((unhide K2).block q hlt1 hne)).trans c01
  have c12 := (World.cell?_of_block (w := w1) (a := ⟨q, 1, none⟩) ((unhide K2).block q hlt1 hne)).trans c11
  clear k2 b2
  go_wp2_with fail
  first | refine next_nil ?_ | refine next_go ?_
  refine reg_one 12 0 (by kernel_rfl) (by kernel_rfl) ⟨c02, c12⟩ ?_
  simp only [List.take_succ_cons, List.take_zero, List.drop_succ_cons, List.drop_zero]
  go_wp2_with fail
  first | refine next_nil ?_ | refine next_go ?_
  refine reg_end (by kernel_rfl) ⟨c02, c12⟩ ?_
  go_wp2_with fail
  go_ret
  exact ⟨rfl, (Tn.of (unhide K1)).trans (unhide K2), unhide B2⟩
set_option maxHeartbeats 1000000 in
/-- A number that is moved up where it lies. -/
theorem lsh_own (p k : Nat) (z : Int) (w : World) (hq : Big w p z) (h0 : 0 ≤ z) (hk : k ≤ 1000) (hz : z * 2 ^ k < 4294967296 ^ 8) :
    Calls Tryz.prog 107 #[.pointer (some ⟨p, 0, none⟩), .pointer (some ⟨p, 0, none⟩), .int .u64 (k : Int)] w fun e w' => e = .returned (.pointer (some ⟨p, 0, none⟩)) ∧ Tn p w w' ∧ Big w' p (z * 2 ^ k) := by
  obtain ⟨v, c0, c1, hD, hlt⟩ := hq.cells
  have hn : (z.natAbs : Int) = z := by omega
  rw [hn] at hD
  have hb : decide (z < 0) = false := decide_eq_false (by omega)
  rw [hb] at c0
  have HP := hide hq.int
  have HD := hide hD
  have hz1 : z < 4294967296 ^ 8 := by
    have h1 : (1 : Int) ≤ 2 ^ k := Int.pow_pos (by decide)
    have h2 := Int.mul_le_mul_of_nonneg_left h1 h0
    omega
  have HZ := hide hz
  clear hq hD hz hn hb
  go_enter Tryz.func107, Tryz.ntmps107
  go_wp2_with fail
  refine reg_start (fun W => W.cell? ⟨p, 0, none⟩ = some (.bool false)) (by kernel_rfl) ?_
  refine reg_seg 0 8 5 (by kernel_rfl) (by decide) (by kernel_rfl) (by kernel_rfl) (fun _ _ _ _ _ h => h) ?_
  simp only [List.take_succ_cons, List.take_zero, List.drop_succ_cons, List.drop_zero]
  repeat (refine wpSteady_step (fun K hK => ?_); go_simp; first | (refine steady_of ?_ (fun W hW => ?_) (hK _ ?_); rotate_left; (obtain h1 := hW; go_simp; first | done | rfl); clear hK K) | (refine hK _ ?_; clear hK K))
  refine wpSteady_nil ?_
  refine reg_seg 9 1 4 (by kernel_rfl) (by decide) (by kernel_rfl) (by kernel_rfl) (fun _ _ _ _ _ h => h) ?_
  simp only [List.take_succ_cons, List.take_zero, List.drop_succ_cons, List.drop_zero]
  repeat (refine wpSteady_step (fun K hK => ?_); go_simp; first | (refine steady_of ?_ (fun W hW => ?_) (hK _ ?_); rotate_left; (obtain h1 := hW; go_simp; first | done | rfl); clear hK K) | (refine hK _ ?_; clear hK K))
  refine wpSteady_nil ?_
  refine reg_one 8 3 (by kernel_rfl) (by kernel_rfl) c0 ?_
  simp only [List.take_succ_cons, List.take_zero, List.drop_succ_cons, List.drop_zero]
  go_wp2_with fail
  first | refine next_nil ?_ | refine next_go ?_
  refine reg_one 10 2 (by kernel_rfl) (by kernel_rfl) c0 ?_
  simp only [List.take_succ_cons, List.take_zero, List.drop_succ_cons, List.drop_zero]
  go_wp2_with fail
  refine (left_any v z k w.drew (unhide HD) hz1 hk).mono ?_
  rintro e w1 ⟨k1, v1, rfl, D1⟩
  have K1 := hide (of_drew k1)
  have HD1 := hide D1
  have c01 := cell_keep (unhide K1) hlt c0
  have hp1 := hide ((unhide HP).step (unhide K1))
  clear k1 D1
  go_wp2_with fail
  first | refine next_nil ?_ | refine next_go ?_
  refine reg_one 11 1 (by kernel_rfl) (by kernel_rfl) c01 ?_
  simp only [List.take_succ_cons, List.take_zero, List.drop_succ_cons, List.drop_zero]
  go_wp2_with fail
  refine (give_any p false v1 _ w1 (unhide hp1) (unhide HD1) (unhide HZ)).mono ?_
  rintro e w2 ⟨rfl, k2, b2⟩
  have hs : sg false (z * 2 ^ k) = z * 2 ^ k := rfl
  rw [hs] at b2
  have K2 := hide k2
  obtain ⟨v2, c02, _, _, _⟩ := b2.cells
  have hb2 : decide (z * 2 ^ k < 0) = false := decide_eq_false (by have := Int.mul_nonneg h0 (Int.le_of_lt (Int.pow_pos (n := 2) (m := k) (by decide))); omega)
  rw [hb2] at c02
  have B2 := hide b2
  clear k2 b2 hb2 hs
  go_wp2_with fail
  first | refine next_nil ?_ | refine next_go ?_
  refine reg_one 12 0 (by kernel_rfl) (by kernel_rfl) c02 ?_
  simp only [List.take_succ_cons, List.take_zero, List.drop_succ_cons, List.drop_zero]
  go_wp2_with fail
  first | refine next_nil ?_ | refine next_go ?_
  refine reg_end (by kernel_rfl) c02 ?_
  go_wp2_with fail
  go_ret
  exact ⟨rfl, (Tn.of (unhide K1)).trans (unhide K2), unhide B2⟩
set_option maxHeartbeats 1000000 in
theorem mul_big (p q r : Nat) (x y : Int) (w : World) (hp : IntAt w p) (hq : Big w q x) (hr : Big w r y) (hne : q ≠ p) (hnr : r ≠ p) (hx : x.natAbs < 4294967296 ^ 4) (hy : y.natAbs < 4294967296 ^ 4) :
    Calls Tryz.prog 111 #[.pointer (some ⟨p, 0, none⟩), .pointer (some ⟨q, 0, none⟩), .pointer (some ⟨r, 0, none⟩)] w fun e w' => e = .returned (.pointer (some ⟨p, 0, none⟩)) ∧ Tn p w w' ∧ Big w' p (x * y) := by
  obtain ⟨v, c0, c1, hD, hlt⟩ := hq.cells
  obtain ⟨u, d0, d1, hE, hlr⟩ := hr.cells
  have HP := hide hp
  have HD := hide hD
  have HE := hide hE
  have HZ := hide (show (x.natAbs : Int) * y.natAbs < 4294967296 ^ 8 by
    have h1 : (x.natAbs : Int) * y.natAbs ≤ x.natAbs * 4294967296 ^ 4 := Int.mul_le_mul_of_nonneg_left (by omega) (by omega)
    have h2 : (x.natAbs : Int) * 4294967296 ^ 4 < 4294967296 ^ 4 * 4294967296 ^ 4 := Int.mul_lt_mul_of_pos_right (by omega) (by decide)
    have h3 : (4294967296 : Int) ^ 4 * 4294967296 ^ 4 = 4294967296 ^ 8 := by decide
    omega)
  have hb : sg (decide (x < 0) != decide (y < 0)) ((x.natAbs : Int) * y.natAbs) = x * y := sg_mulp x y
  have HB := hide hb
  clear hp hq hr hD hE hb
  go_enter Tryz.func111, Tryz.ntmps111
  go_wp2_with fail
  refine reg_start (fun W => W.cell? ⟨q, 0, none⟩ = some (.bool (decide (x < 0))) ∧ W.cell? ⟨q, 1, none⟩ = some v ∧ W.cell? ⟨r, 0, none⟩ = some (.bool (decide (y < 0))) ∧ W.cell? ⟨r, 1, none⟩ = some u) (by kernel_rfl) ?_
  refine reg_seg 0 18 3 (by kernel_rfl) (by decide) (by kernel_rfl) (by kernel_rfl) (fun _ _ _ _ _ h => h) ?_
  simp only [List.take_succ_cons, List.take_zero, List.drop_succ_cons, List.drop_zero]
  repeat (refine wpSteady_step (fun K hK => ?_); go_simp; first | (refine steady_of ?_ (fun W hW => ?_) (hK _ ?_); rotate_left; (obtain ⟨h1, h2, h3, h4⟩ := hW; go_simp; first | done | rfl); clear hK K) | (refine hK _ ?_; clear hK K))
  refine wpSteady_nil ?_
  refine reg_one 18 2 (by kernel_rfl) (by kernel_rfl) ⟨c0, c1, d0, d1⟩ ?_
  simp only [List.take_succ_cons, List.take_zero, List.drop_succ_cons, List.drop_zero]
  go_wp2_with fail
  refine (mul_bany v u x.natAbs y.natAbs w.drew (unhide HD) (unhide HE) (by omega) (by omega)).mono ?_
  rintro e w1 ⟨k1, v1, rfl, D1⟩
  have K1 := hide (of_drew k1)
  have HD1 := hide D1
  have c01 := cell_keep (unhide K1) hlt c0
  have c11 := cell_keep (unhide K1) hlt c1
  have d01 := cell_keep (unhide K1) hlr d0
  have d11 := cell_keep (unhide K1) hlr d1
  have hp1 := hide ((unhide HP).step (unhide K1))
  clear k1 D1
  go_wp2_with fail
  first | refine next_nil ?_ | refine next_go ?_
  refine reg_one 19 1 (by kernel_rfl) (by kernel_rfl) ⟨c01, c11, d01, d11⟩ ?_
  simp only [List.take_succ_cons, List.take_zero, List.drop_succ_cons, List.drop_zero]
  go_wp2_with fail
  refine (give_any p (decide (x < 0) != decide (y < 0)) v1 _ w1 (unhide hp1) (unhide HD1) (unhide HZ)).mono ?_
  rintro e w2 ⟨rfl, k2, b2⟩
  rw [unhide HB] at b2
  have K2 := hide k2
  have B2 := hide b2
  have hlt1 : q < w1.heap.size := Nat.lt_of_lt_of_le hlt (unhide K1).size
  have hlr1 : r < w1.heap.size := Nat.lt_of_lt_of_le hlr (unhide K1).size
  have CC := And.intro ((World.cell?_of_block (w := w1) (a := ⟨q, 0, none⟩) ((unhide K2).block q hlt1 hne)).trans c01) (And.intro ((World.cell?_of_block (w := w1) (a := ⟨q, 1, none⟩) ((unhide K2).block q hlt1 hne)).trans c11) (And.intro ((World.cell?_of_block (w := w1) (a := ⟨r, 0, none⟩) ((unhide K2).block r hlr1 hnr)).trans d01) ((World.cell?_of_block (w := w1) (a := ⟨r, 1, none⟩) ((unhide K2).block r hlr1 hnr)).trans d11)))
  have CC := hide CC
  clear k2 b2
  go_wp2_with fail
  first | refine next_nil ?_ | refine next_go ?_
  refine reg_one 20 0 (by kernel_rfl) (by kernel_rfl) (unhide CC) ?_
  simp only [List.take_succ_cons, List.take_zero, List.drop_succ_cons, List.drop_zero]
  go_wp2_with fail
  first | refine next_nil ?_ | refine next_go ?_
  refine reg_end (by kernel_rfl) (unhide CC) ?_
  go_wp2_with fail
  go_ret
  exact ⟨rfl, (Tn.of (unhide K1)).trans (unhide K2), unhide B2⟩
end Go.Proofs.YtaidefdbjcgcbaaGreat
