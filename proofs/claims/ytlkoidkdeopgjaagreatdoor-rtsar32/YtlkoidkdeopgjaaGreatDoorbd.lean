/-
  BigF, BigB, BigG, BigH.
-/
import Derived.Test.YtlkoidkdeopgjaaGreatDoorbc
import Derived.Test.YtlkoidkdeopgjaaGreatDoorka
set_option maxHeartbeats 4000000
set_option maxRecDepth 100000
namespace Go.Proofs.YtlkoidkdeopgjaaGreatDoor
open Go.RowKit
set_option linter.unusedSimpArgs false
set_option linter.unusedVariables false
structure Tn2 (p r : Nat) (w w' : World) : Prop where
 os : w'.os = w.os
 tape : w'.tape = w.tape
 output : w'.output = w.output
 size : w.heap.size ≤ w'.heap.size
 block : ∀ k, k < w.heap.size → k ≠ p → k ≠ r → w'.heap[k]? = w.heap[k]?
theorem Tn2.of {p r : Nat} {w w1 w' : World} (h : Tn p w w1) (k : Tn r w1 w') : Tn2 p r w w' :=
 ⟨k.os.trans h.os, k.tape.trans h.tape, k.output.trans h.output, Nat.le_trans h.size k.size, fun i hi h1 h2 => (k.block i (Nat.lt_of_lt_of_le hi h.size) h2).trans (h.block i hi h1)⟩
theorem Tn2.trans {p r : Nat} {a b c : World} (h : Tn2 p r a b) (k : Tn2 p r b c) : Tn2 p r a c :=
 ⟨k.os.trans h.os, k.tape.trans h.tape, k.output.trans h.output, Nat.le_trans h.size k.size, fun i hi h1 h2 => (k.block i (Nat.lt_of_lt_of_le hi h.size) h1 h2).trans (h.block i hi h1 h2)⟩
theorem Tn.left {p r : Nat} {w w' : World} (h : Tn p w w') : Tn2 p r w w' := ⟨h.os, h.tape, h.output, h.size, fun k hk h1 _ => h.block k hk h1⟩
theorem Tn.right {p r : Nat} {w w' : World} (h : Tn r w w') : Tn2 p r w w' := ⟨h.os, h.tape, h.output, h.size, fun k hk _ h2 => h.block k hk h2⟩
theorem Tn2.below {p r B : Nat} {w w' : World} (h : Tn2 p r w w') (hp : B ≤ p) (hr : B ≤ r) (hB : B ≤ w.heap.size) : Below B w w' := ⟨h.os, h.tape, h.output, h.size, fun k hk => h.block k (by omega) (by omega) (by omega)⟩
theorem Big.tn2 {w w' : World} {p r q : Nat} {z : Int} (h : Big w q z) (k : Tn2 p r w w') (hp : IntAt w p) (hr : IntAt w r) (h1 : q ≠ p) (h2 : q ≠ r) : Big w' q z := by
 have hl := h.lt
 obtain ⟨v, e1, L, hR, hI⟩ := h
 refine ⟨v, by rw [k.block q hl h1 h2]; exact e1, L, ?_, hI⟩
 rcases hR with hR | ⟨d, cap, cs, fz, g1, g2, g3, g4, g5⟩
 · exact .inl hR
 · refine .inr ⟨d, cap, cs, fz, g1, g2, g3, ?_, g5⟩
   rw [k.block d (Array.getElem?_eq_some_iff.1 g4).1 ?_ ?_]; exact g4
   · rintro rfl
     obtain ⟨s, u, e⟩ := hp
     rw [g4] at e
     simp at e
   · rintro rfl
     obtain ⟨s, u, e⟩ := hr
     rw [g4] at e
     simp at e
theorem IntAt.tn2 {w w' : World} {p r q : Nat} (h : IntAt w q) (k : Tn2 p r w w') (h1 : q ≠ p) (h2 : q ≠ r) : IntAt w' q := by
 have := h.lt
 obtain ⟨s, v, e⟩ := h
 exact ⟨s, v, by rw [k.block q this h1 h2]; exact e⟩
def DivOk (n1 n2 : Int) : Prop := ∀ (w : World) (v1 v2 : Value), Dg w v1 n1 → Dg w v2 n2 →
 Calls Tryz.prog 38 #[v1, v2] w fun e w' => Below w.heap.size w w' ∧ ∃ q r, e = .returned (.tuple #[q, r]) ∧ Dg w' q (n1 / n2) ∧ Dg w' r (n1 % n2)
theorem divOk_short {n1 n2 : Int} (hn1 : n1 < 4294967296 ^ 8) (hn2 : n2 < 4294967296 ^ 8) (hp : 0 < n2) (hs : n1 < n2 ∨ n1 < 18446744073709551616 ∨ n2 < 4294967296) : DivOk n1 n2 :=
 fun w v1 v2 h1 h2 => div_short v1 v2 n1 n2 w h1 h2 hn1 hn2 hp hs
theorem sg_quo (x y : Int) : sg (decide (x < 0) != decide (y < 0)) ((x.natAbs : Int) / (y.natAbs : Int)) = x.tdiv y := by
 unfold sg
 by_cases hx : x < 0 <;> by_cases hy : y < 0 <;> simp only [hx, hy, decide_true, decide_false]
 · rw [show (x.natAbs : Int) = -x by omega, show (y.natAbs : Int) = -y by omega]
   have := Int.neg_tdiv_neg x y
   rw [← this, Int.tdiv_eq_ediv_of_nonneg (by omega)]; rfl
 · rw [show (x.natAbs : Int) = -x by omega, show (y.natAbs : Int) = y by omega]
   rw [← Int.tdiv_eq_ediv_of_nonneg (by omega), Int.neg_tdiv, Int.neg_neg]; rfl
 · rw [show (x.natAbs : Int) = x by omega, show (y.natAbs : Int) = -y by omega]
   rw [← Int.tdiv_eq_ediv_of_nonneg (by omega), Int.tdiv_neg, Int.neg_neg]; rfl
 · rw [show (x.natAbs : Int) = x by omega, show (y.natAbs : Int) = y by omega]
   rw [← Int.tdiv_eq_ediv_of_nonneg (by omega)]; rfl
theorem sg_rem (x y : Int) : sg (decide (x < 0)) ((x.natAbs : Int) % (y.natAbs : Int)) = x.tmod y := by
 have ey : (x.natAbs : Int) % (y.natAbs : Int) = (x.natAbs : Int).tmod y := by
   rw [← Int.tmod_eq_emod_of_nonneg (by omega)]
   by_cases hy : y < 0
   · rw [show (y.natAbs : Int) = -y by omega, Int.tmod_neg]
   · rw [show (y.natAbs : Int) = y by omega]
 rw [ey]
 unfold sg
 by_cases hx : x < 0
 · rw [if_pos (by simp [hx]), show (x.natAbs : Int) = -x by omega, Int.neg_tmod, Int.neg_neg]
 · rw [if_neg (by simp [hx]), show (x.natAbs : Int) = x by omega]
theorem quorem_any (p a b r : Nat) (x y : Int) (w : World) (hp : IntAt w p) (hr : IntAt w r) (ha : Big w a x) (hb : Big w b y) (hne : p ≠ r) (hd : DivOk x.natAbs y.natAbs) (hx : x.natAbs < 4294967296 ^ 8) (hy : y.natAbs < 4294967296 ^ 8) (h0 : y ≠ 0) :
   Calls Tryz.prog 24 #[.pointer (some ⟨p, 0, none⟩), .pointer (some ⟨a, 0, none⟩), .pointer (some ⟨b, 0, none⟩), .pointer (some ⟨r, 0, none⟩)] w fun e w' => e = .returned (.tuple #[.pointer (some ⟨p, 0, none⟩), .pointer (some ⟨r, 0, none⟩)]) ∧ Tn2 p r w w' ∧ Big w' p (x.tdiv y) ∧ Big w' r (x.tmod y) := by
 obtain ⟨v, c0, c1, hD, hlt⟩ := ha.cells
 obtain ⟨u, d0, d1, hE, hlr⟩ := hb.cells
 have HP := hide hp
 have HR := hide hr
 have DV := hide (fun k => hd (w.drewN k) v u hD hE)
 have SQ := hide (sg_quo x y)
 have SR := hide (sg_rem x y)
 obtain ⟨q1, q2, q3, q4, q5⟩ := divOf (n1 := (x.natAbs : Int)) (n2 := (y.natAbs : Int)) (by omega) (by omega)
 clear hp hr ha hb hD hE hd
 go_enter Tryz.func24, Tryz.ntmps24
 go_wp2_with fail
 go_quiet (fail)
 go_wp2_with fail
 refine reg_start (fun W => W.cell? ⟨a, 1, none⟩ = some v ∧ W.cell? ⟨b, 1, none⟩ = some u) (by kernel_rfl) ?_
 refine reg_seg 0 8 6 (by kernel_rfl) (by decide) (by kernel_rfl) (by kernel_rfl) (fun _ _ _ _ _ h => h) ?_
 simp only [List.take_succ_cons, List.take_zero, List.drop_succ_cons, List.drop_zero]
 repeat (refine wpSteady_step (fun K hK => ?_); go_simp; first | (refine steady_of ?_ (fun W hW => ?_) (hK _ ?_); rotate_left; (obtain ⟨h1, h2⟩ := hW; go_simp; first | done | rfl); clear hK K) | (refine hK _ ?_; clear hK K))
 refine wpSteady_nil ?_
 refine reg_one 8 5 (by kernel_rfl) (by kernel_rfl) ⟨c1, d1⟩ ?_
 simp only [List.take_succ_cons, List.take_zero, List.drop_succ_cons, List.drop_zero]
 go_wp2_with fail
 refine (unhide DV _).mono ?_
 rintro e w1 ⟨k1, q, t, rfl, D1, D2⟩
 have K1 := hide (of_drewN k1)
 have HD1 := hide D1
 have HD2 := hide D2
 have c11 := cell_keep (unhide K1) hlt c1
 have d11 := cell_keep (unhide K1) hlr d1
 clear k1 D1 D2
 go_wp2_with fail
 first | refine next_nil ?_ | refine next_go ?_
 refine reg_seg 9 5 0 (by kernel_rfl) (by decide) (by kernel_rfl) (by kernel_rfl) (fun _ _ _ _ _ h => h) ?_
 simp only [List.take_succ_cons, List.take_zero, List.drop_succ_cons, List.drop_zero]
 repeat (refine wpSteady_step (fun K hK => ?_); go_simp; first | (refine steady_of ?_ (fun W hW => ?_) (hK _ ?_); rotate_left; (obtain ⟨h1, h2⟩ := hW; go_simp; first | done | rfl); clear hK K) | (refine hK _ ?_; clear hK K))
 refine wpSteady_nil ?_
 refine reg_end (by kernel_rfl) ⟨c11, d11⟩ ?_
 go_wp2_with fail
 refine (give_any p (decide (x < 0) != decide (y < 0)) q _ w1 ((unhide HP).step (unhide K1)) (unhide HD1) (by omega)).mono ?_
 rintro e w2 ⟨rfl, k2, b2⟩
 rw [unhide SQ] at b2
 have K2 := hide k2
 have B2 := hide b2
 have T2 := hide ((unhide HD2).tn (unhide K2) ((unhide HP).step (unhide K1)))
 have R2 := hide (((unhide HR).step (unhide K1)).tn (unhide K2) (Ne.symm hne))
 clear k2 b2
 go_wp2_with fail
 refine (give_any r _ t _ w2 (unhide R2) (unhide T2) (by omega)).mono ?_
 rintro e w3 ⟨rfl, k3, b3⟩
 rw [unhide SR] at b3
 have K3 := hide k3
 have B3 := hide b3
 have B23 := hide ((unhide B2).tn (unhide K3) (unhide R2) hne)
 clear k3 b3
 go_wp2_with fail
 go_ret2
 exact ⟨rfl, Tn2.of ((Tn.of (unhide K1)).trans (unhide K2)) (unhide K3), unhide B23, unhide B3⟩
theorem fdiv_pos {x y : Int} (hy : 0 < y) : (0 ≤ x.tmod y → x.tdiv y = x / y ∧ x.tmod y = x % y) ∧ (x.tmod y < 0 → x.tdiv y - 1 = x / y ∧ x.tmod y + y = x % y) := by
 have h1 := Int.mul_tdiv_add_tmod x y
 have h2 : x.tmod y < y := Int.tmod_lt_of_pos x hy
 have h3 : -y < x.tmod y := by
   by_cases hx : 0 ≤ x
   · have := Int.tmod_nonneg y hx; omega
   · have e : (-x).tmod y = -(x.tmod y) := Int.neg_tmod ..
     have : (-x).tmod y < y := Int.tmod_lt_of_pos _ hy
     omega
 constructor
 · intro h
   have e : x = x.tmod y + y * x.tdiv y := by omega
   constructor
   · conv => rhs; rw [e]
     rw [Int.add_mul_ediv_left _ _ (by omega), Int.ediv_eq_zero_of_lt h h2]; omega
   · conv => rhs; rw [e]
     rw [Int.add_mul_emod_self_left, Int.emod_eq_of_lt h h2]
 · intro h
   have e : x = (x.tmod y + y) + y * (x.tdiv y - 1) := by rw [Int.mul_sub, Int.mul_one]; omega
   constructor
   · conv => rhs; rw [e]
     rw [Int.add_mul_ediv_left _ _ (by omega), Int.ediv_eq_zero_of_lt (by omega) (by omega)]; omega
   · conv => rhs; rw [e]
     rw [Int.add_mul_emod_self_left, Int.emod_eq_of_lt (by omega) (by omega)]
theorem tdiv_abs (x y : Int) (h0 : 0 < y) : (x.tdiv y).natAbs ≤ x.natAbs ∧ (x.tmod y).natAbs ≤ x.natAbs := by
 constructor
 · rw [Int.natAbs_tdiv]; exact Nat.div_le_self _ _
 · rw [Int.natAbs_tmod]; exact Nat.mod_le _ _
theorem divmod_any (p a b r : Nat) (x y : Int) (w : World) (hp : IntAt w p) (hr : IntAt w r) (ha : Big w a x) (hb : Big w b y) (hne : p ≠ r) (hd : DivOk x.natAbs y.natAbs) (hx : x.natAbs < 4294967296 ^ 6) (hy : y.natAbs < 4294967296 ^ 6) (h0 : 0 < y) :
   Calls Tryz.prog 32 #[.pointer (some ⟨p, 0, none⟩), .pointer (some ⟨a, 0, none⟩), .pointer (some ⟨b, 0, none⟩), .pointer (some ⟨r, 0, none⟩)] w fun e w' => e = .returned (.tuple #[.pointer (some ⟨p, 0, none⟩), .pointer (some ⟨r, 0, none⟩)]) ∧ Tn2 p r w w' ∧ Big w' p (x / y) ∧ Big w' r (x % y) := by
 have HN := hide (Big.new w)
 have KN := hide (below_a w (.cells #[.bool false, .slice none 0 0] 34))
 have HP := hide hp
 have HR := hide hr
 have HA := hide ha
 have HB := hide hb
 have HD := hide hd
 obtain ⟨f1, f2⟩ := fdiv_pos (x := x) h0
 obtain ⟨a1, a2⟩ := tdiv_abs x y h0
 have lp := hp.lt
 have lr := hr.lt
 have la := ha.lt
 have lb := hb.lt
 clear hp hr ha hb hd
 go_enter Tryz.func32, Tryz.ntmps32
 go_wp2_with fail
 refine (set_any w.heap.size b y _ (unhide HN).int ((unhide HB).step (unhide KN)) (by omega) (by omega)).mono ?_
 rintro e w1 ⟨rfl, k1, b1⟩
 have K1 := hide ((unhide KN).trans (k1.below (Nat.le_refl _) (by simp)))
 have B1 := hide b1
 clear k1 b1
 go_wp2_with fail
 refine (quorem_any p a b r x y w1 ((unhide HP).step (unhide K1)) ((unhide HR).step (unhide K1)) ((unhide HA).step (unhide K1)) ((unhide HB).step (unhide K1)) hne (unhide HD) (by omega) (by omega) (by omega)).mono ?_
 rintro e w2 ⟨rfl, k2, b2, c2⟩
 have K2 := hide k2
 have B2 := hide b2
 have C2 := hide c2
 have D2 := hide ((unhide B1).tn2 (unhide K2) ((unhide HP).step (unhide K1)) ((unhide HR).step (unhide K1)) (by omega) (by omega))
 obtain ⟨vr, m0, m1, _, _⟩ := c2.cells
 obtain ⟨vd, n0, n1, _, _⟩ := (unhide D2).cells
 have lr2 := c2.lt
 have ld2 := (unhide D2).lt
 clear k2 b2 c2
 by_cases hneg : x.tmod y < 0
 · have bn : decide (x.tmod y < 0) = true := decide_eq_true hneg
   have by0 : decide (y < 0) = false := decide_eq_false (by omega)
   rw [bn] at m0
   rw [by0] at n0
   obtain ⟨e1, e2⟩ := f2 hneg
   clear f1 f2 bn by0
   go_wp2_with fail
   refine (newI_any 1 w2 ⟨by decide, by decide⟩).mono ?_
   rintro e w3 ⟨rfl, k3, b3⟩
   have K3 := hide k3
   have B3 := hide b3
   clear k3 b3
   go_wp2_with fail
   refine (sub_big p p w2.heap.size (x.tdiv y) 1 w3 ((unhide B2).int.step (unhide K3)) ((unhide B2).step (unhide K3)) (unhide B3) (by have := (unhide B2).lt; omega) (by omega) (by decide)).mono ?_
   rintro e w4 ⟨rfl, k4, b4⟩
   rw [e1] at b4
   have K4 := hide k4
   have B4 := hide b4
   have C4 := hide (((unhide C2).step (unhide K3)).tn (unhide K4) ((unhide B2).int.step (unhide K3)) (Ne.symm hne))
   have D4 := hide (((unhide D2).step (unhide K3)).tn (unhide K4) ((unhide B2).int.step (unhide K3)) (by omega))
   clear k4 b4
   go_wp2_with fail
   refine (add_big r r w.heap.size (x.tmod y) y w4 (unhide C4).int (unhide C4) (unhide D4) (by omega) (by omega) (by omega)).mono ?_
   rintro e w5 ⟨rfl, k5, b5⟩
   rw [e2] at b5
   have K5 := hide k5
   have B5 := hide b5
   have B45 := hide ((unhide B4).tn (unhide K5) (unhide C4).int hne)
   clear k5 b5
   go_wp2_with fail
   go_ret2
   exact ⟨rfl, ((Tn.left (Tn.of (unhide K1))).trans (unhide K2)).trans ((Tn.left ((Tn.of (unhide K3)).trans (unhide K4))).trans (Tn.right (unhide K5))), unhide B45, unhide B5⟩
 · have bn : decide (x.tmod y < 0) = false := decide_eq_false hneg
   rw [bn] at m0
   obtain ⟨e1, e2⟩ := f1 (by omega)
   rw [e1] at B2
   rw [e2] at C2
   clear f1 f2 bn e1 e2
   go_wp2_with fail
   go_ret2
   exact ⟨rfl, (Tn.left (Tn.of (unhide K1))).trans (unhide K2), unhide B2, unhide C2⟩
theorem mod_any (p a b : Nat) (x y : Int) (w : World) (hp : IntAt w p) (ha : Big w a x) (hb : Big w b y) (hd : DivOk x.natAbs y.natAbs) (hx : x.natAbs < 4294967296 ^ 6) (hy : y.natAbs < 4294967296 ^ 6) (h0 : 0 < y) :
   Calls Tryz.prog 41 #[.pointer (some ⟨p, 0, none⟩), .pointer (some ⟨a, 0, none⟩), .pointer (some ⟨b, 0, none⟩)] w fun e w' => e = .returned (.pointer (some ⟨p, 0, none⟩)) ∧ Tn p w w' ∧ Big w' p (x % y) := by
 have HN := hide (Big.new w)
 have KN := hide (below_a w (.cells #[.bool false, .slice none 0 0] 34))
 have HP := hide hp
 have HA := hide ha
 have HB := hide hb
 have HD := hide hd
 have lp := hp.lt
 clear hp ha hb hd
 go_enter Tryz.func41, Tryz.ntmps41
 go_wp2_with fail
 refine (divmod_any w.heap.size a b p x y _ (unhide HN).int ((unhide HP).step (unhide KN)) ((unhide HA).step (unhide KN)) ((unhide HB).step (unhide KN)) (by omega) (unhide HD) hx hy h0).mono ?_
 rintro e w1 ⟨rfl, k1, b1, c1⟩
 have K1 := hide k1
 have C1 := hide c1
 clear k1 b1 c1
 go_wp2_with fail
 go_ret
 refine ⟨rfl, ⟨(unhide K1).os, (unhide K1).tape, (unhide K1).output, ?_, fun k hk hn => ?_⟩, unhide C1⟩
 · have := (unhide K1).size; simp at this; omega
 · rw [(unhide K1).block k (by simp; omega) (by omega) hn]; exact (unhide KN).block k hk
end Go.Proofs.YtlkoidkdeopgjaaGreatDoor
namespace Go.Proofs.YtlkoidkdeopgjaaGreatDoor
open Go.RowKit
set_option linter.unusedSimpArgs false
set_option linter.unusedVariables false
theorem sg_mul2 (z : Int) (k : Nat) : sg (decide (z < 0)) ((z.natAbs : Int) * 2 ^ k) = z * 2 ^ k := by
 have h := sg_abs z
 unfold sg at *
 split
 · rename_i hh; rw [if_pos hh] at h; rw [← Int.neg_mul, h]
 · rename_i hh; rw [if_neg hh] at h; rw [h]
theorem lsh_any (p q k : Nat) (z : Int) (w : World) (hp : IntAt w p) (hq : Big w q z) (hne : q ≠ p) (hk : k ≤ 1000) (hz : (z.natAbs : Int) * 2 ^ k < 4294967296 ^ 8) :
   Calls Tryz.prog 31 #[.pointer (some ⟨p, 0, none⟩), .pointer (some ⟨q, 0, none⟩), .int .u64 (k : Int)] w fun e w' => e = .returned (.pointer (some ⟨p, 0, none⟩)) ∧ Tn p w w' ∧ Big w' p (z * 2 ^ k) := by
 obtain ⟨v, c0, c1, hD, hlt⟩ := hq.cells
 have HP := hide hp
 have HQ := hide hq
 have HD := hide hD
 have hz1 : (z.natAbs : Int) < 4294967296 ^ 8 := by
   have h1 : (1 : Int) ≤ 2 ^ k := Int.pow_pos (by decide)
   have h2 := Int.mul_le_mul_of_nonneg_left h1 (show (0 : Int) ≤ z.natAbs by omega)
   omega
 have HZ := hide hz
 clear hp hq hD hz
 go_enter Tryz.func31, Tryz.ntmps31
 go_wp2_with fail
 refine reg_start (fun W => W.cell? ⟨q, 0, none⟩ = some (.bool (decide (z < 0))) ∧ W.cell? ⟨q, 1, none⟩ = some v) (by kernel_rfl) ?_
 refine reg_seg 0 10 3 (by kernel_rfl) (by decide) (by kernel_rfl) (by kernel_rfl) (fun _ _ _ _ _ h => h) ?_
 simp only [List.take_succ_cons, List.take_zero, List.drop_succ_cons, List.drop_zero]
 repeat (refine wpSteady_step (fun K hK => ?_); go_simp; first | (refine steady_of ?_ (fun W hW => ?_) (hK _ ?_); rotate_left; (obtain ⟨h1, h2⟩ := hW; go_simp; first | done | rfl); clear hK K) | (refine hK _ ?_; clear hK K))
 refine wpSteady_nil ?_
 refine reg_one 10 2 (by kernel_rfl) (by kernel_rfl) ⟨c0, c1⟩ ?_
 simp only [List.take_succ_cons, List.take_zero, List.drop_succ_cons, List.drop_zero]
 go_wp2_with fail
 refine (left_any v z.natAbs k w.drew (unhide HD) hz1 hk).mono ?_
 rintro e w1 ⟨k1, v1, rfl, D1⟩
 have K1 := hide (of_drew k1)
 have HD1 := hide D1
 have c01 := cell_keep (unhide K1) hlt c0
 have c11 := cell_keep (unhide K1) hlt c1
 have hp1 := hide ((unhide HP).step (unhide K1))
 clear k1 D1
 go_wp2_with fail
 first | refine next_nil ?_ | refine next_go ?_
 refine reg_one 11 1 (by kernel_rfl) (by kernel_rfl) ⟨c01, c11⟩ ?_
 simp only [List.take_succ_cons, List.take_zero, List.drop_succ_cons, List.drop_zero]
 go_wp2_with fail
 refine (give_any p (decide (z < 0)) v1 _ w1 (unhide hp1) (unhide HD1) (unhide HZ)).mono ?_
 rintro e w2 ⟨rfl, k2, b2⟩
 rw [sg_mul2] at b2
 have K2 := hide k2
 have B2 := hide b2
 have hlt1 : q < w1.heap.size := Nat.lt_of_lt_of_le hlt (unhide K1).size
 have c02 := (World.cell?_of_block (w := w1) (a := ⟨q, 0, none⟩) ((unhide K2).block q hlt1 hne)).trans c01
 have c12 := (World.cell?_of_block (w := w1) (a := ⟨q, 1, none⟩) ((unhide K2).block q hlt1 hne)).trans c11
 clear k2 b2
 go_wp2_with fail
 first | refine next_nil ?_ | refine next_go ?_
 refine reg_one 12 0 (by kernel_rfl) (by kernel_rfl) ⟨c02, c12⟩ ?_
 simp only [List.take_succ_cons, List.take_zero, List.drop_succ_cons, List.drop_zero]
 go_wp2_with fail
 first | refine next_nil ?_ | refine next_go ?_
 refine reg_end (by kernel_rfl) ⟨c02, c12⟩ ?_
 go_wp2_with fail
 go_ret
 exact ⟨rfl, (Tn.of (unhide K1)).trans (unhide K2), unhide B2⟩
theorem lsh_own (p k : Nat) (z : Int) (w : World) (hq : Big w p z) (h0 : 0 ≤ z) (hk : k ≤ 1000) (hz : z * 2 ^ k < 4294967296 ^ 8) :
   Calls Tryz.prog 31 #[.pointer (some ⟨p, 0, none⟩), .pointer (some ⟨p, 0, none⟩), .int .u64 (k : Int)] w fun e w' => e = .returned (.pointer (some ⟨p, 0, none⟩)) ∧ Tn p w w' ∧ Big w' p (z * 2 ^ k) := by
 obtain ⟨v, c0, c1, hD, hlt⟩ := hq.cells
 have hn : (z.natAbs : Int) = z := by omega
 rw [hn] at hD
 have hb : decide (z < 0) = false := decide_eq_false (by omega)
 rw [hb] at c0
 have HP := hide hq.int
 have HD := hide hD
 have hz1 : z < 4294967296 ^ 8 := by
   have h1 : (1 : Int) ≤ 2 ^ k := Int.pow_pos (by decide)
   have h2 := Int.mul_le_mul_of_nonneg_left h1 h0
   omega
 have HZ := hide hz
 clear hq hD hz hn hb
 go_enter Tryz.func31, Tryz.ntmps31
 go_wp2_with fail
 refine reg_start (fun W => W.cell? ⟨p, 0, none⟩ = some (.bool false)) (by kernel_rfl) ?_
 refine reg_seg 0 8 5 (by kernel_rfl) (by decide) (by kernel_rfl) (by kernel_rfl) (fun _ _ _ _ _ h => h) ?_
 simp only [List.take_succ_cons, List.take_zero, List.drop_succ_cons, List.drop_zero]
 repeat (refine wpSteady_step (fun K hK => ?_); go_simp; first | (refine steady_of ?_ (fun W hW => ?_) (hK _ ?_); rotate_left; (obtain h1 := hW; go_simp; first | done | rfl); clear hK K) | (refine hK _ ?_; clear hK K))
 refine wpSteady_nil ?_
 refine reg_seg 9 1 4 (by kernel_rfl) (by decide) (by kernel_rfl) (by kernel_rfl) (fun _ _ _ _ _ h => h) ?_
 simp only [List.take_succ_cons, List.take_zero, List.drop_succ_cons, List.drop_zero]
 repeat (refine wpSteady_step (fun K hK => ?_); go_simp; first | (refine steady_of ?_ (fun W hW => ?_) (hK _ ?_); rotate_left; (obtain h1 := hW; go_simp; first | done | rfl); clear hK K) | (refine hK _ ?_; clear hK K))
 refine wpSteady_nil ?_
 refine reg_one 8 3 (by kernel_rfl) (by kernel_rfl) c0 ?_
 simp only [List.take_succ_cons, List.take_zero, List.drop_succ_cons, List.drop_zero]
 go_wp2_with fail
 first | refine next_nil ?_ | refine next_go ?_
 refine reg_one 10 2 (by kernel_rfl) (by kernel_rfl) c0 ?_
 simp only [List.take_succ_cons, List.take_zero, List.drop_succ_cons, List.drop_zero]
 go_wp2_with fail
 refine (left_any v z k w.drew (unhide HD) hz1 hk).mono ?_
 rintro e w1 ⟨k1, v1, rfl, D1⟩
 have K1 := hide (of_drew k1)
 have HD1 := hide D1
 have c01 := cell_keep (unhide K1) hlt c0
 have hp1 := hide ((unhide HP).step (unhide K1))
 clear k1 D1
 go_wp2_with fail
 first | refine next_nil ?_ | refine next_go ?_
 refine reg_one 11 1 (by kernel_rfl) (by kernel_rfl) c01 ?_
 simp only [List.take_succ_cons, List.take_zero, List.drop_succ_cons, List.drop_zero]
 go_wp2_with fail
 refine (give_any p false v1 _ w1 (unhide hp1) (unhide HD1) (unhide HZ)).mono ?_
 rintro e w2 ⟨rfl, k2, b2⟩
 have hs : sg false (z * 2 ^ k) = z * 2 ^ k := rfl
 rw [hs] at b2
 have K2 := hide k2
 obtain ⟨v2, c02, _, _, _⟩ := b2.cells
 have hb2 : decide (z * 2 ^ k < 0) = false := decide_eq_false (by have := Int.mul_nonneg h0 (Int.le_of_lt (Int.pow_pos (n := 2) (m := k) (by decide))); omega)
 rw [hb2] at c02
 have B2 := hide b2
 clear k2 b2 hb2 hs
 go_wp2_with fail
 first | refine next_nil ?_ | refine next_go ?_
 refine reg_one 12 0 (by kernel_rfl) (by kernel_rfl) c02 ?_
 simp only [List.take_succ_cons, List.take_zero, List.drop_succ_cons, List.drop_zero]
 go_wp2_with fail
 first | refine next_nil ?_ | refine next_go ?_
 refine reg_end (by kernel_rfl) c02 ?_
 go_wp2_with fail
 go_ret
 exact ⟨rfl, (Tn.of (unhide K1)).trans (unhide K2), unhide B2⟩
end Go.Proofs.YtlkoidkdeopgjaaGreatDoor
namespace Go.Proofs.YtlkoidkdeopgjaaGreatDoor
open Go.RowKit
set_option linter.unusedSimpArgs false
set_option linter.unusedVariables false
theorem rwidth_yes (n : Int) (h : IsW n) (w : World) :
   Calls Tryz.prog 18 #[.int .i64 n] w fun e w' => e = .returned (.bool true) ∧ Below w.heap.size w w' := by
 have KB := hide (below_a w (.cells #[.int .i64 8, .int .i64 16, .int .i64 32, .int .i64 64] 3))
 have BX := hide (Box.new w #[.int .i64 8, .int .i64 16, .int .i64 32, .int .i64 64] 3)
 have HN := hide (show ∃ k : Nat, k ≤ 3 ∧ n = [8, 16, 32, 64].getD k 0 by
   rcases h with rfl | rfl | rfl | rfl
   · exact ⟨0, by decide, rfl⟩
   · exact ⟨1, by decide, rfl⟩
   · exact ⟨2, by decide, rfl⟩
   · exact ⟨3, by decide, rfl⟩)
 clear h
 obtain ⟨k, hk, rfl⟩ := unhide HN
 clear HN
 go_enter Tryz.func18, Tryz.ntmps18
 go_wp2_with fail
 generalize hW : w.alloc (.cells #[.int .i64 8, .int .i64 16, .int .i64 32, .int .i64 64] 3) = W at *
 clear hW
 go_loopg [7] 4 (fun g t wr => ∃ i : Nat, i ≤ k ∧ g = 4 - i ∧ t = .int .i64 i ∧ wr = W)
 case atStart => exact ⟨0, Nat.zero_le _, rfl, rfl, rfl⟩
 case round =>
   obtain ⟨i, hi, hg, rfl, rfl⟩ := hrel
   obtain ⟨b1, b2, _⟩ := unhide BX
   have c0 := b2 0 _ rfl
   have c1 := b2 1 _ rfl
   have c2 := b2 2 _ rfl
   have c3 := b2 3 _ rfl
   clear b2
   have hk4 : k = 0 ∨ k = 1 ∨ k = 2 ∨ k = 3 := by omega
   have hi4 : i = 0 ∨ i = 1 ∨ i = 2 ∨ i = 3 := by omega
   rcases hk4 with rfl | rfl | rfl | rfl <;> rcases hi4 with rfl | rfl | rfl | rfl
   all_goals first
     | (exfalso; omega)
     | (go_wp2_with fail; go_ret; exact ⟨rfl, unhide KB⟩)
     | (go_wp2_with fail; go_roundg 3; (case measure => omega); (case rel => exact ⟨1, by omega, rfl, rfl, rfl⟩))
     | (go_wp2_with fail; go_roundg 2; (case measure => omega); (case rel => exact ⟨2, by omega, rfl, rfl, rfl⟩))
     | (go_wp2_with fail; go_roundg 1; (case measure => omega); (case rel => exact ⟨3, by omega, rfl, rfl, rfl⟩))
theorem p64 {k : Nat} (h : k ≤ 64) : (0 : Int) < 2 ^ k ∧ (2 : Int) ^ k ≤ 18446744073709551616 := by
 refine ⟨Int.pow_pos (by decide), ?_⟩
 have e : (2 : Int) ^ 64 = 2 ^ k * 2 ^ (64 - k) := by rw [← Int.pow_add]; congr 1; omega
 have h1 : (0 : Int) < 2 ^ k := Int.pow_pos (by decide)
 have h2 : (1 : Int) ≤ 2 ^ (64 - k) := Int.pow_pos (by decide)
 have h3 := Int.mul_le_mul_of_nonneg_left h2 (Int.le_of_lt h1)
 have h4 : (2 : Int) ^ 64 = 18446744073709551616 := by decide
 omega
theorem big6 : (18446744073709551616 : Int) < 4294967296 ^ 6 ∧ (18446744073709551616 : Int) < 4294967296 ^ 8 := by decide
theorem one_pow {k : Nat} (h : (2 : Int) ^ k ≤ 18446744073709551616) : (((1 : Int).natAbs : Nat) : Int) * 2 ^ k < 4294967296 ^ 8 := by
 have e : (((1 : Int).natAbs : Nat) : Int) * 2 ^ k = 2 ^ k := Int.one_mul _
 rw [e]
 exact Int.lt_of_le_of_lt h big6.2
theorem pow_abs {k : Nat} (h : (2 : Int) ^ k ≤ 18446744073709551616) (h0 : (0 : Int) < 2 ^ k) : ((2 : Int) ^ k).natAbs < 4294967296 ^ 6 ∧ ((((2 : Int) ^ k).natAbs : Nat) : Int) = 2 ^ k := by
 have e : ((((2 : Int) ^ k).natAbs : Nat) : Int) = 2 ^ k := Int.natAbs_of_nonneg (Int.le_of_lt h0)
 refine ⟨?_, e⟩
 omega
theorem two_any (k : Nat) (w : World) (hk : k ≤ 64) :
   Calls Tryz.prog 33 #[.int .i64 (k : Int)] w fun e w' => e = .returned (.pointer (some ⟨w.heap.size, 0, none⟩)) ∧ Below w.heap.size w w' ∧ Big w' w.heap.size (2 ^ k) := by
 have HN := hide (Big.new w)
 have KN := hide (below_a w (.cells #[.bool false, .slice none 0 0] 34))
 obtain ⟨p1, p2⟩ := p64 hk
 have hs : (w.alloc (.cells #[.bool false, .slice none 0 0] 34)).heap.size = w.heap.size + 1 := by simp
 have Z1 := hide (one_pow p2)
 go_enter Tryz.func33, Tryz.ntmps33
 go_wp2_with fail
 generalize w.alloc (.cells #[.bool false, .slice none 0 0] 34) = W at *
 refine (newI_any 1 W ⟨by decide, by decide⟩).mono ?_
 rintro e w1 ⟨rfl, k1, b1⟩
 have K1 := hide k1
 rw [hs] at b1
 have B1 := hide b1
 clear k1 b1
 go_wp2_with fail
 refine (lsh_any w.heap.size (w.heap.size + 1) k 1 w1 ((unhide HN).int.step (unhide K1)) (unhide B1) (by omega) (by omega) (unhide Z1)).mono ?_
 rintro e w2 ⟨rfl, k2, b2⟩
 rw [Int.one_mul] at b2
 have K2 := hide k2
 have B2 := hide b2
 clear k2 b2
 go_wp2_with fail
 go_ret
 exact ⟨rfl, (unhide KN).trans (((unhide K1).mono (by omega)).trans ((unhide K2).below (Nat.le_refl _) (by have := (unhide K1).size; omega))), unhide B2⟩
theorem fit_any (a : Nat) (x : Int) (k : Nat) (w : World) (ha : Big w a x) (hk : k ≤ 64) (hx : x.natAbs < 4294967296 ^ 6) (hd : DivOk x.natAbs (2 ^ k)) :
   Calls Tryz.prog 27 #[.pointer (some ⟨a, 0, none⟩), .int .i64 (k : Int)] w fun e w' => e = .returned (.int .u64 (x % 2 ^ k)) ∧ Below w.heap.size w w' := by
 have HN := hide (Big.new w)
 have KN := hide (below_a w (.cells #[.bool false, .slice none 0 0] 34))
 obtain ⟨p1, p2⟩ := p64 hk
 have q1 := Int.emod_nonneg x (show (2 : Int) ^ k ≠ 0 by omega)
 have q2 := Int.emod_lt_of_pos x p1
 have HA := hide ha
 obtain ⟨p3, p4⟩ := pow_abs p2 p1
 have HD := hide (show DivOk x.natAbs ((2 : Int) ^ k).natAbs by rw [p4]; exact hd)
 have P3 := hide p3
 clear p3 p4
 have hs : (w.alloc (.cells #[.bool false, .slice none 0 0] 34)).heap.size = w.heap.size + 1 := by simp
 clear ha hd
 go_enter Tryz.func27, Tryz.ntmps27
 go_wp2_with fail
 generalize w.alloc (.cells #[.bool false, .slice none 0 0] 34) = W at *
 refine (two_any k W hk).mono ?_
 rintro e w1 ⟨rfl, k1, b1⟩
 have K1 := hide k1
 rw [hs] at b1
 have B1 := hide b1
 clear k1 b1
 go_wp2_with fail
 refine (mod_any w.heap.size a (w.heap.size + 1) x (2 ^ k) w1 ((unhide HN).int.step (unhide K1)) (((unhide HA).step (unhide KN)).step (unhide K1)) (unhide B1) (unhide HD) hx (unhide P3) p1).mono ?_
 rintro e w2 ⟨rfl, k2, b2⟩
 have K2 := hide k2
 have B2 := hide b2
 clear k2 b2
 generalize hX : x % 2 ^ k = X at *
 have HX := hide hX
 clear hX
 have UA := uint_any w.heap.size X w2 (unhide B2) (by omega)
 rw [show ((X.natAbs : Nat) : Int) = X by omega] at UA
 have HU := hide UA
 clear UA
 go_wp2_with fail
 refine (unhide HU).mono ?_
 rintro e w3 ⟨rfl, rfl⟩
 go_wp2_with fail
 go_ret
 exact ⟨congrArg (fun z => Ending.returned (Value.int .u64 z)) (unhide HX).symm, (unhide KN).trans (((unhide K1).mono (by omega)).trans ((unhide K2).below (Nat.le_refl _) (by have := (unhide K1).size; omega)))⟩
end Go.Proofs.YtlkoidkdeopgjaaGreatDoor
namespace Go.Proofs.YtlkoidkdeopgjaaGreatDoor
open Go.RowKit
set_option linter.unusedSimpArgs false
set_option linter.unusedVariables false
def dv (N : Int) : Nat → Int
 | 0 => N
 | k + 1 => dv N k / 65536
def wl (N : Int) (k : Nat) : List Int := (List.range k).map fun i => dv N i % 65536
theorem wl_succ (N : Int) (k : Nat) : (wl N (k + 1)).map int1 = (wl N k).map int1 ++ [.int .i64 (dv N k % 65536)] := by
 unfold wl
 rw [List.range_succ, List.map_append, List.map_append]
 rfl
theorem wl_len (N : Int) (k : Nat) : (wl N k).length = k := by simp [wl]
theorem dv_u {N : Int} (h : U N) : ∀ k, U (dv N k)
 | 0 => h
 | k + 1 => by have := dv_u h k; unfold U at *; simp only [dv]; omega
theorem own_tn2 {w w' : World} {B n p r : Nat} {v : Value} {cs : List Value} (h : w.ownsRow B 3 1 v n cs) (k : Tn2 p r w w') (hp : IntAt w p) (hr : IntAt w r) : w'.ownsRow B 3 1 v n cs := by
 refine ⟨h.1, ?_⟩
 rcases h.2 with hn | ⟨g, cap, cur, rfl, hb, hg, q⟩
 · exact .inl hn
 · refine .inr ⟨g, cap, cur, rfl, hb, ?_, q⟩
   rw [k.block g (Array.getElem?_eq_some_iff.1 hg).1 ?_ ?_]; exact hg
   · rintro rfl
     obtain ⟨s, u, e⟩ := hp
     rw [hg] at e
     simp at e
   · rintro rfl
     obtain ⟨s, u, e⟩ := hr
     rw [hg] at e
     simp at e
theorem own_ty {w : World} {B n : Nat} {v : Value} {cs : List Value} (h : w.ownsRow B 3 1 v n cs) (g : Nat) (hg : v.ownBlock = some g) : ∃ c, w.heap[g]? = some (.cells c 3 (0, 0)) := by
 rcases h.2 with ⟨rfl, _⟩ | ⟨g', cap, cur, rfl, hb, hh, q⟩
 · cases hg
 · cases hg
   exact ⟨cur, hh⟩
theorem Big.grown {w w' : World} {B n p : Nat} {v : Value} {cs : List Value} {z : Int} (h : Big w p z) (ho : w.ownsRow B 3 1 v n cs) (k : w.grownBy w' v.ownBlock) : Big w' p z := by
 have hl := h.lt
 obtain ⟨u, e1, L, hR, hI⟩ := h
 have ne : ∀ b T c f, T ≠ 3 → w.heap[b]? = some (.cells c T f) → some b ≠ v.ownBlock := by
   intro b T c f hT hb he
   obtain ⟨c', e⟩ := own_ty ho b he.symm
   rw [hb] at e
   injection e with e
   injection e with _ e _
   exact hT e
 refine ⟨u, by rw [k.block p hl (ne p _ _ _ (by decide) e1)]; exact e1, L, ?_, hI⟩
 rcases hR with hR | ⟨d, cap, cs, fz, g1, g2, g3, g4, g5⟩
 · exact .inl hR
 · exact .inr ⟨d, cap, cs, fz, g1, g2, g3, by rw [k.block d (Array.getElem?_eq_some_iff.1 g4).1 (ne d _ _ _ (by decide) g4)]; exact g4, g5⟩
theorem below_tn2 {B p r : Nat} {a w w' : World} (h : Below B a w) (k : Tn2 p r w w') (hp : B ≤ p) (hr : B ≤ r) (hB : B ≤ w.heap.size) : Below B a w' := h.trans (k.below hp hr hB)
def kw (W : Int) : Nat := if W = 64 then 4 else if W = 32 then 2 else 1
theorem rsplit_any (x W : Int) (w : World) (h : IsW W) (hx : U x) :
   Calls Tryz.prog 29 #[.int .u64 x, .int .i64 W] w fun e w' => Below w.heap.size w w' ∧ ∃ v, e = .returned (.tuple #[v, .int .i64 0]) ∧ Ints w' v (wl (cut W x) (kw W)) := by
 obtain ⟨i0, hi, hz0, hz1, hz2⟩ := info_parts (show (Tryz.prog.info? 3).map (fun i => (i.zero, i.size, i.bytes)) = some (some (.int .i64 0), 1, 8) by kernel_rfl)
 obtain ⟨kb, hkb, hk64, hmd⟩ : ∃ kb : Nat, W = kb ∧ kb ≤ 64 ∧ md W = 2 ^ kb := by
   rcases h with rfl | rfl | rfl | rfl
   · exact ⟨8, rfl, by decide, rfl⟩
   · exact ⟨16, rfl, by decide, rfl⟩
   · exact ⟨32, rfl, by decide, rfl⟩
   · exact ⟨64, rfl, by decide, rfl⟩
 obtain ⟨kq, hkq, hkk⟩ : ∃ kq : Nat, W.tdiv 16 = (kq : Int) ∧ ((kw W = 1 ∧ kq ≤ 1) ∨ (kw W = kq ∧ kq ≤ 4)) ∧ 1 ≤ kw W := by
   rcases h with rfl | rfl | rfl | rfl
   · exact ⟨0, by decide, .inl ⟨rfl, by decide⟩, by decide⟩
   · exact ⟨1, by decide, .inl ⟨rfl, by decide⟩, by decide⟩
   · exact ⟨2, by decide, .inr ⟨rfl, by decide⟩, by decide⟩
   · exact ⟨4, by decide, .inr ⟨rfl, by decide⟩, by decide⟩
 have uN := u_cut h x
 have hc : x % 2 ^ kb = cut W x := by unfold cut; rw [hmd]
 have RW := hide (fun v => rwidth_yes W h v)
 have HW1 := isW_le h
 have HM := hide hmd
 obtain ⟨p1, p2⟩ := p64 hk64
 have HC := hide hc
 obtain ⟨hx0, hx1⟩ := hx
 have FD := hide (divOk_short (n1 := (x.natAbs : Int)) (n2 := 2 ^ kb) (by omega) (Int.lt_of_le_of_lt p2 big6.2) p1 (.inr (.inl (by omega))))
 have uD := hide (fun k => dv_u uN k)
 obtain ⟨N, hN⟩ : ∃ N, N = cut W x := ⟨_, rfl⟩
 rw [← hN] at HC uN uD ⊢
 clear h hmd hc hN
 subst hkb
 generalize hWd : (kb : Int) = W at *
 have HWD := hide hWd
 clear hWd
 go_enter Tryz.func29, Tryz.ntmps29
 go_wp2_with fail
 refine (unhide RW _).mono ?_
 rintro e w1 ⟨rfl, k1⟩
 have K1 := hide k1
 clear k1
 go_wp2_with fail
 refine (whole_any x w1 ⟨hx0, hx1⟩).mono ?_
 rintro e w2 ⟨rfl, k2, b2⟩
 have K2 := hide k2
 have B2 := hide b2
 clear k2 b2
 go_wp2_with fail
 have FT := fit_any w1.heap.size x kb w2 (unhide B2) hk64 (by omega) (unhide FD)
 rw [unhide HC, unhide HWD] at FT
 refine FT.mono ?_
 clear FT
 rintro e w3 ⟨rfl, k3⟩
 have K3 := hide k3
 clear k3
 go_wp2_with fail
 refine (whole_any N w3 uN).mono ?_
 rintro e w4 ⟨rfl, k4, b4⟩
 have K4 := hide ((unhide K1).trans (((unhide K2).mono (unhide K1).size).trans (((unhide K3).mono (Nat.le_trans (unhide K1).size (unhide K2).size)).trans (k4.mono (Nat.le_trans (Nat.le_trans (unhide K1).size (unhide K2).size) (unhide K3).size)))))
 have B4 := hide b4
 have hP : w.heap.size ≤ w3.heap.size := Nat.le_trans (Nat.le_trans (unhide K1).size (unhide K2).size) (unhide K3).size
 clear k4 b4 K1 K2 K3 B2 FD RW
 generalize w3.heap.size = P at *
 go_wp2_with fail
 go_loopg [7, 8] (kw W) (fun g o t wr => ∃ k : Nat, k ≤ kw W ∧ g = kw W - k ∧ t = .int .i64 k ∧ Hid (wr.ownsRow w.heap.size 3 1 o k ((wl N k).map int1)) ∧ Hid (Big wr P (dv N k)) ∧ Hid (Below w.heap.size w wr))
 case atStart => exact ⟨0, Nat.zero_le _, rfl, rfl, World.ownsRow_nil _ _ _ _, B4, K4⟩
 case round =>
   obtain ⟨k, hk, hg, rfl, hO, hB, hK⟩ := hrel
   clear B4 K4
   have ud := unhide uD k
   unfold U at ud
   have sK := (unhide hK).size
   by_cases k0 : k = 0
   · have b0 : ((k : Int) == 0) = true := by rw [k0]; rfl
     have hlt : k < kw W := by omega
     clear k0
     go_wp2_with fail
     have HN := hide (Big.new wr)
     have KN := hide (below_a wr (.cells #[.bool false, .slice none 0 0] 34))
     have hsz : (wr.alloc (.cells #[.bool false, .slice none 0 0] 34)).heap.size = wr.heap.size + 1 := by simp
     have lP := (unhide hB).lt
     generalize wr.alloc (.cells #[.bool false, .slice none 0 0] 34) = W1 at *
     refine (two_any 16 W1 (by decide)).mono ?_
     rintro e w2 ⟨rfl, k2, b2⟩
     rw [hsz] at b2
     have K2 := hide k2
     have B2 := hide b2
     have s2 := (unhide K2).size
     clear k2 b2
     go_wp2_with fail
     have IP := hide (((unhide hB).int.step (unhide KN)).step (unhide K2))
     have IR := hide ((unhide HN).int.step (unhide K2))
     have ND := hide (divOk_short (n1 := ((dv N k).natAbs : Int)) (n2 := (((2 : Int) ^ 16).natAbs : Int)) (by omega) (by decide) (by decide) (.inr (.inr (by decide))))
     refine (divmod_any P P (wr.heap.size + 1) wr.heap.size (dv N k) (2 ^ 16) w2 (unhide IP) (unhide IR) (((unhide hB).step (unhide KN)).step (unhide K2)) (unhide B2) (by omega) (unhide ND) (by omega) (by decide) (by decide)).mono ?_
     rintro e w3 ⟨rfl, k3, b3, c3⟩
     have K3 := hide k3
     have s3 := (unhide K3).size
     have B3 := hide (show Big w3 P (dv N (k + 1)) from b3)
     have C3 := hide (show Big w3 wr.heap.size (dv N k % 65536) from c3)
     have O3 := hide (own_tn2 (own_step (own_step (unhide hO) (unhide KN)) (unhide K2)) (unhide K3) (unhide IP) (unhide IR))
     have L3 := hide (below_tn2 ((unhide hK).trans (((unhide KN).mono (by omega)).trans ((unhide K2).mono (by omega)))) (unhide K3) (by omega) (by omega) (by omega))
     clear k3 b3 c3
     go_wp2_with fail
     have IA := hide (int_any wr.heap.size (dv N k % 65536) w3 (unhide C3) ⟨by omega, by omega⟩)
     refine (unhide IA).mono ?_
     rintro e w4 ⟨rfl, rfl⟩
     clear IA
     go_wp2_with (at_builtin; refine wpList_append_own _ rfl (.tmp 34) (.tmp 37) 43 rfl w.heap.size 3 i0 (.int .i64 0) 1 8 Tryz.underlying43 hi hz0 hz1 hz2 rfl (by decide) _ _ _ rfl ((unhide O3).alloc _) ⟨_, 0, none⟩ 1 1 [.int .i64 (dv N k % 65536)] rfl rfl (one_c1 _ _ _) (one_c2 _ _) (by unfold maxLen; omega) (by omega) (by simp; omega) ?_; intro v5 w5 own5 grow5 _; have O5 := hide (show w5.ownsRow w.heap.size 3 1 v5 (k + 1) ((wl N (k + 1)).map int1) by rw [wl_succ]; exact own5); have B5 := hide (((unhide B3).step (below_a _ _)).grown ((unhide O3).alloc _) grow5); have L5 := hide (below_own ((unhide L3).alloc (by omega) _) (by simp; omega) ((unhide O3).alloc _) grow5); clear own5 grow5)
     go_roundg (kw W - (k + 1))
     case measure => omega
     case rel => exact ⟨k + 1, by omega, rfl, by go_num, O5, B5, L5⟩
   · have b0 : ((k : Int) == 0) = false := beq_eq_false_iff_ne.2 (by omega)
     by_cases hlt : k < kw W
     · have b1 : decide ((k : Int) < (kq : Int)) = true := decide_eq_true (by omega)
       go_wp2_with fail
       have HN := hide (Big.new wr)
       have KN := hide (below_a wr (.cells #[.bool false, .slice none 0 0] 34))
       have hsz : (wr.alloc (.cells #[.bool false, .slice none 0 0] 34)).heap.size = wr.heap.size + 1 := by simp
       have lP := (unhide hB).lt
       generalize wr.alloc (.cells #[.bool false, .slice none 0 0] 34) = W1 at *
       refine (two_any 16 W1 (by decide)).mono ?_
       rintro e w2 ⟨rfl, k2, b2⟩
       rw [hsz] at b2
       have K2 := hide k2
       have B2 := hide b2
       have s2 := (unhide K2).size
       clear k2 b2
       go_wp2_with fail
       have IP := hide (((unhide hB).int.step (unhide KN)).step (unhide K2))
       have IR := hide ((unhide HN).int.step (unhide K2))
       have ND := hide (divOk_short (n1 := ((dv N k).natAbs : Int)) (n2 := (((2 : Int) ^ 16).natAbs : Int)) (by omega) (by decide) (by decide) (.inr (.inr (by decide))))
       refine (divmod_any P P (wr.heap.size + 1) wr.heap.size (dv N k) (2 ^ 16) w2 (unhide IP) (unhide IR) (((unhide hB).step (unhide KN)).step (unhide K2)) (unhide B2) (by omega) (unhide ND) (by omega) (by decide) (by decide)).mono ?_
       rintro e w3 ⟨rfl, k3, b3, c3⟩
       have K3 := hide k3
       have s3 := (unhide K3).size
       have B3 := hide (show Big w3 P (dv N (k + 1)) from b3)
       have C3 := hide (show Big w3 wr.heap.size (dv N k % 65536) from c3)
       have O3 := hide (own_tn2 (own_step (own_step (unhide hO) (unhide KN)) (unhide K2)) (unhide K3) (unhide IP) (unhide IR))
       have L3 := hide (below_tn2 ((unhide hK).trans (((unhide KN).mono (by omega)).trans ((unhide K2).mono (by omega)))) (unhide K3) (by omega) (by omega) (by omega))
       clear k3 b3 c3
       go_wp2_with fail
       have IA := hide (int_any wr.heap.size (dv N k % 65536) w3 (unhide C3) ⟨by omega, by omega⟩)
       refine (unhide IA).mono ?_
       rintro e w4 ⟨rfl, rfl⟩
       clear IA
       go_wp2_with (at_builtin; refine wpList_append_own _ rfl (.tmp 34) (.tmp 37) 43 rfl w.heap.size 3 i0 (.int .i64 0) 1 8 Tryz.underlying43 hi hz0 hz1 hz2 rfl (by decide) _ _ _ rfl ((unhide O3).alloc _) ⟨_, 0, none⟩ 1 1 [.int .i64 (dv N k % 65536)] rfl rfl (one_c1 _ _ _) (one_c2 _ _) (by unfold maxLen; omega) (by omega) (by simp; omega) ?_; intro v5 w5 own5 grow5 _; have O5 := hide (show w5.ownsRow w.heap.size 3 1 v5 (k + 1) ((wl N (k + 1)).map int1) by rw [wl_succ]; exact own5); have B5 := hide (((unhide B3).step (below_a _ _)).grown ((unhide O3).alloc _) grow5); have L5 := hide (below_own ((unhide L3).alloc (by omega) _) (by simp; omega) ((unhide O3).alloc _) grow5); clear own5 grow5)
       go_roundg (kw W - (k + 1))
       case measure => omega
       case rel => exact ⟨k + 1, by omega, rfl, by go_num, O5, B5, L5⟩
     · have b1 : decide ((k : Int) < (kq : Int)) = false := decide_eq_false (by omega)
       have hkk2 : k = kw W := by omega
       have OI := hide (show Ints wr _ (wl N k) by
         have := Lies.owned (unhide hO)
         unfold Ints
         rw [wl_len]
         exact this)
       rw [hkk2] at OI
       clear hkk2
       go_wp2_with fail
       go_ret2
       exact ⟨unhide hK, _, rfl, unhide OI⟩
end Go.Proofs.YtlkoidkdeopgjaaGreatDoor
