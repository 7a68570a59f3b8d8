/-
  BigA, BigC, BigD, BigE.
-/
import Derived.Test.YtlkoidkdeopgjaaGreatDoorbb
import Derived.Test.YtlkoidkdeopgjaaGreatDooryReg
set_option maxHeartbeats 4000000
set_option maxRecDepth 100000
namespace Go.Proofs.YtlkoidkdeopgjaaGreatDoor
open Go.RowKit
set_option linter.unusedSimpArgs false
set_option linter.unusedVariables false
theorem of_drew {w w1 : World} (k : Below w.drew.heap.size w.drew w1) : Below w.heap.size w w1 := ⟨k.os, k.tape, k.output, k.size, k.block⟩
theorem sg_abs (z : Int) : sg (decide (z < 0)) (z.natAbs : Int) = z := by
 unfold sg
 by_cases h : z < 0
 · simp [h]; omega
 · simp [h]; omega
theorem set_any (p q : Nat) (z : Int) (w : World) (hp : IntAt w p) (hq : Big w q z) (hne : q ≠ p) (hz : z.natAbs < 4294967296 ^ 8) :
   Calls Tryz.prog 48 #[.pointer (some ⟨p, 0, none⟩), .pointer (some ⟨q, 0, none⟩)] w fun e w' => e = .returned (.pointer (some ⟨p, 0, none⟩)) ∧ Tn p w w' ∧ Big w' p z := by
 obtain ⟨v, c0, c1, hD, hlt⟩ := hq.cells
 have HP := hide hp
 have HQ := hide hq
 have HD := hide hD
 clear hp hq hD
 go_enter Tryz.func48, Tryz.ntmps48
 go_wp2_with fail
 refine reg_start (fun W => W.cell? ⟨q, 0, none⟩ = some (.bool (decide (z < 0))) ∧ W.cell? ⟨q, 1, none⟩ = some v) (by kernel_rfl) ?_
 refine reg_seg 0 9 3 (by kernel_rfl) (by decide) (by kernel_rfl) (by kernel_rfl) (fun _ _ _ _ _ h => h) ?_
 simp only [List.take_succ_cons, List.take_zero, List.drop_succ_cons, List.drop_zero]
 repeat (refine wpSteady_step (fun K hK => ?_); go_simp; first | (refine steady_of ?_ (fun W hW => ?_) (hK _ ?_); rotate_left; (obtain ⟨h1, h2⟩ := hW; go_simp; first | done | rfl); clear hK K) | (refine hK _ ?_; clear hK K))
 refine wpSteady_nil ?_
 refine reg_one 9 2 (by kernel_rfl) (by kernel_rfl) ⟨c0, c1⟩ ?_
 simp only [List.take_succ_cons, List.take_zero, List.drop_succ_cons, List.drop_zero]
 go_wp2_with fail
 refine (twin_any v z.natAbs w.drew (unhide HD) (by omega)).mono ?_
 rintro e w1 ⟨k1, v1, rfl, D1⟩
 have K1 := hide (of_drew k1)
 have HD1 := hide D1
 have c01 := cell_keep (unhide K1) hlt c0
 have c11 := cell_keep (unhide K1) hlt c1
 have hp1 := hide ((unhide HP).step (unhide K1))
 clear k1 D1
 go_wp2_with fail
 first | refine next_nil ?_ | refine next_go ?_
 refine reg_one 10 1 (by kernel_rfl) (by kernel_rfl) ⟨c01, c11⟩ ?_
 simp only [List.take_succ_cons, List.take_zero, List.drop_succ_cons, List.drop_zero]
 go_wp2_with fail
 refine (give_any p (decide (z < 0)) v1 z.natAbs w1 (unhide hp1) (unhide HD1) (by omega)).mono ?_
 rintro e w2 ⟨rfl, k2, b2⟩
 rw [sg_abs] at b2
 have K2 := hide k2
 have B2 := hide b2
 have hlt1 : q < w1.heap.size := Nat.lt_of_lt_of_le hlt (unhide K1).size
 have c02 := (World.cell?_of_block (w := w1) (a := ⟨q, 0, none⟩) ((unhide K2).block q hlt1 hne)).trans c01
 have c12 := (World.cell?_of_block (w := w1) (a := ⟨q, 1, none⟩) ((unhide K2).block q hlt1 hne)).trans c11
 clear k2 b2
 go_wp2_with fail
 first | refine next_nil ?_ | refine next_go ?_
 refine reg_one 11 0 (by kernel_rfl) (by kernel_rfl) ⟨c02, c12⟩ ?_
 simp only [List.take_succ_cons, List.take_zero, List.drop_succ_cons, List.drop_zero]
 go_wp2_with fail
 first | refine next_nil ?_ | refine next_go ?_
 refine reg_end (by kernel_rfl) ⟨c02, c12⟩ ?_
 go_wp2_with fail
 go_ret
 exact ⟨rfl, (Tn.of (unhide K1)).trans (unhide K2), unhide B2⟩
end Go.Proofs.YtlkoidkdeopgjaaGreatDoor
namespace Go.Proofs.YtlkoidkdeopgjaaGreatDoor
open Go.RowKit
set_option linter.unusedSimpArgs false
set_option linter.unusedVariables false
theorem of_drewN {w w1 : World} {q : Nat} (k : Below (w.drewN q).heap.size (w.drewN q) w1) : Below w.heap.size w w1 := ⟨k.os, k.tape, k.output, k.size, k.block⟩
theorem sum_any (a b : Bool) (v1 v2 : Value) (n1 n2 : Int) (w : World) (h1 : Dg w v1 n1) (h2 : Dg w v2 n2) (hn1 : n1 < 4294967296 ^ 7) (hn2 : n2 < 4294967296 ^ 7) :
   Calls Tryz.prog 36 #[.bool a, v1, .bool b, v2] w fun e w' => Below w.heap.size w w' ∧ ∃ c v n, e = .returned (.tuple #[.bool c, v]) ∧ Dg w' v n ∧ n < 4294967296 ^ 8 ∧ sg c n = sg a n1 + sg b n2 := by
 have H1 := hide h1
 have H2 := hide h2
 obtain ⟨L1, g1, i1⟩ := h1
 obtain ⟨L2, g2, i2⟩ := h2
 have lo1 := i1.lo
 have lo2 := i2.lo
 clear i1 i2 g1 g2
 by_cases hab : a = b
 · subst hab
   go_enter Tryz.func36, Tryz.ntmps36
   go_wp2_with fail
   refine (badd_any v1 v2 n1 n2 w (unhide H1) (unhide H2) (by omega) (by omega)).mono ?_
   rintro e w1 ⟨k1, v, rfl, D1⟩
   have K1 := hide k1
   have HD := hide D1
   clear k1 D1
   go_wp2_with fail
   go_ret2
   exact ⟨unhide K1, _, _, _, rfl, unhide HD, by omega, by unfold sg; cases a <;> simp; omega⟩
 · have hab2 : (a == b) = false := by cases a <;> cases b <;> simp_all
   have hb : b = !a := by cases a <;> cases b <;> simp_all
   have HB := hide hb
   have CM := hide (cmp_any v1 v2 n1 n2 w (unhide H1) (unhide H2) (by omega) (by omega))
   by_cases hge : n2 ≤ n1
   · have hcm : decide (0 ≤ cm n1 n2) = true := by unfold cm; rw [if_neg (by omega)]; split <;> decide
     go_enter Tryz.func36, Tryz.ntmps36
     go_wp2_with fail
     refine (unhide CM).mono ?_
     rintro e w1 ⟨⟨q, rfl⟩, rfl⟩
     go_wp2_with fail
     refine (bsub_any v1 v2 n1 n2 (w.drewN q) (unhide H1) (unhide H2) (by omega) hge).mono ?_
     rintro e w2 ⟨k1, v, rfl, D1⟩
     have K1 := hide (of_drewN k1)
     have HD := hide D1
     clear k1 D1
     go_wp2_with fail
     go_ret2
     exact ⟨unhide K1, _, _, _, rfl, unhide HD, by omega, by rw [unhide HB]; unfold sg; cases a <;> simp <;> omega⟩
   · have hcm : decide (0 ≤ cm n1 n2) = false := by unfold cm; rw [if_pos (by omega)]; decide
     go_enter Tryz.func36, Tryz.ntmps36
     go_wp2_with fail
     refine (unhide CM).mono ?_
     rintro e w1 ⟨⟨q, rfl⟩, rfl⟩
     go_wp2_with fail
     refine (bsub_any v2 v1 n2 n1 (w.drewN q) (unhide H2) (unhide H1) (by omega) (by omega)).mono ?_
     rintro e w2 ⟨k1, v, rfl, D1⟩
     have K1 := hide (of_drewN k1)
     have HD := hide D1
     clear k1 D1
     go_wp2_with fail
     go_ret2
     exact ⟨unhide K1, _, _, _, rfl, unhide HD, by omega, by rw [unhide HB]; unfold sg; cases a <;> simp <;> omega⟩
theorem sg_neg (z : Int) : sg (!decide (z < 0)) (z.natAbs : Int) = -z := by
 have h := sg_abs z
 unfold sg at *
 by_cases hz : z < 0
 · simp [hz] at h ⊢; omega
 · simp [hz] at h ⊢; omega
theorem add_big (p q r : Nat) (x y : Int) (w : World) (hp : IntAt w p) (hq : Big w q x) (hr : Big w r y) (hnr : r ≠ p) (hx : x.natAbs < 4294967296 ^ 7) (hy : y.natAbs < 4294967296 ^ 7) :
   Calls Tryz.prog 20 #[.pointer (some ⟨p, 0, none⟩), .pointer (some ⟨q, 0, none⟩), .pointer (some ⟨r, 0, none⟩)] w fun e w' => e = .returned (.pointer (some ⟨p, 0, none⟩)) ∧ Tn p w w' ∧ Big w' p (x + y) := by
 obtain ⟨v, c0, c1, hD, hlt⟩ := hq.cells
 obtain ⟨u, d0, d1, hE, hlr⟩ := hr.cells
 have HP := hide hp
 have HD := hide hD
 have HE := hide hE
 have HB : Hid (sg (decide (x < 0)) (x.natAbs : Int) + sg (decide (y < 0)) (y.natAbs : Int) = x + y) := (by rw [sg_abs, sg_abs] : sg (decide (x < 0)) (x.natAbs : Int) + sg (decide (y < 0)) (y.natAbs : Int) = x + y)
 clear hp hq hr hD hE
 go_enter Tryz.func20, Tryz.ntmps20
 go_wp2_with fail
 refine reg_start (fun W => W.cell? ⟨r, 0, none⟩ = some (.bool (decide (y < 0))) ∧ W.cell? ⟨r, 1, none⟩ = some u) (by kernel_rfl) ?_
 refine reg_seg 0 4 18 (by kernel_rfl) (by decide) (by kernel_rfl) (by kernel_rfl) (fun _ _ _ _ _ h => h) ?_
 simp only [List.take_succ_cons, List.take_zero, List.drop_succ_cons, List.drop_zero]
 repeat (refine wpSteady_step (fun K hK => ?_); go_simp; first | (refine steady_of ?_ (fun W hW => ?_) (hK _ ?_); rotate_left; (obtain ⟨h1, h2⟩ := hW; go_simp; first | done | rfl); clear hK K) | (refine hK _ ?_; clear hK K))
 refine wpSteady_nil ?_
 refine reg_seg 5 3 15 (by kernel_rfl) (by decide) (by kernel_rfl) (by kernel_rfl) (fun _ _ _ _ _ h => h) ?_
 simp only [List.take_succ_cons, List.take_zero, List.drop_succ_cons, List.drop_zero]
 repeat (refine wpSteady_step (fun K hK => ?_); go_simp; first | (refine steady_of ?_ (fun W hW => ?_) (hK _ ?_); rotate_left; (obtain ⟨h1, h2⟩ := hW; go_simp; first | done | rfl); clear hK K) | (refine hK _ ?_; clear hK K))
 refine wpSteady_nil ?_
 refine reg_seg 9 8 7 (by kernel_rfl) (by decide) (by kernel_rfl) (by kernel_rfl) (fun _ _ _ _ _ h => h) ?_
 simp only [List.take_succ_cons, List.take_zero, List.drop_succ_cons, List.drop_zero]
 repeat (refine wpSteady_step (fun K hK => ?_); go_simp; first | (refine steady_of ?_ (fun W hW => ?_) (hK _ ?_); rotate_left; (obtain ⟨h1, h2⟩ := hW; go_simp; first | done | rfl); clear hK K) | (refine hK _ ?_; clear hK K))
 refine wpSteady_nil ?_
 refine reg_two 4 8 6 (by kernel_rfl) (by kernel_rfl) ⟨d0, d1⟩ ?_ ?_
 · simp only [List.take_succ_cons, List.take_zero, List.drop_succ_cons, List.drop_zero]
   go_wp2_with fail
   first | refine next_nil ?_ | refine next_go ?_
   refine reg_one 8 5 (by kernel_rfl) (by kernel_rfl) ⟨d0, d1⟩ ?_
   simp only [List.take_succ_cons, List.take_zero, List.drop_succ_cons, List.drop_zero]
   go_wp2_with fail
   first | refine next_nil ?_ | refine next_go ?_
   refine reg_one 17 4 (by kernel_rfl) (by kernel_rfl) ⟨d0, d1⟩ ?_
   simp only [List.take_succ_cons, List.take_zero, List.drop_succ_cons, List.drop_zero]
   go_wp2_with fail
   refine (sum_any (decide (x < 0)) (decide (y < 0)) v u x.natAbs y.natAbs w.drew (unhide HD) (unhide HE) (by omega) (by omega)).mono ?_
   rintro e w1 ⟨k1, c, v1, n1, rfl, D1, hn1, hs1⟩
   have K1 := hide (of_drew k1)
   have HD1 := hide D1
   have HS := hide hs1
   have d01 := cell_keep (unhide K1) hlr d0
   have d11 := cell_keep (unhide K1) hlr d1
   have hp1 := hide ((unhide HP).step (unhide K1))
   clear k1 D1 hs1
   go_wp2_with fail
   first | refine next_nil ?_ | refine next_go ?_
   refine reg_seg 18 2 2 (by kernel_rfl) (by decide) (by kernel_rfl) (by kernel_rfl) (fun _ _ _ _ _ h => h) ?_
   simp only [List.take_succ_cons, List.take_zero, List.drop_succ_cons, List.drop_zero]
   repeat (refine wpSteady_step (fun K hK => ?_); go_simp; first | (refine steady_of ?_ (fun W hW => ?_) (hK _ ?_); rotate_left; (obtain ⟨h1, h2⟩ := hW; go_simp; first | done | rfl); clear hK K) | (refine hK _ ?_; clear hK K))
   refine wpSteady_nil ?_
   refine reg_one 20 1 (by kernel_rfl) (by kernel_rfl) ⟨d01, d11⟩ ?_
   simp only [List.take_succ_cons, List.take_zero, List.drop_succ_cons, List.drop_zero]
   go_wp2_with fail
   refine (give_any p c v1 n1 w1 (unhide hp1) (unhide HD1) hn1).mono ?_
   rintro e w2 ⟨rfl, k2, b2⟩
   rw [unhide HS, unhide HB] at b2
   have K2 := hide k2
   have B2 := hide b2
   have hlr1 : r < w1.heap.size := Nat.lt_of_lt_of_le hlr (unhide K1).size
   have d02 := (World.cell?_of_block (w := w1) (a := ⟨r, 0, none⟩) ((unhide K2).block r hlr1 hnr)).trans d01
   have d12 := (World.cell?_of_block (w := w1) (a := ⟨r, 1, none⟩) ((unhide K2).block r hlr1 hnr)).trans d11
   clear k2 b2
   go_wp2_with fail
   first | refine next_nil ?_ | refine next_go ?_
   refine reg_one 21 0 (by kernel_rfl) (by kernel_rfl) ⟨d02, d12⟩ ?_
   simp only [List.take_succ_cons, List.take_zero, List.drop_succ_cons, List.drop_zero]
   go_wp2_with fail
   first | refine next_nil ?_ | refine next_go ?_
   refine reg_end (by kernel_rfl) ⟨d02, d12⟩ ?_
   go_wp2_with fail
   go_ret
   exact ⟨rfl, (Tn.of (unhide K1)).trans (unhide K2), unhide B2⟩
 · simp only [List.take_succ_cons, List.take_zero, List.drop_succ_cons, List.drop_zero]
   go_wp2_with fail
   first | refine next_nil ?_ | refine next_go ?_
   refine reg_one 4 5 (by kernel_rfl) (by kernel_rfl) ⟨d0, d1⟩ ?_
   simp only [List.take_succ_cons, List.take_zero, List.drop_succ_cons, List.drop_zero]
   go_wp2_with fail
   first | refine next_nil ?_ | refine next_go ?_
   refine reg_one 17 4 (by kernel_rfl) (by kernel_rfl) ⟨d0, d1⟩ ?_
   simp only [List.take_succ_cons, List.take_zero, List.drop_succ_cons, List.drop_zero]
   go_wp2_with fail
   refine (sum_any (decide (x < 0)) (decide (y < 0)) v u x.natAbs y.natAbs w.drew (unhide HD) (unhide HE) (by omega) (by omega)).mono ?_
   rintro e w1 ⟨k1, c, v1, n1, rfl, D1, hn1, hs1⟩
   have K1 := hide (of_drew k1)
   have HD1 := hide D1
   have HS := hide hs1
   have d01 := cell_keep (unhide K1) hlr d0
   have d11 := cell_keep (unhide K1) hlr d1
   have hp1 := hide ((unhide HP).step (unhide K1))
   clear k1 D1 hs1
   go_wp2_with fail
   first | refine next_nil ?_ | refine next_go ?_
   refine reg_seg 18 2 2 (by kernel_rfl) (by decide) (by kernel_rfl) (by kernel_rfl) (fun _ _ _ _ _ h => h) ?_
   simp only [List.take_succ_cons, List.take_zero, List.drop_succ_cons, List.drop_zero]
   repeat (refine wpSteady_step (fun K hK => ?_); go_simp; first | (refine steady_of ?_ (fun W hW => ?_) (hK _ ?_); rotate_left; (obtain ⟨h1, h2⟩ := hW; go_simp; first | done | rfl); clear hK K) | (refine hK _ ?_; clear hK K))
   refine wpSteady_nil ?_
   refine reg_one 20 1 (by kernel_rfl) (by kernel_rfl) ⟨d01, d11⟩ ?_
   simp only [List.take_succ_cons, List.take_zero, List.drop_succ_cons, List.drop_zero]
   go_wp2_with fail
   refine (give_any p c v1 n1 w1 (unhide hp1) (unhide HD1) hn1).mono ?_
   rintro e w2 ⟨rfl, k2, b2⟩
   rw [unhide HS, unhide HB] at b2
   have K2 := hide k2
   have B2 := hide b2
   have hlr1 : r < w1.heap.size := Nat.lt_of_lt_of_le hlr (unhide K1).size
   have d02 := (World.cell?_of_block (w := w1) (a := ⟨r, 0, none⟩) ((unhide K2).block r hlr1 hnr)).trans d01
   have d12 := (World.cell?_of_block (w := w1) (a := ⟨r, 1, none⟩) ((unhide K2).block r hlr1 hnr)).trans d11
   clear k2 b2
   go_wp2_with fail
   first | refine next_nil ?_ | refine next_go ?_
   refine reg_one 21 0 (by kernel_rfl) (by kernel_rfl) ⟨d02, d12⟩ ?_
   simp only [List.take_succ_cons, List.take_zero, List.drop_succ_cons, List.drop_zero]
   go_wp2_with fail
   first | refine next_nil ?_ | refine next_go ?_
   refine reg_end (by kernel_rfl) ⟨d02, d12⟩ ?_
   go_wp2_with fail
   go_ret
   exact ⟨rfl, (Tn.of (unhide K1)).trans (unhide K2), unhide B2⟩
theorem sub_big (p q r : Nat) (x y : Int) (w : World) (hp : IntAt w p) (hq : Big w q x) (hr : Big w r y) (hnr : r ≠ p) (hx : x.natAbs < 4294967296 ^ 7) (hy : y.natAbs < 4294967296 ^ 7) :
   Calls Tryz.prog 21 #[.pointer (some ⟨p, 0, none⟩), .pointer (some ⟨q, 0, none⟩), .pointer (some ⟨r, 0, none⟩)] w fun e w' => e = .returned (.pointer (some ⟨p, 0, none⟩)) ∧ Tn p w w' ∧ Big w' p (x - y) := by
 obtain ⟨v, c0, c1, hD, hlt⟩ := hq.cells
 obtain ⟨u, d0, d1, hE, hlr⟩ := hr.cells
 have HP := hide hp
 have HD := hide hD
 have HE := hide hE
 have HB : Hid (sg (decide (x < 0)) (x.natAbs : Int) + sg (!decide (y < 0)) (y.natAbs : Int) = x - y) := (by rw [sg_abs, sg_neg]; omega : sg (decide (x < 0)) (x.natAbs : Int) + sg (!decide (y < 0)) (y.natAbs : Int) = x - y)
 clear hp hq hr hD hE
 go_enter Tryz.func21, Tryz.ntmps21
 go_wp2_with fail
 refine reg_start (fun W => W.cell? ⟨r, 0, none⟩ = some (.bool (decide (y < 0))) ∧ W.cell? ⟨r, 1, none⟩ = some u) (by kernel_rfl) ?_
 refine reg_seg 0 4 19 (by kernel_rfl) (by decide) (by kernel_rfl) (by kernel_rfl) (fun _ _ _ _ _ h => h) ?_
 simp only [List.take_succ_cons, List.take_zero, List.drop_succ_cons, List.drop_zero]
 repeat (refine wpSteady_step (fun K hK => ?_); go_simp; first | (refine steady_of ?_ (fun W hW => ?_) (hK _ ?_); rotate_left; (obtain ⟨h1, h2⟩ := hW; go_simp; first | done | rfl); clear hK K) | (refine hK _ ?_; clear hK K))
 refine wpSteady_nil ?_
 refine reg_seg 5 3 16 (by kernel_rfl) (by decide) (by kernel_rfl) (by kernel_rfl) (fun _ _ _ _ _ h => h) ?_
 simp only [List.take_succ_cons, List.take_zero, List.drop_succ_cons, List.drop_zero]
 repeat (refine wpSteady_step (fun K hK => ?_); go_simp; first | (refine steady_of ?_ (fun W hW => ?_) (hK _ ?_); rotate_left; (obtain ⟨h1, h2⟩ := hW; go_simp; first | done | rfl); clear hK K) | (refine hK _ ?_; clear hK K))
 refine wpSteady_nil ?_
 refine reg_seg 9 9 7 (by kernel_rfl) (by decide) (by kernel_rfl) (by kernel_rfl) (fun _ _ _ _ _ h => h) ?_
 simp only [List.take_succ_cons, List.take_zero, List.drop_succ_cons, List.drop_zero]
 repeat (refine wpSteady_step (fun K hK => ?_); go_simp; first | (refine steady_of ?_ (fun W hW => ?_) (hK _ ?_); rotate_left; (obtain ⟨h1, h2⟩ := hW; go_simp; first | done | rfl); clear hK K) | (refine hK _ ?_; clear hK K))
 refine wpSteady_nil ?_
 refine reg_two 4 8 6 (by kernel_rfl) (by kernel_rfl) ⟨d0, d1⟩ ?_ ?_
 · simp only [List.take_succ_cons, List.take_zero, List.drop_succ_cons, List.drop_zero]
   go_wp2_with fail
   first | refine next_nil ?_ | refine next_go ?_
   refine reg_one 8 5 (by kernel_rfl) (by kernel_rfl) ⟨d0, d1⟩ ?_
   simp only [List.take_succ_cons, List.take_zero, List.drop_succ_cons, List.drop_zero]
   go_wp2_with fail
   first | refine next_nil ?_ | refine next_go ?_
   refine reg_one 18 4 (by kernel_rfl) (by kernel_rfl) ⟨d0, d1⟩ ?_
   simp only [List.take_succ_cons, List.take_zero, List.drop_succ_cons, List.drop_zero]
   go_wp2_with fail
   refine (sum_any (decide (x < 0)) (!decide (y < 0)) v u x.natAbs y.natAbs w.drew (unhide HD) (unhide HE) (by omega) (by omega)).mono ?_
   rintro e w1 ⟨k1, c, v1, n1, rfl, D1, hn1, hs1⟩
   have K1 := hide (of_drew k1)
   have HD1 := hide D1
   have HS := hide hs1
   have d01 := cell_keep (unhide K1) hlr d0
   have d11 := cell_keep (unhide K1) hlr d1
   have hp1 := hide ((unhide HP).step (unhide K1))
   clear k1 D1 hs1
   go_wp2_with fail
   first | refine next_nil ?_ | refine next_go ?_
   refine reg_seg 19 2 2 (by kernel_rfl) (by decide) (by kernel_rfl) (by kernel_rfl) (fun _ _ _ _ _ h => h) ?_
   simp only [List.take_succ_cons, List.take_zero, List.drop_succ_cons, List.drop_zero]
   repeat (refine wpSteady_step (fun K hK => ?_); go_simp; first | (refine steady_of ?_ (fun W hW => ?_) (hK _ ?_); rotate_left; (obtain ⟨h1, h2⟩ := hW; go_simp; first | done | rfl); clear hK K) | (refine hK _ ?_; clear hK K))
   refine wpSteady_nil ?_
   refine reg_one 21 1 (by kernel_rfl) (by kernel_rfl) ⟨d01, d11⟩ ?_
   simp only [List.take_succ_cons, List.take_zero, List.drop_succ_cons, List.drop_zero]
   go_wp2_with fail
   refine (give_any p c v1 n1 w1 (unhide hp1) (unhide HD1) hn1).mono ?_
   rintro e w2 ⟨rfl, k2, b2⟩
   rw [unhide HS, unhide HB] at b2
   have K2 := hide k2
   have B2 := hide b2
   have hlr1 : r < w1.heap.size := Nat.lt_of_lt_of_le hlr (unhide K1).size
   have d02 := (World.cell?_of_block (w := w1) (a := ⟨r, 0, none⟩) ((unhide K2).block r hlr1 hnr)).trans d01
   have d12 := (World.cell?_of_block (w := w1) (a := ⟨r, 1, none⟩) ((unhide K2).block r hlr1 hnr)).trans d11
   clear k2 b2
   go_wp2_with fail
   first | refine next_nil ?_ | refine next_go ?_
   refine reg_one 22 0 (by kernel_rfl) (by kernel_rfl) ⟨d02, d12⟩ ?_
   simp only [List.take_succ_cons, List.take_zero, List.drop_succ_cons, List.drop_zero]
   go_wp2_with fail
   first | refine next_nil ?_ | refine next_go ?_
   refine reg_end (by kernel_rfl) ⟨d02, d12⟩ ?_
   go_wp2_with fail
   go_ret
   exact ⟨rfl, (Tn.of (unhide K1)).trans (unhide K2), unhide B2⟩
 · simp only [List.take_succ_cons, List.take_zero, List.drop_succ_cons, List.drop_zero]
   go_wp2_with fail
   first | refine next_nil ?_ | refine next_go ?_
   refine reg_one 4 5 (by kernel_rfl) (by kernel_rfl) ⟨d0, d1⟩ ?_
   simp only [List.take_succ_cons, List.take_zero, List.drop_succ_cons, List.drop_zero]
   go_wp2_with fail
   first | refine next_nil ?_ | refine next_go ?_
   refine reg_one 18 4 (by kernel_rfl) (by kernel_rfl) ⟨d0, d1⟩ ?_
   simp only [List.take_succ_cons, List.take_zero, List.drop_succ_cons, List.drop_zero]
   go_wp2_with fail
   refine (sum_any (decide (x < 0)) (!decide (y < 0)) v u x.natAbs y.natAbs w.drew (unhide HD) (unhide HE) (by omega) (by omega)).mono ?_
   rintro e w1 ⟨k1, c, v1, n1, rfl, D1, hn1, hs1⟩
   have K1 := hide (of_drew k1)
   have HD1 := hide D1
   have HS := hide hs1
   have d01 := cell_keep (unhide K1) hlr d0
   have d11 := cell_keep (unhide K1) hlr d1
   have hp1 := hide ((unhide HP).step (unhide K1))
   clear k1 D1 hs1
   go_wp2_with fail
   first | refine next_nil ?_ | refine next_go ?_
   refine reg_seg 19 2 2 (by kernel_rfl) (by decide) (by kernel_rfl) (by kernel_rfl) (fun _ _ _ _ _ h => h) ?_
   simp only [List.take_succ_cons, List.take_zero, List.drop_succ_cons, List.drop_zero]
   repeat (refine wpSteady_step (fun K hK => ?_); go_simp; first | (refine steady_of ?_ (fun W hW => ?_) (hK _ ?_); rotate_left; (obtain ⟨h1, h2⟩ := hW; go_simp; first | done | rfl); clear hK K) | (refine hK _ ?_; clear hK K))
   refine wpSteady_nil ?_
   refine reg_one 21 1 (by kernel_rfl) (by kernel_rfl) ⟨d01, d11⟩ ?_
   simp only [List.take_succ_cons, List.take_zero, List.drop_succ_cons, List.drop_zero]
   go_wp2_with fail
   refine (give_any p c v1 n1 w1 (unhide hp1) (unhide HD1) hn1).mono ?_
   rintro e w2 ⟨rfl, k2, b2⟩
   rw [unhide HS, unhide HB] at b2
   have K2 := hide k2
   have B2 := hide b2
   have hlr1 : r < w1.heap.size := Nat.lt_of_lt_of_le hlr (unhide K1).size
   have d02 := (World.cell?_of_block (w := w1) (a := ⟨r, 0, none⟩) ((unhide K2).block r hlr1 hnr)).trans d01
   have d12 := (World.cell?_of_block (w := w1) (a := ⟨r, 1, none⟩) ((unhide K2).block r hlr1 hnr)).trans d11
   clear k2 b2
   go_wp2_with fail
   first | refine next_nil ?_ | refine next_go ?_
   refine reg_one 22 0 (by kernel_rfl) (by kernel_rfl) ⟨d02, d12⟩ ?_
   simp only [List.take_succ_cons, List.take_zero, List.drop_succ_cons, List.drop_zero]
   go_wp2_with fail
   first | refine next_nil ?_ | refine next_go ?_
   refine reg_end (by kernel_rfl) ⟨d02, d12⟩ ?_
   go_wp2_with fail
   go_ret
   exact ⟨rfl, (Tn.of (unhide K1)).trans (unhide K2), unhide B2⟩
end Go.Proofs.YtlkoidkdeopgjaaGreatDoor
namespace Go.Proofs.YtlkoidkdeopgjaaGreatDoor
open Go.RowKit
set_option linter.unusedSimpArgs false
set_option linter.unusedVariables false
theorem cm_neg (a b : Int) : -cm a b = cm b a := by
 unfold cm
 by_cases h1 : a < b
 · rw [if_pos h1, if_neg (by omega), if_neg (by omega)]; rfl
 · by_cases h2 : a = b
   · rw [if_neg h1, if_pos h2, if_neg (by omega), if_pos h2.symm]; rfl
   · rw [if_neg h1, if_neg h2, if_pos (by omega)]
theorem cm_congr {a b c d : Int} (h1 : a < b ↔ c < d) (h2 : a = b ↔ c = d) : cm a b = cm c d := by
 unfold cm
 by_cases h : a < b
 · rw [if_pos h, if_pos (h1.1 h)]
 · rw [if_neg h, if_neg (fun k => h (h1.2 k))]
   by_cases g : a = b
   · rw [if_pos g, if_pos (h2.1 g)]
   · rw [if_neg g, if_neg (fun k => g (h2.2 k))]
theorem cmp_big (p q : Nat) (x y : Int) (w : World) (hp : Big w p x) (hq : Big w q y) (hx : x.natAbs < 4294967296 ^ 8) (hy : y.natAbs < 4294967296 ^ 8) :
   Calls Tryz.prog 25 #[.pointer (some ⟨p, 0, none⟩), .pointer (some ⟨q, 0, none⟩)] w fun e w' => (∃ k, w' = w.drewN k) ∧ e = .returned (.int .i64 (cm x y)) := by
 obtain ⟨v, c0, c1, hD, hlt⟩ := hp.cells
 obtain ⟨u, d0, d1, hE, hlr⟩ := hq.cells
 have CM := hide (fun k => cmp_any v u x.natAbs y.natAbs (w.drewN k) hD hE (by omega) (by omega))
 have hr : -1 ≤ cm (x.natAbs : Int) (y.natAbs : Int) ∧ cm (x.natAbs : Int) (y.natAbs : Int) ≤ 1 := by unfold cm; split; omega; split <;> omega
 clear hp hq hD hE
 by_cases hxn : x < 0
 · have bx : decide (x < 0) = true := decide_eq_true hxn
   rw [bx] at c0
   by_cases hyn : y < 0
   · have bx : decide (y < 0) = true := decide_eq_true hyn
     rw [bx] at d0
     have hv : wrap64 (-cm (x.natAbs : Int) (y.natAbs : Int)) = cm x y := by
       rw [show wrap64 (-cm (x.natAbs : Int) (y.natAbs : Int)) = -cm (x.natAbs : Int) (y.natAbs : Int) by unfold wrap64; omega, cm_neg]
       exact cm_congr (by omega) (by omega)
     have HV := hide hv
     have HV2 := hide (show -cm (x.natAbs : Int) (y.natAbs : Int) = cm x y by rw [cm_neg]; exact cm_congr (by omega) (by omega))
     have hbb : (true != true) = false := rfl
     clear hxn hyn hv bx
     generalize cm (x.natAbs : Int) (y.natAbs : Int) = g at *
     go_enter Tryz.func25, Tryz.ntmps25
     go_wp2_with fail
     go_quiet (fail)
     go_wp2_with fail
     refine reg_start (fun W => W.cell? ⟨p, 1, none⟩ = some v ∧ W.cell? ⟨q, 1, none⟩ = some u) (by kernel_rfl) ?_
     refine reg_seg 0 8 2 (by kernel_rfl) (by decide) (by kernel_rfl) (by kernel_rfl) (fun _ _ _ _ _ h => h) ?_
     simp only [List.take_succ_cons, List.take_zero, List.drop_succ_cons, List.drop_zero]
     repeat (refine wpSteady_step (fun K hK => ?_); go_simp; first | (refine steady_of ?_ (fun W hW => ?_) (hK _ ?_); rotate_left; (obtain ⟨h1, h2⟩ := hW; go_simp; first | done | rfl); clear hK K) | (refine hK _ ?_; clear hK K))
     refine wpSteady_nil ?_
     refine reg_one 8 1 (by kernel_rfl) (by kernel_rfl) ⟨c1, d1⟩ ?_
     simp only [List.take_succ_cons, List.take_zero, List.drop_succ_cons, List.drop_zero]
     go_wp2_with fail
     refine (unhide CM _).mono ?_
     rintro e w1 ⟨⟨k, rfl⟩, rfl⟩
     go_wp2_with fail
     first | refine next_nil ?_ | refine next_go ?_
     refine reg_one 9 0 (by kernel_rfl) (by kernel_rfl) ⟨c1, d1⟩ ?_
     simp only [List.take_succ_cons, List.take_zero, List.drop_succ_cons, List.drop_zero]
     go_wp2_with fail
     first | refine next_nil ?_ | refine next_go ?_
     refine reg_end (by kernel_rfl) ⟨c1, d1⟩ ?_
     go_wp2_with fail
     go_ret
     refine ⟨?_, ?_⟩
     rotate_left
     first | exact congrArg (fun z => Ending.returned (Value.int .i64 z)) (unhide HV) | exact congrArg (fun z => Ending.returned (Value.int .i64 z)) (unhide HV2)
     first | exact drew_e1 _ _ | exact drew_e2 _ _ _ | exact drew_e3 _ _ _ _ | exact ⟨_, rfl⟩ | exact ⟨_, (World.drewN_drewN ..)⟩
   · have bx : decide (y < 0) = false := decide_eq_false hyn
     rw [bx] at d0
     have hv : cm x y = -1 := by unfold cm; rw [if_pos (by omega)]
     rw [hv]
     clear CM hr
     go_enter Tryz.func25, Tryz.ntmps25
     go_wp2_with fail
     go_quiet (fail)
     go_wp2_with fail
     go_ret
     exact ⟨⟨_, rfl⟩, rfl⟩
 · have bx : decide (x < 0) = false := decide_eq_false hxn
   rw [bx] at c0
   by_cases hyn : y < 0
   · have bx : decide (y < 0) = true := decide_eq_true hyn
     rw [bx] at d0
     have hv : cm x y = 1 := by unfold cm; rw [if_neg (by omega), if_neg (by omega)]
     rw [hv]
     clear CM hr
     go_enter Tryz.func25, Tryz.ntmps25
     go_wp2_with fail
     go_quiet (fail)
     go_wp2_with fail
     go_ret
     exact ⟨⟨_, rfl⟩, rfl⟩
   · have bx : decide (y < 0) = false := decide_eq_false hyn
     rw [bx] at d0
     have hv : cm (x.natAbs : Int) (y.natAbs : Int) = cm x y := cm_congr (by omega) (by omega)
     have HV := hide hv
     clear hxn hyn hv bx
     generalize cm (x.natAbs : Int) (y.natAbs : Int) = g at *
     go_enter Tryz.func25, Tryz.ntmps25
     go_wp2_with fail
     go_quiet (fail)
     go_wp2_with fail
     refine reg_start (fun W => W.cell? ⟨p, 1, none⟩ = some v ∧ W.cell? ⟨q, 1, none⟩ = some u) (by kernel_rfl) ?_
     refine reg_seg 0 8 2 (by kernel_rfl) (by decide) (by kernel_rfl) (by kernel_rfl) (fun _ _ _ _ _ h => h) ?_
     simp only [List.take_succ_cons, List.take_zero, List.drop_succ_cons, List.drop_zero]
     repeat (refine wpSteady_step (fun K hK => ?_); go_simp; first | (refine steady_of ?_ (fun W hW => ?_) (hK _ ?_); rotate_left; (obtain ⟨h1, h2⟩ := hW; go_simp; first | done | rfl); clear hK K) | (refine hK _ ?_; clear hK K))
     refine wpSteady_nil ?_
     refine reg_one 8 1 (by kernel_rfl) (by kernel_rfl) ⟨c1, d1⟩ ?_
     simp only [List.take_succ_cons, List.take_zero, List.drop_succ_cons, List.drop_zero]
     go_wp2_with fail
     refine (unhide CM _).mono ?_
     rintro e w1 ⟨⟨k, rfl⟩, rfl⟩
     go_wp2_with fail
     first | refine next_nil ?_ | refine next_go ?_
     refine reg_one 9 0 (by kernel_rfl) (by kernel_rfl) ⟨c1, d1⟩ ?_
     simp only [List.take_succ_cons, List.take_zero, List.drop_succ_cons, List.drop_zero]
     go_wp2_with fail
     first | refine next_nil ?_ | refine next_go ?_
     refine reg_end (by kernel_rfl) ⟨c1, d1⟩ ?_
     go_wp2_with fail
     go_ret
     refine ⟨?_, ?_⟩
     rotate_left
     first | exact congrArg (fun z => Ending.returned (Value.int .i64 z)) (unhide HV) | exact congrArg (fun z => Ending.returned (Value.int .i64 z)) (unhide HV2)
     first | exact drew_e1 _ _ | exact drew_e2 _ _ _ | exact drew_e3 _ _ _ _ | exact ⟨_, rfl⟩ | exact ⟨_, (World.drewN_drewN ..)⟩
end Go.Proofs.YtlkoidkdeopgjaaGreatDoor
namespace Go.Proofs.YtlkoidkdeopgjaaGreatDoor
open Go.RowKit
set_option linter.unusedSimpArgs false
set_option linter.unusedVariables false
theorem Row.one (w : World) (x : Int) : Row (w.alloc (.cells #[.int .u32 x] 90)) (.slice (some ⟨w.heap.size, 0, none⟩) 1 1) [x] := by
 refine .inr ⟨w.heap.size, 1, #[.int .u32 x], (0, 0), rfl, by simp, by decide, ?_, fun j hj => ?_⟩
 · show (w.heap.push _)[w.heap.size]? = _
   simp
 · match j, hj with
   | 0, _ => rfl
theorem divOf {n1 n2 : Int} (h1 : 0 ≤ n1) (h2 : 0 < n2) : 0 ≤ n1 / n2 ∧ n1 / n2 ≤ n1 ∧ 0 ≤ n1 % n2 ∧ n1 % n2 < n2 ∧ n1 % n2 ≤ n1 := by
 refine ⟨Int.ediv_nonneg h1 (by omega), Int.ediv_le_self _ h1, Int.emod_nonneg _ (by omega), Int.emod_lt_of_pos _ h2, ?_⟩
 have h3 := Int.mul_ediv_add_emod n1 n2
 have h4 : 0 ≤ n2 * (n1 / n2) := Int.mul_nonneg (by omega) (Int.ediv_nonneg h1 (by omega))
 omega
theorem div_short (v1 v2 : Value) (n1 n2 : Int) (w : World) (h1 : Dg w v1 n1) (h2 : Dg w v2 n2) (hn1 : n1 < 4294967296 ^ 8) (hn2 : n2 < 4294967296 ^ 8) (hp : 0 < n2) (hs : n1 < n2 ∨ n1 < 18446744073709551616 ∨ n2 < 4294967296) :
   Calls Tryz.prog 38 #[v1, v2] w fun e w' => Below w.heap.size w w' ∧ ∃ q r, e = .returned (.tuple #[q, r]) ∧ Dg w' q (n1 / n2) ∧ Dg w' r (n1 % n2) := by
 have H1 := hide h1
 have H2 := hide h2
 have CM := hide (cmp_any v1 v2 n1 n2 w h1 h2 hn1 hn2)
 obtain ⟨LA, rA, iA⟩ := h1
 obtain ⟨LB, rB, iB⟩ := h2
 have lA := iA.len 8 hn1
 have lB := iB.len 8 hn2
 have lo1 := iA.lo
 obtain ⟨q1, q2, q3, q4, q5⟩ := divOf lo1 hp
 obtain ⟨aoA, capA, rfl, _, _, _, hA4, hA5, hA6⟩ := rA.at
 obtain ⟨aoB, capB, rfl, _, _, _, hB4, hB5, hB6⟩ := rB.at
 have HRB := hide (fun d (he : aoB = some ⟨d, 0, none⟩) => And.intro (hB4 d 0 none he).2.2 (hB6 d he))
 have HB5 := hide hB5
 have IA := hide iA
 have IB := hide iB
 have l0 : LB.length ≠ 0 := fun e => by have := iB.zero.1 e; omega
 have hb0 : ((LB.length : Int) == 0) = false := beq_eq_false_iff_ne.2 (by omega)
 clear hA4 hA5 hA6 hB4 hB5 hB6 rA rB iA iB
 by_cases hlt : n1 < n2
 · have hcm : decide (cm n1 n2 < 0) = true := by unfold cm; rw [if_pos hlt]; decide
   have e1 : n1 / n2 = 0 := Int.ediv_eq_zero_of_lt lo1 hlt
   have e2 : n1 % n2 = n1 := Int.emod_eq_of_lt lo1 hlt
   rw [e1, e2]
   clear hs q1 q2 q3 q4 q5 e1 e2
   go_enter Tryz.func38, Tryz.ntmps38
   go_wp2_with fail
   refine (unhide CM).mono ?_
   rintro e w1 ⟨⟨k, rfl⟩, rfl⟩
   go_wp2_with fail
   refine (twin_any _ n1 (w.drewN k) (unhide H1) hn1).mono ?_
   rintro e w2 ⟨k1, v, rfl, D1⟩
   have K1 := hide (of_drewN k1)
   have HD := hide D1
   clear k1 D1
   go_wp2_with fail
   go_ret2
   exact ⟨unhide K1, _, _, rfl, Dg.nil _, unhide HD⟩
 · have hcm : decide (cm n1 n2 < 0) = false := by unfold cm; rw [if_neg hlt]; split <;> decide
   by_cases hl2 : LA.length ≤ 2
   · have hn64 : n1 < 18446744073709551616 := by
       have := (unhide IA).hi
       have := bp_le hl2
       omega
     have hb2 : decide ((LA.length : Int) ≤ 2) = true := decide_eq_true (by omega)
     have hnz : (n2 == 0) = false := beq_eq_false_iff_ne.2 (by omega)
     have P1 := hide (fun k => plain_any _ n1 (w.drewN k) (unhide H1) (by omega))
     have P2 := hide (fun k => plain_any _ n2 (w.drewN k) (unhide H2) (by omega))
     have WQ := hide (fun W => words_any (n1 / n2) W ⟨by omega, by omega⟩)
     have WR := hide (fun W => words_any (n1 % n2) W ⟨by omega, by omega⟩)
     have hr1 : 0 ≤ n1 ∧ n1 ≤ 18446744073709551615 := by omega
     have hr2 : 0 ≤ n2 ∧ n2 ≤ 18446744073709551615 := by omega
     have hnz' : ¬ (n2 = 0) := by omega
     have htd : n1.tdiv n2 = n1 / n2 := Int.tdiv_eq_ediv_of_nonneg lo1
     have htm : n1.tmod n2 = n1 % n2 := Int.tmod_eq_emod_of_nonneg lo1
     generalize hQ : n1 / n2 = Q at *
     generalize hR : n1 % n2 = R at *
     clear hs
     go_enter Tryz.func38, Tryz.ntmps38
     go_wp2_with fail
     refine (unhide CM).mono ?_
     rintro e w1 ⟨⟨k, rfl⟩, rfl⟩
     go_wp2_with fail
     refine (unhide P1 k).mono ?_
     rintro e w1 ⟨rfl, rfl⟩
     go_wp2_with fail
     refine (unhide P2 k).mono ?_
     rintro e w1 ⟨rfl, rfl⟩
     go_wp2_with fail
     refine reg_start (fun W => True) (by kernel_rfl) ?_
     refine reg_seg 0 3 7 (by kernel_rfl) (by decide) (by kernel_rfl) (by kernel_rfl) (fun _ _ _ _ _ h => h) ?_
     simp only [List.take_succ_cons, List.take_zero, List.drop_succ_cons, List.drop_zero]
     repeat (refine wpSteady_step (fun K hK => ?_); go_simp; first | (refine steady_of ?_ (fun W hW => ?_) (hK _ ?_); rotate_left; (obtain h1 := hW; go_simp; first | done | rfl); clear hK K) | (refine hK _ ?_; clear hK K))
     refine wpSteady_nil ?_
     refine reg_seg 4 3 4 (by kernel_rfl) (by decide) (by kernel_rfl) (by kernel_rfl) (fun _ _ _ _ _ h => h) ?_
     simp only [List.take_succ_cons, List.take_zero, List.drop_succ_cons, List.drop_zero]
     repeat (refine wpSteady_step (fun K hK => ?_); go_simp; first | (refine steady_of ?_ (fun W hW => ?_) (hK _ ?_); rotate_left; (obtain h1 := hW; go_simp; first | done | rfl); clear hK K) | (refine hK _ ?_; clear hK K))
     refine wpSteady_nil ?_
     refine reg_one 3 3 (by kernel_rfl) (by kernel_rfl) trivial ?_
     simp only [List.take_succ_cons, List.take_zero, List.drop_succ_cons, List.drop_zero]
     go_wp2_with fail
     refine (unhide WQ _).mono ?_
     rintro e w1 ⟨k1, v1, rfl, D1⟩
     have K1 := hide (of_drewN (of_drew k1))
     have HD1 := hide D1
     clear k1 D1
     go_wp2_with fail
     first | refine next_nil ?_ | refine next_go ?_
     refine reg_one 7 2 (by kernel_rfl) (by kernel_rfl) trivial ?_
     simp only [List.take_succ_cons, List.take_zero, List.drop_succ_cons, List.drop_zero]
     go_wp2_with fail
     refine (unhide WR _).mono ?_
     rintro e w2 ⟨k2, v2, rfl, D2⟩
     have K2 := hide k2
     have HD2 := hide D2
     clear k2 D2
     go_wp2_with fail
     first | refine next_nil ?_ | refine next_go ?_
     refine reg_seg 8 2 0 (by kernel_rfl) (by decide) (by kernel_rfl) (by kernel_rfl) (fun _ _ _ _ _ h => h) ?_
     simp only [List.take_succ_cons, List.take_zero, List.drop_succ_cons, List.drop_zero]
     repeat (refine wpSteady_step (fun K hK => ?_); go_simp; first | (refine steady_of ?_ (fun W hW => ?_) (hK _ ?_); rotate_left; (obtain h1 := hW; go_simp; first | done | rfl); clear hK K) | (refine hK _ ?_; clear hK K))
     refine wpSteady_nil ?_
     refine reg_end (by kernel_rfl) trivial ?_
     go_wp2_with fail
     go_ret2
     exact ⟨(unhide K1).trans ((unhide K2).mono (unhide K1).size), _, _, rfl, (unhide HD1).step (unhide K2), unhide HD2⟩
   · have hn64 : 18446744073709551616 ≤ n1 := by
       have := is_top (unhide IA) (k := LA.length - 1) (by omega)
       have := bp_le (a := 2) (b := LA.length - 1) (by omega)
       omega
     have hn32 : n2 < 4294967296 := by omega
     have hb2 : decide ((LA.length : Int) ≤ 2) = false := decide_eq_false (by omega)
     have l1 : LB.length = 1 := by have := (unhide IB).len 1 (by omega); omega
     have hb1 : ((LB.length : Int) == 1) = true := by rw [l1]; rfl
     obtain ⟨d, rfl⟩ := unhide HB5 l0
     obtain ⟨hd, hc⟩ := unhide HRB d rfl
     have c0 := hc 0 (by omega)
     have hv : LB.getD 0 0 = n2 := ((is_two (unhide IB) (by omega)).2.2.1 l1).symm
     rw [hv] at c0
     have SM := hide (fun k => small_any _ n1 n2 (w.drewN k) (unhide H1) hn1 hp (by omega))
     clear hc hs hv
     rw [l1] at CM ⊢
     go_enter Tryz.func38, Tryz.ntmps38
     go_wp2_with fail
     refine (unhide CM).mono ?_
     rintro e w1 ⟨⟨k, rfl⟩, rfl⟩
     go_wp2_with fail
     refine (unhide SM k).mono ?_
     rintro e w1 ⟨k1, v1, rfl, D1⟩
     have K1 := hide (of_drewN k1)
     have HD1 := hide D1
     clear k1 D1
     go_wp2_with fail
     refine (trim_any _ _ _ (Row.one w1 (n1 % n2)) (by intro y hy; simp at hy; omega) (by simp)).mono ?_
     rintro e w2 ⟨rfl, v2, rfl, D2⟩
     have K2 := hide (below_a w1 (.cells #[.int .u32 (n1 % n2)] 90))
     have e0 : vl [n1 % n2] = n1 % n2 := by simp [vl]
     rw [e0] at D2
     have HD2 := hide D2
     clear D2 e0
     go_wp2_with fail
     go_ret2
     exact ⟨(unhide K1).trans ((unhide K2).mono (unhide K1).size), _, _, rfl, (unhide HD1).step (unhide K2), unhide HD2⟩
end Go.Proofs.YtlkoidkdeopgjaaGreatDoor
