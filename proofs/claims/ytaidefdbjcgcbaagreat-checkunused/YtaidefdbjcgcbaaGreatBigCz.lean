/-
  sum, Add, Sub and Cmp.
-/
import Derived.Test.YtaidefdbjcgcbaaGreatBig8z
namespace Go.Proofs.YtaidefdbjcgcbaaGreat
open Go.RowKit
set_option linter.unusedSimpArgs false
set_option linter.unusedVariables false

theorem of_drewN {w w1 : World} {q : Nat} (k : Below (w.drewN q).heap.size (w.drewN q) w1) : Below w.heap.size w w1 := ⟨k.os, k.tape, k.output, k.size, k.block⟩
set_option maxHeartbeats 1000000 in
theorem sum_any (a b : Bool) (v1 v2 : Value) (n1 n2 : Int) (w : World) (h1 : Dg w v1 n1) (h2 : Dg w v2 n2) (hn1 : n1 < 4294967296 ^ 7) (hn2 : n2 < 4294967296 ^ 7) :
    Calls Tryz.prog 140 #[.bool a, v1, .bool b, v2] w fun e w' => Below w.heap.size w w' ∧ ∃ c v n, e = .returned (.tuple #[.bool c, v]) ∧ Dg w' v n ∧ n < 4294967296 ^ 8 ∧ sg c n = sg a n1 + sg b n2 := by
  have H1 := hide h1
  have H2 := hide h2
  obtain ⟨L1, g1, i1⟩ := h1
  obtain ⟨L2, g2, i2⟩ := h2
  have lo1 := i1.lo
  have lo2 := i2.lo
  clear i1 i2 g1 g2
  by_cases hab : a = b
  · subst hab
    go_enter Tryz.func140, Tryz.ntmps140
    go_wp2_with fail
    refine (badd_any v1 v2 n1 n2 w (unhide H1) (unhide H2) (by omega) (by omega)).mono ?_
    rintro e w1 ⟨k1, v, rfl, D1⟩
    have K1 := hide k1
    have HD := hide D1
    clear k1 D1
    go_wp2_with fail
    go_ret2
    exact ⟨unhide K1, _, _, _, rfl, unhide HD, by omega, by unfold sg; cases a <;> simp; omega⟩
  · have hab2 : (a == b) = false := by cases a <;> cases b <;> simp_all
    have hb : b = !a := by cases a <;> cases b <;> simp_all
    have HB := hide hb
    have CM := hide (cmp_any v1 v2 n1 n2 w (unhide H1) (unhide H2) (by omega) (by omega))
    by_cases hge : n2 ≤ n1
    · have hcm : decide (0 ≤ cm n1 n2) = true := by unfold cm; rw [if_neg (by omega)]; split <;> decide
      go_enter Tryz.func140, Tryz.ntmps140
      go_wp2_with fail
      refine (unhide CM).mono ?_
      rintro e w1 ⟨⟨q, rfl⟩, rfl⟩
      go_wp2_with fail
      refine (bsub_any v1 v2 n1 n2 (w.drewN q) (unhide H1) (unhide H2) (by omega) hge).mono ?_
      rintro e w2 ⟨k1, v, rfl, D1⟩
      have K1 := hide (of_drewN k1)
      have HD := hide D1
      clear k1 D1
      go_wp2_with fail
      go_ret2
      exact ⟨unhide K1, _, _, _, rfl, unhide HD, by omega, by rw [unhide HB]; unfold sg; cases a <;> simp <;> omega⟩
    · have hcm : decide (0 ≤ cm n1 n2) = false := by unfold cm; rw [if_pos (by omega)]; decide
      go_enter Tryz.func140, Tryz.ntmps140
      go_wp2_with fail
      refine (unhide CM).mono ?_
      rintro e w1 ⟨⟨q, rfl⟩, rfl⟩
      go_wp2_with fail
      refine (bsub_any v2 v1 n2 n1 (w.drewN q) (unhide H2) (unhide H1) (by omega) (by omega)).mono ?_
      rintro e w2 ⟨k1, v, rfl, D1⟩
      have K1 := hide (of_drewN k1)
      have HD := hide D1
      clear k1 D1
      go_wp2_with fail
      go_ret2
      exact ⟨unhide K1, _, _, _, rfl, unhide HD, by omega, by rw [unhide HB]; unfold sg; cases a <;> simp <;> omega⟩
theorem sg_neg (z : Int) : sg (!decide (z < 0)) (z.natAbs : Int) = -z := by
  have h := sg_abs z
  unfold sg at *
  by_cases hz : z < 0
  · simp [hz] at h ⊢; omega
  · simp [hz] at h ⊢; omega
set_option maxRecDepth 100000 in
set_option maxHeartbeats 2000000 in
theorem add_big (p q r : Nat) (x y : Int) (w : World) (hp : IntAt w p) (hq : Big w q x) (hr : Big w r y) (hnr : r ≠ p) (hx : x.natAbs < 4294967296 ^ 7) (hy : y.natAbs < 4294967296 ^ 7) :
    Calls Tryz.prog 110 #[.pointer (some ⟨p, 0, none⟩), .pointer (some ⟨q, 0, none⟩), .pointer (some ⟨r, 0, none⟩)] w fun e w' => e = .returned (.pointer (some ⟨p, 0, none⟩)) ∧ Tn p w w' ∧ Big w' p (x + y) := by
  obtain ⟨v, c0, c1, hD, hlt⟩ := hq.cells
  obtain ⟨u, d0, d1, hE, hlr⟩ := hr.cells
  have HP := hide hp
  have HD := hide hD
  have HE := hide hE
  have HB : Hid (sg (decide (x < 0)) (x.natAbs : Int) + sg (decide (y < 0)) (y.natAbs : Int) = x + y) := (by rw [sg_abs, sg_abs] : sg (decide (x < 0)) (x.natAbs : Int) + sg (decide (y < 0)) (y.natAbs : Int) = x + y)
  clear hp hq hr hD hE
  go_enter Tryz.func110, Tryz.ntmps110
  go_wp2_with fail
  refine reg_start (fun W => W.cell? ⟨r, 0, none⟩ = some (.bool (decide (y < 0))) ∧ W.cell? ⟨r, 1, none⟩ = some u) (by kernel_rfl) ?_
  refine reg_seg 0 4 18 (by kernel_rfl) (by decide) (by kernel_rfl) (by kernel_rfl) (fun _ _ _ _ _ h => h) ?_
  simp only [List.take_succ_cons, List.take_zero, List.drop_succ_cons, List.drop_zero]
  repeat (refine wpSteady_step (fun K hK => ?_); go_simp; first | (refine steady_of ?_ (fun W hW => ?_) (hK _ ?_); rotate_left; (obtain ⟨h1, h2⟩ := hW; go_simp; first | done | rfl); clear hK K) | (refine hK _ ?_; clear hK K))
  refine wpSteady_nil ?_
  refine reg_seg 5 3 15 (by kernel_rfl) (by decide) (by kernel_rfl) (by kernel_rfl) (fun _ _ _ _ _ h => h) ?_
  simp only [List.take_succ_cons, List.take_zero, List.drop_succ_cons, List.drop_zero]
  repeat (refine wpSteady_step (fun K hK => ?_); go_simp; first | (refine steady_of ?_ (fun W hW => ?_) (hK _ ?_); rotate_left; (obtain ⟨h1, h2⟩ := hW; go_simp; first | done | rfl); clear hK K) | (refine hK _ ?_; clear hK K))
  refine wpSteady_nil ?_
  refine reg_seg 9 8 7 (by kernel_rfl) (by decide) (by kernel_rfl) (by kernel_rfl) (fun _ _ _ _ _ h => h) ?_
  simp only [List.take_succ_cons, List.take_zero, List.drop_succ_cons, List.drop_zero]
  repeat (refine wpSteady_step (fun K hK => ?_); go_simp; first | (refine steady_of ?_ (fun W hW => ?_) (hK _ ?_); rotate_left; (obtain ⟨h1, h2⟩ := hW; go_simp; first | done | rfl); clear hK K) | (refine hK _ ?_; clear hK K))
  refine wpSteady_nil ?_
  refine reg_two 4 8 6 (by kernel_rfl) (by kernel_rfl) ⟨d0, d1⟩ ?_ ?_
  · simp only [List.take_succ_cons, List.take_zero, List.drop_succ_cons, List.drop_zero]
    go_wp2_with fail
    first | refine next_nil ?_ | refine next_go ?_
    refine reg_one 8 5 (by kernel_rfl) (by kernel_rfl) ⟨d0, d1⟩ ?_
    simp only [List.take_succ_cons, List.take_zero, List.drop_succ_cons, List.drop_zero]
    go_wp2_with fail
    first | refine next_nil ?_ | refine next_go ?_
    refine reg_one 17 4 (by kernel_rfl) (by kernel_rfl) ⟨d0, d1⟩ ?_
    simp only [List.take_succ_cons, List.take_zero, List.drop_succ_cons, List.drop_zero]
    go_wp2_with fail
    refine (sum_any (decide (x < 0)) (decide (y < 0)) v u x.natAbs y.natAbs w.drew (unhide HD) (unhide HE) (by omega) (by omega)).mono ?_
    rintro e w1 ⟨k1, c, v1, n1, rfl, D1, hn1, hs1⟩
    have K1 := hide (of_drew k1)
    have HD1 := hide D1
    have HS := hide hs1
    have d01 := cell_keep (unhide K1) hlr d0
    have d11 := cell_keep (unhide K1) hlr d1
    have hp1 := hide ((unhide HP).step (unhide K1))
    clear k1 D1 hs1
    go_wp2_with fail
    first | refine next_nil ?_ | refine next_go ?_
    refine reg_seg 18 2 2 (by kernel_rfl) (by decide) (by kernel_rfl) (by kernel_rfl) (fun _ _ _ _ _ h => h) ?_
    simp only [List.take_succ_cons, List.take_zero, List.drop_succ_cons, List.drop_zero]
    repeat (refine wpSteady_step (fun K hK => ?_); go_simp; first | (refine steady_of ?_ (fun W hW => ?_) (hK _ ?_); rotate_left; (obtain ⟨h1, h2⟩ := hW; go_simp; first | done | rfl); clear hK K) | (refine hK _ ?_; clear hK K))
    refine wpSteady_nil ?_
    refine reg_one 20 1 (by kernel_rfl) (by kernel_rfl) ⟨d01, d11⟩ ?_
    simp only [List.take_succ_cons, List.take_zero, List.drop_succ_cons, List.drop_zero]
    go_wp2_with fail
    refine (give_any p c v1 n1 w1 (unhide hp1) (unhide HD1) hn1).mono ?_
    rintro e w2 ⟨rfl, k2, b2⟩
    rw [unhide HS, unhide HB] at b2
    have K2 := hide k2
    have B2 := hide b2
    have hlr1 : r < w1.heap.size := Nat.lt_of_lt_of_le hlr (unhide K1).size
    have d02 := (World.cell?_of_block (w := w1) (a := ⟨r, 0, none⟩) ((unhide K2).block r hlr1 hnr)).trans d01
    have d12 := (World.cell?_of_block (w := w1) (a := ⟨r, 1, none⟩) ((unhide K2).block r hlr1 hnr)).trans d11
    clear k2 b2
    go_wp2_with fail
    first | refine next_nil ?_ | refine next_go ?_
    refine reg_one 21 0 (by kernel_rfl) (by kernel_rfl) ⟨d02, d12⟩ ?_
    simp only [List.take_succ_cons, List.take_zero, List.drop_succ_cons, List.drop_zero]
    go_wp2_with fail
    first | refine next_nil ?_ | refine next_go ?_
    refine reg_end (by kernel_rfl) ⟨d02, d12⟩ ?_
    go_wp2_with fail
    go_ret
    exact ⟨rfl, (Tn.of (unhide K1)).trans (unhide K2), unhide B2⟩
  · simp only [List.take_succ_cons, List.take_zero, List.drop_succ_cons, List.drop_zero]
    go_wp2_with fail
    first | refine next_nil ?_ | refine next_go ?_
    refine reg_one 4 5 (by kernel_rfl) (by kernel_rfl) ⟨d0, d1⟩ ?_
    simp only [List.take_succ_cons, List.take_zero, List.drop_succ_cons, List.drop_zero]
    go_wp2_with fail
    first | refine next_nil ?_ | refine next_go ?_
    refine reg_one 17 4 (by kernel_rfl) (by kernel_rfl) ⟨d0, d1⟩ ?_
    simp only [List.take_succ_cons, List.take_zero, List.drop_succ_cons, List.drop_zero]
    go_wp2_with fail
    refine (sum_any (decide (x < 0)) (decide (y < 0)) v u x.natAbs y.natAbs w.drew (unhide HD) (unhide HE) (by omega) (by omega)).mono ?_
    rintro e w1 ⟨k1, c, v1, n1, rfl, D1, hn1, hs1⟩
    have K1 := hide (of_drew k1)
    have HD1 := hide D1
    have HS := hide hs1
    have d01 := cell_keep (unhide K1) hlr d0
    have d11 := cell_keep (unhide K1) hlr d1
    have hp1 := hide ((unhide HP).step (unhide K1))
    clear k1 D1 hs1
    go_wp2_with fail
    first | refine next_nil ?_ | refine next_go ?_
    refine reg_seg 18 2 2 (by kernel_rfl) (by decide) (by kernel_rfl) (by kernel_rfl) (fun _ _ _ _ _ h => h) ?_
    simp only [List.take_succ_cons, List.take_zero, List.drop_succ_cons, List.drop_zero]
    repeat (refine wpSteady_step (fun K hK => ?_); go_simp; first | (refine steady_of ?_ (fun W hW => ?_) (hK _ ?_); rotate_left; (obtain ⟨h1, h2⟩ := hW; go_simp; first | done | rfl); clear hK K) | (refine hK _ ?_; clear hK K))
    refine wpSteady_nil ?_
    refine reg_one 20 1 (by kernel_rfl) (by kernel_rfl) ⟨d01, d11⟩ ?_
    simp only [List.take_succ_cons, List.take_zero, List.drop_succ_cons, List.drop_zero]
    go_wp2_with fail
    refine (give_any p c v1 n1 w1 (unhide hp1) (unhide HD1) hn1).mono ?_
    rintro e w2 ⟨rfl, k2, b2⟩
    rw [unhide HS, unhide HB] at b2
    have K2 := hide k2
    have B2 := hide b2
    have hlr1 : r < w1.heap.size := Nat.lt_of_lt_of_le hlr (unhide K1).size
    have d02 := (World.cell?_of_block (w := w1) (a := ⟨r, 0, none⟩) ((unhide K2).block r hlr1 hnr)).trans d01
    have d12 := (World.cell?_of_block (w := w1) (a := ⟨r, 1, none⟩) ((unhide K2).block r hlr1 hnr)).trans d11
    clear k2 b2
    go_wp2_with fail
    first | refine next_nil ?_ | refine next_go ?_
    refine reg_one 21 0 (by kernel_rfl) (by kernel_rfl) ⟨d02, d12⟩ ?_
    simp only [List.take_succ_cons, List.take_zero, List.drop_succ_cons, List.drop_zero]
    go_wp2_with fail
    first | refine next_nil ?_ | refine next_go ?_
    refine reg_end (by kernel_rfl) ⟨d02, d12⟩ ?_
    go_wp2_with fail
    go_ret
    exact ⟨rfl, (Tn.of (unhide K1)).trans (unhide K2), unhide B2⟩
set_option maxRecDepth 100000 in
set_option maxHeartbeats 2000000 in
theorem sub_big (p q r : Nat) (x y : Int) (w : World) (hp : IntAt w p) (hq : Big w q x) (hr : Big w r y) (hnr : r ≠ p) (hx : x.natAbs < 4294967296 ^ 7) (hy : y.natAbs < 4294967296 ^ 7) :
    Calls Tryz.prog 105 #[.pointer (some ⟨p, 0, none⟩), .pointer (some ⟨q, 0, none⟩), .pointer (some ⟨r, 0, none⟩)] w fun e w' => e = .returned (.pointer (some ⟨p, 0, none⟩)) ∧ Tn p w w' ∧ Big w' p (x - y) := by
  obtain ⟨v, c0, c1, hD, hlt⟩ := hq.cells
  obtain ⟨u, d0, d1, hE, hlr⟩ := hr.cells
  have HP := hide hp
  have HD := hide hD
  have HE := hide hE
  have HB : Hid (sg (decide (x < 0)) (x.natAbs : Int) + sg (!decide (y < 0)) (y.natAbs : Int) = x - y) := (by rw [sg_abs, sg_neg]; omega : sg (decide (x < 0)) (x.natAbs : Int) + sg (!decide (y < 0)) (y.natAbs : Int) = x - y)
  clear hp hq hr hD hE
  go_enter Tryz.func105, Tryz.ntmps105
  go_wp2_with fail
  refine reg_start (fun W => W.cell? ⟨r, 0, none⟩ = some (.bool (decide (y < 0))) ∧ W.cell? ⟨r, 1, none⟩ = some u) (by kernel_rfl) ?_
  refine reg_seg 0 4 19 (by kernel_rfl) (by decide) (by kernel_rfl) (by kernel_rfl) (fun _ _ _ _ _ h => h) ?_
  simp only [List.take_succ_cons, List.take_zero, List.drop_succ_cons, List.drop_zero]
  repeat (refine wpSteady_step (fun K hK => ?_); go_simp; first | (refine steady_of ?_ (fun W hW => ?_) (hK _ ?_); rotate_left; (obtain ⟨h1, h2⟩ := hW; go_simp; first | done | rfl); clear hK K) | (refine hK _ ?_; clear hK K))
  refine wpSteady_nil ?_
  refine reg_seg 5 3 16 (by kernel_rfl) (by decide) (by kernel_rfl) (by kernel_rfl) (fun _ _ _ _ _ h => h) ?_
  simp only [List.take_succ_cons, List.take_zero, List.drop_succ_cons, List.drop_zero]
  repeat (refine wpSteady_step (fun K hK => ?_); go_simp; first | (refine steady_of ?_ (fun W hW => ?_) (hK _ ?_); rotate_left; (obtain ⟨h1, h2⟩ := hW; go_simp; first | done | rfl); clear hK K) | (refine hK _ ?_; clear hK K))
  refine wpSteady_nil ?_
  refine reg_seg 9 9 7 (by kernel_rfl) (by decide) (by kernel_rfl) (by kernel_rfl) (fun _ _ _ _ _ h => h) ?_
  simp only [List.take_succ_cons, List.take_zero, List.drop_succ_cons, List.drop_zero]
  repeat (refine wpSteady_step (fun K hK => ?_); go_simp; first | (refine steady_of ?_ (fun W hW => ?_) (hK _ ?_); rotate_left; (obtain ⟨h1, h2⟩ := hW; go_simp; first | done | rfl); clear hK K) | (refine hK _ ?_; clear hK K))
  refine wpSteady_nil ?_
  refine reg_two 4 8 6 (by kernel_rfl) (by kernel_rfl) ⟨d0, d1⟩ ?_ ?_
  · simp only [List.take_succ_cons, List.take_zero, List.drop_succ_cons, List.drop_zero]
    go_wp2_with fail
    first | refine next_nil ?_ | refine next_go ?_
    refine reg_one 8 5 (by kernel_rfl) (by kernel_rfl) ⟨d0, d1⟩ ?_
    simp only [List.take_succ_cons, List.take_zero, List.drop_succ_cons, List.drop_zero]
    go_wp2_with fail
    first | refine next_nil ?_ | refine next_go ?_
    refine reg_one 18 4 (by kernel_rfl) (by kernel_rfl) ⟨d0, d1⟩ ?_
    simp only [List.take_succ_cons, List.take_zero, List.drop_succ_cons, List.drop_zero]
    go_wp2_with fail
    refine (sum_any (decide (x < 0)) (!decide (y < 0)) v u x.natAbs y.natAbs w.drew (unhide HD) (unhide HE) (by omega) (by omega)).mono ?_
    rintro e w1 ⟨k1, c, v1, n1, rfl, D1, hn1, hs1⟩
    have K1 := hide (of_drew k1)
    have HD1 := hide D1
    have HS := hide hs1
    have d01 := cell_keep (unhide K1) hlr d0
    have d11 := cell_keep (unhide K1) hlr d1
    have hp1 := hide ((unhide HP).step (unhide K1))
    clear k1 D1 hs1
    go_wp2_with fail
    first | refine next_nil ?_ | refine next_go ?_
    refine reg_seg 19 2 2 (by kernel_rfl) (by decide) (by kernel_rfl) (by kernel_rfl) (fun _ _ _ _ _ h => h) ?_
    simp only [List.take_succ_cons, List.take_zero, List.drop_succ_cons, List.drop_zero]
    repeat (refine wpSteady_step (fun K hK => ?_); go_simp; first | (refine steady_of ?_ (fun W hW => ?_) (hK _ ?_); rotate_left; (obtain ⟨h1, h2⟩ := hW; go_simp; first | done | rfl); clear hK K) | (refine hK _ ?_; clear hK K))
    refine wpSteady_nil ?_
    refine reg_one 21 1 (by kernel_rfl) (by kernel_rfl) ⟨d01, d11⟩ ?_
    simp only [List.take_succ_cons, List.take_zero, List.drop_succ_cons, List.drop_zero]
    go_wp2_with fail
    refine (give_any p c v1 n1 w1 (unhide hp1) (unhide HD1) hn1).mono ?_
    rintro e w2 ⟨rfl, k2, b2⟩
    rw [unhide HS, unhide HB] at b2
    have K2 := hide k2
    have B2 := hide b2
    have hlr1 : r < w1.heap.size := Nat.lt_of_lt_of_le hlr (unhide K1).size
    have d02 := (World.cell?_of_block (w := w1) (a := ⟨r, 0, none⟩) ((unhide K2).block r hlr1 hnr)).trans d01
    have d12 := (World.cell?_of_block (w := w1) (a := ⟨r, 1, none⟩) ((unhide K2).block r hlr1 hnr)).trans d11
    clear k2 b2
    go_wp2_with fail
    first | refine next_nil ?_ | refine next_go ?_
    refine reg_one 22 0 (by kernel_rfl) (by kernel_rfl) ⟨d02, d12⟩ ?_
    simp only [List.take_succ_cons, List.take_zero, List.drop_succ_cons, List.drop_zero]
    go_wp2_with fail
    first | refine next_nil ?_ | refine next_go ?_
    refine reg_end (by kernel_rfl) ⟨d02, d12⟩ ?_
    go_wp2_with fail
    go_ret
    exact ⟨rfl, (Tn.of (unhide K1)).trans (unhide K2), unhide B2⟩
  · simp only [List.take_succ_cons, List.take_zero, List.drop_succ_cons, List.drop_zero]
    go_wp2_with fail
    first | refine next_nil ?_ | refine next_go ?_
    refine reg_one 4 5 (by kernel_rfl) (by kernel_rfl) ⟨d0, d1⟩ ?_
    simp only [List.take_succ_cons, List.take_zero, List.drop_succ_cons, List.drop_zero]
    go_wp2_with fail
    first | refine next_nil ?_ | refine next_go ?_
    refine reg_one 18 4 (by kernel_rfl) (by kernel_rfl) ⟨d0, d1⟩ ?_
    simp only [List.take_succ_cons, List.take_zero, List.drop_succ_cons, List.drop_zero]
    go_wp2_with fail
    refine (sum_any (decide (x < 0)) (!decide (y < 0)) v u x.natAbs y.natAbs w.drew (unhide HD) (unhide HE) (by omega) (by omega)).mono ?_
    rintro e w1 ⟨k1, c, v1, n1, rfl, D1, hn1, hs1⟩
    have K1 := hide (of_drew k1)
    have HD1 := hide D1
    have HS := hide hs1
    have d01 := cell_keep (unhide K1) hlr d0
    have d11 := cell_keep (unhide K1) hlr d1
    have hp1 := hide ((unhide HP).step (unhide K1))
    clear k1 D1 hs1
    go_wp2_with fail
    first | refine next_nil ?_ | refine next_go ?_
    refine reg_seg 19 2 2 (by kernel_rfl) (by decide) (by kernel_rfl) (by kernel_rfl) (fun _ _ _ _ _ h => h) ?_
    simp only [List.take_succ_cons, List.take_zero, List.drop_succ_cons, List.drop_zero]
    repeat (refine wpSteady_step (fun K hK => ?_); go_simp; first | (refine steady_of ?_ (fun W hW => ?_) (hK _ ?_); rotate_left; (obtain ⟨h1, h2⟩ := hW; go_simp; first | done | rfl); clear hK K) | (refine hK _ ?_; clear hK K))
    refine wpSteady_nil ?_
    refine reg_one 21 1 (by kernel_rfl) (by kernel_rfl) ⟨d01, d11⟩ ?_
    simp only [List.take_succ_cons, List.take_zero, List.drop_succ_cons, List.drop_zero]
    go_wp2_with fail
    refine (give_any p c v1 n1 w1 (unhide hp1) (unhide HD1) hn1).mono ?_
    rintro e w2 ⟨rfl, k2, b2⟩
    rw [unhide HS, unhide HB] at b2
    have K2 := hide k2
    have B2 := hide b2
    have hlr1 : r < w1.heap.size := Nat.lt_of_lt_of_le hlr (unhide K1).size
    have d02 := (World.cell?_of_block (w := w1) (a := ⟨r, 0, none⟩) ((unhide K2).block r hlr1 hnr)).trans d01
    have d12 := (World.cell?_of_block (w := w1) (a := ⟨r, 1, none⟩) ((unhide K2).block r hlr1 hnr)).trans d11
    clear k2 b2
    go_wp2_with fail
    first | refine next_nil ?_ | refine next_go ?_
    refine reg_one 22 0 (by kernel_rfl) (by kernel_rfl) ⟨d02, d12⟩ ?_
    simp only [List.take_succ_cons, List.take_zero, List.drop_succ_cons, List.drop_zero]
    go_wp2_with fail
    first | refine next_nil ?_ | refine next_go ?_
    refine reg_end (by kernel_rfl) ⟨d02, d12⟩ ?_
    go_wp2_with fail
    go_ret
    exact ⟨rfl, (Tn.of (unhide K1)).trans (unhide K2), unhide B2⟩
end Go.Proofs.YtaidefdbjcgcbaaGreat
