/-
  The document's machine: steps (0, 1, 2, 3, 4, 19, 20, 21, 22).
-/
import Derived.Test.YtjlbenbfmookoaaR3S
namespace Go.Proofs.Ytjlbenbfmookoaa
open Go.RowKit
set_option linter.unusedSimpArgs false
set_option linter.unusedVariables false

set_option maxRecDepth 100000 in
set_option maxHeartbeats 4000000 in
theorem sx0 {w0 w : World} {p q n : Nat} {vc vm vi vo : Value} {m : Ma} {ms xs bs : List Int} (h : BX w0 w p q n vc vm vi vo m ms xs bs) (d s mm k : Int) (R : oneA xs m.pc = (⟨0, d, s, mm⟩, k)) (hd : 0 ≤ d) (hd' : d ≤ 7) (hs : 0 ≤ s) (hs' : s ≤ 7) (hm : wd mm) (hk1 : 1 ≤ k) (hk2 : k ≤ 2) (hn : n < 2000000) :
    Calls Try.prog 31 #[.pointer (some ⟨p, 0, none⟩)] w fun e w' => SRet w0 p q n vc vm vi ms xs bs 1 (m) e w' := by
  have ON := hide (fun W hW => rOne_any xs vc m.pc W hW)
  rw [R] at ON
  unfold agg at ON
  have HI := hide (fun (W : World) (k : Below w.heap.size w W) => h.code.step (h.low.trans (k.mono h.low.size)))
  have HB := hide h
  have HQ := hide (fun (W : World) (k : Below w.heap.size w W) => (show W.cell? ⟨p, 0, none⟩ = some vc ∧ W.cell? ⟨p, 13, none⟩ = some (.int .i64 m.pc) from ⟨cell_keep k h.pw h.at.1, cell_keep k h.pw h.at.2.2.2.2.2.1⟩))
  have hp := h.pw
  have hqw := h.qw
  have hpc := h.fine.pc
  have hrd := h.fine.reg hd hd'
  have hrs := h.fine.reg hs hs'
  have hc0 := h.at.1
  have hc13 := h.at.2.2.2.2.2.1
  clear h R
  go_enter Try.func31, Try.ntmps31
  go_upto_region 1 with fail
  refine reg_start (fun W => W.cell? ⟨p, 0, none⟩ = some vc ∧ W.cell? ⟨p, 13, none⟩ = some (.int .i64 m.pc)) (by kernel_rfl) ?_
  have T := hide (OneS.start w)
  clear hc0 hc13
  generalize w.drew = W at *
  refine reg_seg 0 9 7 (by kernel_rfl) (by decide) (by kernel_rfl) (by kernel_rfl) (fun _ _ _ _ _ h => h) ?_
  simp only [List.take_succ_cons, List.take_zero, List.drop_succ_cons, List.drop_zero]
  repeat (refine wpSteady_step (fun K hK => ?_); go_simp; first | (refine steady_of ?_ (fun W hW => ?_) (hK _ ?_); rotate_left; (obtain ⟨ca, cb⟩ := hW; go_simp; first | done | rfl); clear hK K) | (refine hK _ ?_; clear hK K))
  refine wpSteady_nil ?_
  apply reg_meet1 (R := fun pi W => OneS w true pi W)
  · intro hm
    refine reg_two 9 13 6 (by kernel_rfl) (by kernel_rfl) (unhide HQ W (unhide T).kw) ?_ ?_
    · skip
      simp only [List.take_succ_cons, List.take_zero, List.drop_succ_cons, List.drop_zero]
      go_wp2_with fail
      refine (unhide ON W (unhide HI W (unhide T).kw)).mono ?_
      rintro e wn ⟨rfl, kn⟩
      have T' := hide ((unhide T).call kn)
      have T := T'
      clear kn T'
      generalize wn = W at *
      go_wp2_with fail
      first | refine next_nil ?_ | refine next_go ?_
      refine reg_seg 10 3 3 (by kernel_rfl) (by decide) (by kernel_rfl) (by kernel_rfl) (fun _ _ _ _ _ h => h) ?_
      simp only [List.take_succ_cons, List.take_zero, List.drop_succ_cons, List.drop_zero]
      repeat (refine wpSteady_step (fun K hK => ?_); go_simp; first | (refine steady_of ?_ (fun W hW => ?_) (hK _ ?_); rotate_left; (obtain ⟨ca, cb⟩ := hW; go_simp; first | done | rfl); clear hK K) | (refine hK _ ?_; clear hK K))
      refine wpSteady_nil ?_
      refine reg_one 13 2 (by kernel_rfl) (by kernel_rfl) (unhide HQ W (unhide T).kw) ?_
      simp only [List.take_succ_cons, List.take_zero, List.drop_succ_cons, List.drop_zero]
      go_wp2_with fail
      have T' := hide ((unhide T).al (T := 49))
      have T := T'
      clear T'
      generalize W.alloc (.cells #[.int .i64 0, .int .i64 0, .int .i64 0, .int .i64 0] 49) = W' at *
      generalize W.heap.size = pi at *
      generalize W' = W at *
      first | refine next_nil ?_ | refine next_go ?_
      refine reg_said #[true, true, true, true, true, true, true, true, true, true, true, true, true, true, false, false] (by kernel_rfl) ?_
      exact hm pi W (unhide T)
    · skip
      simp only [List.take_succ_cons, List.take_zero, List.drop_succ_cons, List.drop_zero]
      go_wp2_with fail
      have T' := hide ((unhide T).al (T := 49))
      have T := T'
      clear T'
      generalize W.alloc (.cells #[.int .i64 0, .int .i64 0, .int .i64 0, .int .i64 0] 49) = W' at *
      generalize W.heap.size = pi at *
      generalize W' = W at *
      first | refine next_nil ?_ | refine next_go ?_
      refine reg_one 9 5 (by kernel_rfl) (by kernel_rfl) (unhide HQ W (unhide T).kw) ?_
      simp only [List.take_succ_cons, List.take_zero, List.drop_succ_cons, List.drop_zero]
      go_wp2_with fail
      refine (unhide ON W (unhide HI W (unhide T).kw)).mono ?_
      rintro e wn ⟨rfl, kn⟩
      have T' := hide ((unhide T).call kn)
      have T := T'
      clear kn T'
      generalize wn = W at *
      go_wp2_with fail
      first | refine next_nil ?_ | refine next_go ?_
      refine reg_seg 10 3 2 (by kernel_rfl) (by decide) (by kernel_rfl) (by kernel_rfl) (fun _ _ _ _ _ h => h) ?_
      simp only [List.take_succ_cons, List.take_zero, List.drop_succ_cons, List.drop_zero]
      repeat (refine wpSteady_step (fun K hK => ?_); go_simp; first | (refine steady_of ?_ (fun W hW => ?_) (hK _ ?_); rotate_left; (obtain ⟨ca, cb⟩ := hW; go_simp; first | done | rfl); clear hK K) | (refine hK _ ?_; clear hK K))
      refine wpSteady_nil ?_
      refine reg_said #[true, true, true, true, true, true, true, true, true, true, true, true, true, true, false, false] (by kernel_rfl) ?_
      exact hm pi W (unhide T)
  · intro pi W T0
    have T := hide T0
    clear T0
    obtain ⟨G5, lpi⟩ := (unhide T).bx rfl
    have H5 := hide G5
    obtain ⟨x0, x1, x2, x3⟩ := G5.at4
    have x4 := G5.2.2
    clear G5
    refine reg_one 14 1 (by kernel_rfl) (by kernel_rfl) (unhide HQ W (unhide T).kw) ?_
    simp only [List.take_succ_cons, List.take_zero, List.drop_succ_cons, List.drop_zero]
    go_wp2_with fail
    first | refine next_nil ?_ | refine next_go ?_
    have K2 := hide (below_4 (unhide T).kw lpi (.int .i64 0) (.int .i64 d) (.int .i64 s) (.int .i64 mm))
    have I2 := hide ((unhide H5).four (.int .i64 0) (.int .i64 d) (.int .i64 s) (.int .i64 mm))
    clear x0 x1 x2 x3 x4 H5 T
    generalize (((W.setCell ⟨pi, 0, none⟩ (.int .i64 0)).setCell ⟨pi, 1, none⟩ (.int .i64 d)).setCell ⟨pi, 2, none⟩ (.int .i64 s)).setCell ⟨pi, 3, none⟩ (.int .i64 mm) = w2 at *
    refine reg_seg 15 1 0 (by kernel_rfl) (by decide) (by kernel_rfl) (by kernel_rfl) (fun _ _ _ _ _ h => h) ?_
    simp only [List.take_succ_cons, List.take_zero, List.drop_succ_cons, List.drop_zero]
    repeat (refine wpSteady_step (fun K hK => ?_); go_simp; first | (refine steady_of ?_ (fun W hW => ?_) (hK _ ?_); rotate_left; (obtain ⟨ca, cb⟩ := hW; go_simp; first | done | rfl); clear hK K) | (refine hK _ ?_; clear hK K))
    refine wpSteady_nil ?_
    refine reg_end (by kernel_rfl) (unhide HQ w2 (unhide K2)) ?_
    have B2 := hide ((unhide HB).step (unhide K2))
    have sz2 := (unhide K2).size
    have lp2 := (unhide I2).1
    obtain ⟨-, c9, c10, c11, c12, c13, -, -, -, -, -, -, -⟩ := (unhide B2).at
    have hk0 : (k == 0) = false := beq_eq_false_iff_ne.2 (by omega)
    have hpc' := hpc
    unfold wd at hpc'
    have hwr2 := wrap_ok (x := m.pc + k) (by omega) (by omega)
    have tl2 := tm_lw (x := m.pc + k) (by omega)
    have hl2 := lw_b (m.pc + k)
    generalize hnx : lw (m.pc + k) = nx at *
    have HNX := hide hnx
    clear hnx
    have S3 := hide (SX.mk (w := w) ((unhide B2).new (.cells #[.bool m.c, .bool m.z, .bool m.n, .bool m.v] 25)) ((unhide I2).step (below_a _ _)) (Box.new w2 #[.bool m.c, .bool m.z, .bool m.n, .bool m.v] 25) lpi sz2 hp hqw)
    clear HB HQ HI ON
    go_wp2_with fail
    generalize w2.alloc (.cells #[.bool m.c, .bool m.z, .bool m.n, .bool m.v] 25) = w3 at *
    generalize w2.heap.size = pf at *
    clear B2 I2 K2 c9 c10 c11 c12 c13
    obtain ⟨y0, y1, y2, y3⟩ := (unhide S3).I.at4
    obtain ⟨z0, z1, z2, z3⟩ := (unhide S3).F.at4
    have cd := (unhide S3).bx.reg hd hd'
    have cs := (unhide S3).bx.reg hs hs'
    have fz := (unhide S3).bx.flat
    have hd8 : d < 8 := by omega
    have hs8 : s < 8 := by omega
    have hp3 := (unhide S3).bx.pw
    go_quiet (fail)
    have S4 := hide ((unhide S3).step (show Below w3.heap.size w3 (w3.drewN nq) from ⟨rfl, rfl, rfl, Nat.le_refl _, fun _ _ => rfl⟩))
    clear S3 y0 y1 y2 y3 z0 z1 z2 z3 cd cs fz hp3
    generalize w3.drewN nq = w4 at *
    obtain ⟨y0, y1, y2, y3⟩ := (unhide S4).I.at4
    obtain ⟨z0, z1, z2, z3⟩ := (unhide S4).F.at4
    have cd := (unhide S4).bx.reg hd hd'
    have cs := (unhide S4).bx.reg hs hs'
    have fz := (unhide S4).bx.flat
    have hp4 := (unhide S4).bx.pw
    go_wp2_with fail
    go_ret
    unfold SRet
    refine ⟨_, _, rfl, ?_, (unhide S4).bx⟩
    omega
set_option maxRecDepth 100000 in
set_option maxHeartbeats 4000000 in
theorem sx1 {w0 w : World} {p q n : Nat} {vc vm vi vo : Value} {m : Ma} {ms xs bs : List Int} (h : BX w0 w p q n vc vm vi vo m ms xs bs) (d s mm k : Int) (R : oneA xs m.pc = (⟨1, d, s, mm⟩, k)) (hd : 0 ≤ d) (hd' : d ≤ 7) (hs : 0 ≤ s) (hs' : s ≤ 7) (hm : wd mm) (hk1 : 1 ≤ k) (hk2 : k ≤ 2) (hn : n < 2000000) :
    Calls Try.prog 31 #[.pointer (some ⟨p, 0, none⟩)] w fun e w' => SRet w0 p q n vc vm vi ms xs bs 0 ({ m.setR d (m.reg s) with pc := lw (m.pc + k) }) e w' := by
  have ON := hide (fun W hW => rOne_any xs vc m.pc W hW)
  rw [R] at ON
  unfold agg at ON
  have HI := hide (fun (W : World) (k : Below w.heap.size w W) => h.code.step (h.low.trans (k.mono h.low.size)))
  have HB := hide h
  have HQ := hide (fun (W : World) (k : Below w.heap.size w W) => (show W.cell? ⟨p, 0, none⟩ = some vc ∧ W.cell? ⟨p, 13, none⟩ = some (.int .i64 m.pc) from ⟨cell_keep k h.pw h.at.1, cell_keep k h.pw h.at.2.2.2.2.2.1⟩))
  have hp := h.pw
  have hqw := h.qw
  have hpc := h.fine.pc
  have hrd := h.fine.reg hd hd'
  have hrs := h.fine.reg hs hs'
  have hc0 := h.at.1
  have hc13 := h.at.2.2.2.2.2.1
  clear h R
  go_enter Try.func31, Try.ntmps31
  go_upto_region 1 with fail
  refine reg_start (fun W => W.cell? ⟨p, 0, none⟩ = some vc ∧ W.cell? ⟨p, 13, none⟩ = some (.int .i64 m.pc)) (by kernel_rfl) ?_
  have T := hide (OneS.start w)
  clear hc0 hc13
  generalize w.drew = W at *
  refine reg_seg 0 9 7 (by kernel_rfl) (by decide) (by kernel_rfl) (by kernel_rfl) (fun _ _ _ _ _ h => h) ?_
  simp only [List.take_succ_cons, List.take_zero, List.drop_succ_cons, List.drop_zero]
  repeat (refine wpSteady_step (fun K hK => ?_); go_simp; first | (refine steady_of ?_ (fun W hW => ?_) (hK _ ?_); rotate_left; (obtain ⟨ca, cb⟩ := hW; go_simp; first | done | rfl); clear hK K) | (refine hK _ ?_; clear hK K))
  refine wpSteady_nil ?_
  apply reg_meet1 (R := fun pi W => OneS w true pi W)
  · intro hm
    refine reg_two 9 13 6 (by kernel_rfl) (by kernel_rfl) (unhide HQ W (unhide T).kw) ?_ ?_
    · skip
      simp only [List.take_succ_cons, List.take_zero, List.drop_succ_cons, List.drop_zero]
      go_wp2_with fail
      refine (unhide ON W (unhide HI W (unhide T).kw)).mono ?_
      rintro e wn ⟨rfl, kn⟩
      have T' := hide ((unhide T).call kn)
      have T := T'
      clear kn T'
      generalize wn = W at *
      go_wp2_with fail
      first | refine next_nil ?_ | refine next_go ?_
      refine reg_seg 10 3 3 (by kernel_rfl) (by decide) (by kernel_rfl) (by kernel_rfl) (fun _ _ _ _ _ h => h) ?_
      simp only [List.take_succ_cons, List.take_zero, List.drop_succ_cons, List.drop_zero]
      repeat (refine wpSteady_step (fun K hK => ?_); go_simp; first | (refine steady_of ?_ (fun W hW => ?_) (hK _ ?_); rotate_left; (obtain ⟨ca, cb⟩ := hW; go_simp; first | done | rfl); clear hK K) | (refine hK _ ?_; clear hK K))
      refine wpSteady_nil ?_
      refine reg_one 13 2 (by kernel_rfl) (by kernel_rfl) (unhide HQ W (unhide T).kw) ?_
      simp only [List.take_succ_cons, List.take_zero, List.drop_succ_cons, List.drop_zero]
      go_wp2_with fail
      have T' := hide ((unhide T).al (T := 49))
      have T := T'
      clear T'
      generalize W.alloc (.cells #[.int .i64 0, .int .i64 0, .int .i64 0, .int .i64 0] 49) = W' at *
      generalize W.heap.size = pi at *
      generalize W' = W at *
      first | refine next_nil ?_ | refine next_go ?_
      refine reg_said #[true, true, true, true, true, true, true, true, true, true, true, true, true, true, false, false] (by kernel_rfl) ?_
      exact hm pi W (unhide T)
    · skip
      simp only [List.take_succ_cons, List.take_zero, List.drop_succ_cons, List.drop_zero]
      go_wp2_with fail
      have T' := hide ((unhide T).al (T := 49))
      have T := T'
      clear T'
      generalize W.alloc (.cells #[.int .i64 0, .int .i64 0, .int .i64 0, .int .i64 0] 49) = W' at *
      generalize W.heap.size = pi at *
      generalize W' = W at *
      first | refine next_nil ?_ | refine next_go ?_
      refine reg_one 9 5 (by kernel_rfl) (by kernel_rfl) (unhide HQ W (unhide T).kw) ?_
      simp only [List.take_succ_cons, List.take_zero, List.drop_succ_cons, List.drop_zero]
      go_wp2_with fail
      refine (unhide ON W (unhide HI W (unhide T).kw)).mono ?_
      rintro e wn ⟨rfl, kn⟩
      have T' := hide ((unhide T).call kn)
      have T := T'
      clear kn T'
      generalize wn = W at *
      go_wp2_with fail
      first | refine next_nil ?_ | refine next_go ?_
      refine reg_seg 10 3 2 (by kernel_rfl) (by decide) (by kernel_rfl) (by kernel_rfl) (fun _ _ _ _ _ h => h) ?_
      simp only [List.take_succ_cons, List.take_zero, List.drop_succ_cons, List.drop_zero]
      repeat (refine wpSteady_step (fun K hK => ?_); go_simp; first | (refine steady_of ?_ (fun W hW => ?_) (hK _ ?_); rotate_left; (obtain ⟨ca, cb⟩ := hW; go_simp; first | done | rfl); clear hK K) | (refine hK _ ?_; clear hK K))
      refine wpSteady_nil ?_
      refine reg_said #[true, true, true, true, true, true, true, true, true, true, true, true, true, true, false, false] (by kernel_rfl) ?_
      exact hm pi W (unhide T)
  · intro pi W T0
    have T := hide T0
    clear T0
    obtain ⟨G5, lpi⟩ := (unhide T).bx rfl
    have H5 := hide G5
    obtain ⟨x0, x1, x2, x3⟩ := G5.at4
    have x4 := G5.2.2
    clear G5
    refine reg_one 14 1 (by kernel_rfl) (by kernel_rfl) (unhide HQ W (unhide T).kw) ?_
    simp only [List.take_succ_cons, List.take_zero, List.drop_succ_cons, List.drop_zero]
    go_wp2_with fail
    first | refine next_nil ?_ | refine next_go ?_
    have K2 := hide (below_4 (unhide T).kw lpi (.int .i64 1) (.int .i64 d) (.int .i64 s) (.int .i64 mm))
    have I2 := hide ((unhide H5).four (.int .i64 1) (.int .i64 d) (.int .i64 s) (.int .i64 mm))
    clear x0 x1 x2 x3 x4 H5 T
    generalize (((W.setCell ⟨pi, 0, none⟩ (.int .i64 1)).setCell ⟨pi, 1, none⟩ (.int .i64 d)).setCell ⟨pi, 2, none⟩ (.int .i64 s)).setCell ⟨pi, 3, none⟩ (.int .i64 mm) = w2 at *
    refine reg_seg 15 1 0 (by kernel_rfl) (by decide) (by kernel_rfl) (by kernel_rfl) (fun _ _ _ _ _ h => h) ?_
    simp only [List.take_succ_cons, List.take_zero, List.drop_succ_cons, List.drop_zero]
    repeat (refine wpSteady_step (fun K hK => ?_); go_simp; first | (refine steady_of ?_ (fun W hW => ?_) (hK _ ?_); rotate_left; (obtain ⟨ca, cb⟩ := hW; go_simp; first | done | rfl); clear hK K) | (refine hK _ ?_; clear hK K))
    refine wpSteady_nil ?_
    refine reg_end (by kernel_rfl) (unhide HQ w2 (unhide K2)) ?_
    have B2 := hide ((unhide HB).step (unhide K2))
    have sz2 := (unhide K2).size
    have lp2 := (unhide I2).1
    obtain ⟨-, c9, c10, c11, c12, c13, -, -, -, -, -, -, -⟩ := (unhide B2).at
    have hk0 : (k == 0) = false := beq_eq_false_iff_ne.2 (by omega)
    have hpc' := hpc
    unfold wd at hpc'
    have hwr2 := wrap_ok (x := m.pc + k) (by omega) (by omega)
    have tl2 := tm_lw (x := m.pc + k) (by omega)
    have hl2 := lw_b (m.pc + k)
    generalize hnx : lw (m.pc + k) = nx at *
    have HNX := hide hnx
    clear hnx
    have S3 := hide (SX.mk (w := w) ((unhide B2).new (.cells #[.bool m.c, .bool m.z, .bool m.n, .bool m.v] 25)) ((unhide I2).step (below_a _ _)) (Box.new w2 #[.bool m.c, .bool m.z, .bool m.n, .bool m.v] 25) lpi sz2 hp hqw)
    clear HB HQ HI ON
    go_wp2_with fail
    generalize w2.alloc (.cells #[.bool m.c, .bool m.z, .bool m.n, .bool m.v] 25) = w3 at *
    generalize w2.heap.size = pf at *
    clear B2 I2 K2 c9 c10 c11 c12 c13
    obtain ⟨y0, y1, y2, y3⟩ := (unhide S3).I.at4
    obtain ⟨z0, z1, z2, z3⟩ := (unhide S3).F.at4
    have cd := (unhide S3).bx.reg hd hd'
    have cs := (unhide S3).bx.reg hs hs'
    have fz := (unhide S3).bx.flat
    have hd8 : d < 8 := by omega
    have hs8 : s < 8 := by omega
    have hp3 := (unhide S3).bx.pw
    go_quiet (fail)
    have S4 := hide ((unhide S3).step (show Below w3.heap.size w3 (w3.drewN nq) from ⟨rfl, rfl, rfl, Nat.le_refl _, fun _ _ => rfl⟩))
    clear S3 y0 y1 y2 y3 z0 z1 z2 z3 cd cs fz hp3
    generalize w3.drewN nq = w4 at *
    obtain ⟨y0, y1, y2, y3⟩ := (unhide S4).I.at4
    obtain ⟨z0, z1, z2, z3⟩ := (unhide S4).F.at4
    have cd := (unhide S4).bx.reg hd hd'
    have cs := (unhide S4).bx.reg hs hs'
    have fz := (unhide S4).bx.flat
    have hp4 := (unhide S4).bx.pw
    go_wp2_with fail
    have c13 := (unhide S4).bx.at.2.2.2.2.2.1
    have B6 := hide ((((unhide S4).bx.sreg d (m.reg s) hd hd' hrs).put (m' := { m.setR d (m.reg s) with pc := nx }) 13 (.int .i64 nx) (by decide) rfl rfl rfl { ((unhide S4).bx.sreg d (m.reg s) hd hd' hrs).fine with pc := hl2 }).drew)
    refine wp_region_head 8 (by kernel_rfl) (by kernel_rfl) ?_
    simp only [List.take_succ_cons, List.take_zero, List.drop_succ_cons, List.drop_zero]
    repeat (first | still_step)
    refine wpStill_nil ?_
    go_wp2_with fail
    go_ret
    unfold SRet
    refine ⟨_, _, rfl, ?_, by first | exact unhide B6 | (rw [unhide HNX]; exact unhide B6)⟩
    omega
set_option maxRecDepth 100000 in
set_option maxHeartbeats 4000000 in
theorem sx2 {w0 w : World} {p q n : Nat} {vc vm vi vo : Value} {m : Ma} {ms xs bs : List Int} (h : BX w0 w p q n vc vm vi vo m ms xs bs) (d s mm k : Int) (R : oneA xs m.pc = (⟨2, d, s, mm⟩, k)) (hd : 0 ≤ d) (hd' : d ≤ 7) (hs : 0 ≤ s) (hs' : s ≤ 7) (hm : wd mm) (hk1 : 1 ≤ k) (hk2 : k ≤ 2) (hn : n < 2000000) :
    Calls Try.prog 31 #[.pointer (some ⟨p, 0, none⟩)] w fun e w' => SRet w0 p q n vc vm vi ms xs bs 0 ({ m.setR d mm with pc := lw (m.pc + k) }) e w' := by
  have ON := hide (fun W hW => rOne_any xs vc m.pc W hW)
  rw [R] at ON
  unfold agg at ON
  have HI := hide (fun (W : World) (k : Below w.heap.size w W) => h.code.step (h.low.trans (k.mono h.low.size)))
  have HB := hide h
  have HQ := hide (fun (W : World) (k : Below w.heap.size w W) => (show W.cell? ⟨p, 0, none⟩ = some vc ∧ W.cell? ⟨p, 13, none⟩ = some (.int .i64 m.pc) from ⟨cell_keep k h.pw h.at.1, cell_keep k h.pw h.at.2.2.2.2.2.1⟩))
  have hp := h.pw
  have hqw := h.qw
  have hpc := h.fine.pc
  have hrd := h.fine.reg hd hd'
  have hrs := h.fine.reg hs hs'
  have hc0 := h.at.1
  have hc13 := h.at.2.2.2.2.2.1
  clear h R
  go_enter Try.func31, Try.ntmps31
  go_upto_region 1 with fail
  refine reg_start (fun W => W.cell? ⟨p, 0, none⟩ = some vc ∧ W.cell? ⟨p, 13, none⟩ = some (.int .i64 m.pc)) (by kernel_rfl) ?_
  have T := hide (OneS.start w)
  clear hc0 hc13
  generalize w.drew = W at *
  refine reg_seg 0 9 7 (by kernel_rfl) (by decide) (by kernel_rfl) (by kernel_rfl) (fun _ _ _ _ _ h => h) ?_
  simp only [List.take_succ_cons, List.take_zero, List.drop_succ_cons, List.drop_zero]
  repeat (refine wpSteady_step (fun K hK => ?_); go_simp; first | (refine steady_of ?_ (fun W hW => ?_) (hK _ ?_); rotate_left; (obtain ⟨ca, cb⟩ := hW; go_simp; first | done | rfl); clear hK K) | (refine hK _ ?_; clear hK K))
  refine wpSteady_nil ?_
  apply reg_meet1 (R := fun pi W => OneS w true pi W)
  · intro hm
    refine reg_two 9 13 6 (by kernel_rfl) (by kernel_rfl) (unhide HQ W (unhide T).kw) ?_ ?_
    · skip
      simp only [List.take_succ_cons, List.take_zero, List.drop_succ_cons, List.drop_zero]
      go_wp2_with fail
      refine (unhide ON W (unhide HI W (unhide T).kw)).mono ?_
      rintro e wn ⟨rfl, kn⟩
      have T' := hide ((unhide T).call kn)
      have T := T'
      clear kn T'
      generalize wn = W at *
      go_wp2_with fail
      first | refine next_nil ?_ | refine next_go ?_
      refine reg_seg 10 3 3 (by kernel_rfl) (by decide) (by kernel_rfl) (by kernel_rfl) (fun _ _ _ _ _ h => h) ?_
      simp only [List.take_succ_cons, List.take_zero, List.drop_succ_cons, List.drop_zero]
      repeat (refine wpSteady_step (fun K hK => ?_); go_simp; first | (refine steady_of ?_ (fun W hW => ?_) (hK _ ?_); rotate_left; (obtain ⟨ca, cb⟩ := hW; go_simp; first | done | rfl); clear hK K) | (refine hK _ ?_; clear hK K))
      refine wpSteady_nil ?_
      refine reg_one 13 2 (by kernel_rfl) (by kernel_rfl) (unhide HQ W (unhide T).kw) ?_
      simp only [List.take_succ_cons, List.take_zero, List.drop_succ_cons, List.drop_zero]
      go_wp2_with fail
      have T' := hide ((unhide T).al (T := 49))
      have T := T'
      clear T'
      generalize W.alloc (.cells #[.int .i64 0, .int .i64 0, .int .i64 0, .int .i64 0] 49) = W' at *
      generalize W.heap.size = pi at *
      generalize W' = W at *
      first | refine next_nil ?_ | refine next_go ?_
      refine reg_said #[true, true, true, true, true, true, true, true, true, true, true, true, true, true, false, false] (by kernel_rfl) ?_
      exact hm pi W (unhide T)
    · skip
      simp only [List.take_succ_cons, List.take_zero, List.drop_succ_cons, List.drop_zero]
      go_wp2_with fail
      have T' := hide ((unhide T).al (T := 49))
      have T := T'
      clear T'
      generalize W.alloc (.cells #[.int .i64 0, .int .i64 0, .int .i64 0, .int .i64 0] 49) = W' at *
      generalize W.heap.size = pi at *
      generalize W' = W at *
      first | refine next_nil ?_ | refine next_go ?_
      refine reg_one 9 5 (by kernel_rfl) (by kernel_rfl) (unhide HQ W (unhide T).kw) ?_
      simp only [List.take_succ_cons, List.take_zero, List.drop_succ_cons, List.drop_zero]
      go_wp2_with fail
      refine (unhide ON W (unhide HI W (unhide T).kw)).mono ?_
      rintro e wn ⟨rfl, kn⟩
      have T' := hide ((unhide T).call kn)
      have T := T'
      clear kn T'
      generalize wn = W at *
      go_wp2_with fail
      first | refine next_nil ?_ | refine next_go ?_
      refine reg_seg 10 3 2 (by kernel_rfl) (by decide) (by kernel_rfl) (by kernel_rfl) (fun _ _ _ _ _ h => h) ?_
      simp only [List.take_succ_cons, List.take_zero, List.drop_succ_cons, List.drop_zero]
      repeat (refine wpSteady_step (fun K hK => ?_); go_simp; first | (refine steady_of ?_ (fun W hW => ?_) (hK _ ?_); rotate_left; (obtain ⟨ca, cb⟩ := hW; go_simp; first | done | rfl); clear hK K) | (refine hK _ ?_; clear hK K))
      refine wpSteady_nil ?_
      refine reg_said #[true, true, true, true, true, true, true, true, true, true, true, true, true, true, false, false] (by kernel_rfl) ?_
      exact hm pi W (unhide T)
  · intro pi W T0
    have T := hide T0
    clear T0
    obtain ⟨G5, lpi⟩ := (unhide T).bx rfl
    have H5 := hide G5
    obtain ⟨x0, x1, x2, x3⟩ := G5.at4
    have x4 := G5.2.2
    clear G5
    refine reg_one 14 1 (by kernel_rfl) (by kernel_rfl) (unhide HQ W (unhide T).kw) ?_
    simp only [List.take_succ_cons, List.take_zero, List.drop_succ_cons, List.drop_zero]
    go_wp2_with fail
    first | refine next_nil ?_ | refine next_go ?_
    have K2 := hide (below_4 (unhide T).kw lpi (.int .i64 2) (.int .i64 d) (.int .i64 s) (.int .i64 mm))
    have I2 := hide ((unhide H5).four (.int .i64 2) (.int .i64 d) (.int .i64 s) (.int .i64 mm))
    clear x0 x1 x2 x3 x4 H5 T
    generalize (((W.setCell ⟨pi, 0, none⟩ (.int .i64 2)).setCell ⟨pi, 1, none⟩ (.int .i64 d)).setCell ⟨pi, 2, none⟩ (.int .i64 s)).setCell ⟨pi, 3, none⟩ (.int .i64 mm) = w2 at *
    refine reg_seg 15 1 0 (by kernel_rfl) (by decide) (by kernel_rfl) (by kernel_rfl) (fun _ _ _ _ _ h => h) ?_
    simp only [List.take_succ_cons, List.take_zero, List.drop_succ_cons, List.drop_zero]
    repeat (refine wpSteady_step (fun K hK => ?_); go_simp; first | (refine steady_of ?_ (fun W hW => ?_) (hK _ ?_); rotate_left; (obtain ⟨ca, cb⟩ := hW; go_simp; first | done | rfl); clear hK K) | (refine hK _ ?_; clear hK K))
    refine wpSteady_nil ?_
    refine reg_end (by kernel_rfl) (unhide HQ w2 (unhide K2)) ?_
    have B2 := hide ((unhide HB).step (unhide K2))
    have sz2 := (unhide K2).size
    have lp2 := (unhide I2).1
    obtain ⟨-, c9, c10, c11, c12, c13, -, -, -, -, -, -, -⟩ := (unhide B2).at
    have hk0 : (k == 0) = false := beq_eq_false_iff_ne.2 (by omega)
    have hpc' := hpc
    unfold wd at hpc'
    have hwr2 := wrap_ok (x := m.pc + k) (by omega) (by omega)
    have tl2 := tm_lw (x := m.pc + k) (by omega)
    have hl2 := lw_b (m.pc + k)
    generalize hnx : lw (m.pc + k) = nx at *
    have HNX := hide hnx
    clear hnx
    have S3 := hide (SX.mk (w := w) ((unhide B2).new (.cells #[.bool m.c, .bool m.z, .bool m.n, .bool m.v] 25)) ((unhide I2).step (below_a _ _)) (Box.new w2 #[.bool m.c, .bool m.z, .bool m.n, .bool m.v] 25) lpi sz2 hp hqw)
    clear HB HQ HI ON
    go_wp2_with fail
    generalize w2.alloc (.cells #[.bool m.c, .bool m.z, .bool m.n, .bool m.v] 25) = w3 at *
    generalize w2.heap.size = pf at *
    clear B2 I2 K2 c9 c10 c11 c12 c13
    obtain ⟨y0, y1, y2, y3⟩ := (unhide S3).I.at4
    obtain ⟨z0, z1, z2, z3⟩ := (unhide S3).F.at4
    have cd := (unhide S3).bx.reg hd hd'
    have cs := (unhide S3).bx.reg hs hs'
    have fz := (unhide S3).bx.flat
    have hd8 : d < 8 := by omega
    have hs8 : s < 8 := by omega
    have hp3 := (unhide S3).bx.pw
    go_quiet (fail)
    have S4 := hide ((unhide S3).step (show Below w3.heap.size w3 (w3.drewN nq) from ⟨rfl, rfl, rfl, Nat.le_refl _, fun _ _ => rfl⟩))
    clear S3 y0 y1 y2 y3 z0 z1 z2 z3 cd cs fz hp3
    generalize w3.drewN nq = w4 at *
    obtain ⟨y0, y1, y2, y3⟩ := (unhide S4).I.at4
    obtain ⟨z0, z1, z2, z3⟩ := (unhide S4).F.at4
    have cd := (unhide S4).bx.reg hd hd'
    have cs := (unhide S4).bx.reg hs hs'
    have fz := (unhide S4).bx.flat
    have hp4 := (unhide S4).bx.pw
    go_wp2_with fail
    have c13 := (unhide S4).bx.at.2.2.2.2.2.1
    have B6 := hide ((((unhide S4).bx.sreg d mm hd hd' hm).put (m' := { m.setR d mm with pc := nx }) 13 (.int .i64 nx) (by decide) rfl rfl rfl { ((unhide S4).bx.sreg d mm hd hd' hm).fine with pc := hl2 }).drew)
    refine wp_region_head 9 (by kernel_rfl) (by kernel_rfl) ?_
    simp only [List.take_succ_cons, List.take_zero, List.drop_succ_cons, List.drop_zero]
    repeat (first | still_step)
    refine wpStill_nil ?_
    go_wp2_with fail
    go_ret
    unfold SRet
    refine ⟨_, _, rfl, ?_, by first | exact unhide B6 | (rw [unhide HNX]; exact unhide B6)⟩
    omega
set_option maxRecDepth 100000 in
set_option maxHeartbeats 4000000 in
theorem sx3 {w0 w : World} {p q n : Nat} {vc vm vi vo : Value} {m : Ma} {ms xs bs : List Int} (h : BX w0 w p q n vc vm vi vo m ms xs bs) (d s mm k : Int) (R : oneA xs m.pc = (⟨3, d, s, mm⟩, k)) (hd : 0 ≤ d) (hd' : d ≤ 7) (hs : 0 ≤ s) (hs' : s ≤ 7) (hm : wd mm) (hk1 : 1 ≤ k) (hk2 : k ≤ 2) (hn : n < 2000000) :
    Calls Try.prog 31 #[.pointer (some ⟨p, 0, none⟩)] w fun e w' => SRet w0 p q n vc vm vi ms xs bs 0 ({ m.setR d (m.ld (lw (m.reg s + mm))) with pc := lw (m.pc + k) }) e w' := by
  have ON := hide (fun W hW => rOne_any xs vc m.pc W hW)
  rw [R] at ON
  unfold agg at ON
  have HI := hide (fun (W : World) (k : Below w.heap.size w W) => h.code.step (h.low.trans (k.mono h.low.size)))
  have HB := hide h
  have HQ := hide (fun (W : World) (k : Below w.heap.size w W) => (show W.cell? ⟨p, 0, none⟩ = some vc ∧ W.cell? ⟨p, 13, none⟩ = some (.int .i64 m.pc) from ⟨cell_keep k h.pw h.at.1, cell_keep k h.pw h.at.2.2.2.2.2.1⟩))
  have hp := h.pw
  have hqw := h.qw
  have hpc := h.fine.pc
  have hrd := h.fine.reg hd hd'
  have hrs := h.fine.reg hs hs'
  have hc0 := h.at.1
  have hc13 := h.at.2.2.2.2.2.1
  clear h R
  go_enter Try.func31, Try.ntmps31
  go_upto_region 1 with fail
  refine reg_start (fun W => W.cell? ⟨p, 0, none⟩ = some vc ∧ W.cell? ⟨p, 13, none⟩ = some (.int .i64 m.pc)) (by kernel_rfl) ?_
  have T := hide (OneS.start w)
  clear hc0 hc13
  generalize w.drew = W at *
  refine reg_seg 0 9 7 (by kernel_rfl) (by decide) (by kernel_rfl) (by kernel_rfl) (fun _ _ _ _ _ h => h) ?_
  simp only [List.take_succ_cons, List.take_zero, List.drop_succ_cons, List.drop_zero]
  repeat (refine wpSteady_step (fun K hK => ?_); go_simp; first | (refine steady_of ?_ (fun W hW => ?_) (hK _ ?_); rotate_left; (obtain ⟨ca, cb⟩ := hW; go_simp; first | done | rfl); clear hK K) | (refine hK _ ?_; clear hK K))
  refine wpSteady_nil ?_
  apply reg_meet1 (R := fun pi W => OneS w true pi W)
  · intro hm
    refine reg_two 9 13 6 (by kernel_rfl) (by kernel_rfl) (unhide HQ W (unhide T).kw) ?_ ?_
    · skip
      simp only [List.take_succ_cons, List.take_zero, List.drop_succ_cons, List.drop_zero]
      go_wp2_with fail
      refine (unhide ON W (unhide HI W (unhide T).kw)).mono ?_
      rintro e wn ⟨rfl, kn⟩
      have T' := hide ((unhide T).call kn)
      have T := T'
      clear kn T'
      generalize wn = W at *
      go_wp2_with fail
      first | refine next_nil ?_ | refine next_go ?_
      refine reg_seg 10 3 3 (by kernel_rfl) (by decide) (by kernel_rfl) (by kernel_rfl) (fun _ _ _ _ _ h => h) ?_
      simp only [List.take_succ_cons, List.take_zero, List.drop_succ_cons, List.drop_zero]
      repeat (refine wpSteady_step (fun K hK => ?_); go_simp; first | (refine steady_of ?_ (fun W hW => ?_) (hK _ ?_); rotate_left; (obtain ⟨ca, cb⟩ := hW; go_simp; first | done | rfl); clear hK K) | (refine hK _ ?_; clear hK K))
      refine wpSteady_nil ?_
      refine reg_one 13 2 (by kernel_rfl) (by kernel_rfl) (unhide HQ W (unhide T).kw) ?_
      simp only [List.take_succ_cons, List.take_zero, List.drop_succ_cons, List.drop_zero]
      go_wp2_with fail
      have T' := hide ((unhide T).al (T := 49))
      have T := T'
      clear T'
      generalize W.alloc (.cells #[.int .i64 0, .int .i64 0, .int .i64 0, .int .i64 0] 49) = W' at *
      generalize W.heap.size = pi at *
      generalize W' = W at *
      first | refine next_nil ?_ | refine next_go ?_
      refine reg_said #[true, true, true, true, true, true, true, true, true, true, true, true, true, true, false, false] (by kernel_rfl) ?_
      exact hm pi W (unhide T)
    · skip
      simp only [List.take_succ_cons, List.take_zero, List.drop_succ_cons, List.drop_zero]
      go_wp2_with fail
      have T' := hide ((unhide T).al (T := 49))
      have T := T'
      clear T'
      generalize W.alloc (.cells #[.int .i64 0, .int .i64 0, .int .i64 0, .int .i64 0] 49) = W' at *
      generalize W.heap.size = pi at *
      generalize W' = W at *
      first | refine next_nil ?_ | refine next_go ?_
      refine reg_one 9 5 (by kernel_rfl) (by kernel_rfl) (unhide HQ W (unhide T).kw) ?_
      simp only [List.take_succ_cons, List.take_zero, List.drop_succ_cons, List.drop_zero]
      go_wp2_with fail
      refine (unhide ON W (unhide HI W (unhide T).kw)).mono ?_
      rintro e wn ⟨rfl, kn⟩
      have T' := hide ((unhide T).call kn)
      have T := T'
      clear kn T'
      generalize wn = W at *
      go_wp2_with fail
      first | refine next_nil ?_ | refine next_go ?_
      refine reg_seg 10 3 2 (by kernel_rfl) (by decide) (by kernel_rfl) (by kernel_rfl) (fun _ _ _ _ _ h => h) ?_
      simp only [List.take_succ_cons, List.take_zero, List.drop_succ_cons, List.drop_zero]
      repeat (refine wpSteady_step (fun K hK => ?_); go_simp; first | (refine steady_of ?_ (fun W hW => ?_) (hK _ ?_); rotate_left; (obtain ⟨ca, cb⟩ := hW; go_simp; first | done | rfl); clear hK K) | (refine hK _ ?_; clear hK K))
      refine wpSteady_nil ?_
      refine reg_said #[true, true, true, true, true, true, true, true, true, true, true, true, true, true, false, false] (by kernel_rfl) ?_
      exact hm pi W (unhide T)
  · intro pi W T0
    have T := hide T0
    clear T0
    obtain ⟨G5, lpi⟩ := (unhide T).bx rfl
    have H5 := hide G5
    obtain ⟨x0, x1, x2, x3⟩ := G5.at4
    have x4 := G5.2.2
    clear G5
    refine reg_one 14 1 (by kernel_rfl) (by kernel_rfl) (unhide HQ W (unhide T).kw) ?_
    simp only [List.take_succ_cons, List.take_zero, List.drop_succ_cons, List.drop_zero]
    go_wp2_with fail
    first | refine next_nil ?_ | refine next_go ?_
    have K2 := hide (below_4 (unhide T).kw lpi (.int .i64 3) (.int .i64 d) (.int .i64 s) (.int .i64 mm))
    have I2 := hide ((unhide H5).four (.int .i64 3) (.int .i64 d) (.int .i64 s) (.int .i64 mm))
    clear x0 x1 x2 x3 x4 H5 T
    generalize (((W.setCell ⟨pi, 0, none⟩ (.int .i64 3)).setCell ⟨pi, 1, none⟩ (.int .i64 d)).setCell ⟨pi, 2, none⟩ (.int .i64 s)).setCell ⟨pi, 3, none⟩ (.int .i64 mm) = w2 at *
    refine reg_seg 15 1 0 (by kernel_rfl) (by decide) (by kernel_rfl) (by kernel_rfl) (fun _ _ _ _ _ h => h) ?_
    simp only [List.take_succ_cons, List.take_zero, List.drop_succ_cons, List.drop_zero]
    repeat (refine wpSteady_step (fun K hK => ?_); go_simp; first | (refine steady_of ?_ (fun W hW => ?_) (hK _ ?_); rotate_left; (obtain ⟨ca, cb⟩ := hW; go_simp; first | done | rfl); clear hK K) | (refine hK _ ?_; clear hK K))
    refine wpSteady_nil ?_
    refine reg_end (by kernel_rfl) (unhide HQ w2 (unhide K2)) ?_
    have B2 := hide ((unhide HB).step (unhide K2))
    have sz2 := (unhide K2).size
    have lp2 := (unhide I2).1
    obtain ⟨-, c9, c10, c11, c12, c13, -, -, -, -, -, -, -⟩ := (unhide B2).at
    have hk0 : (k == 0) = false := beq_eq_false_iff_ne.2 (by omega)
    have hpc' := hpc
    unfold wd at hpc'
    have hwr2 := wrap_ok (x := m.pc + k) (by omega) (by omega)
    have tl2 := tm_lw (x := m.pc + k) (by omega)
    have hl2 := lw_b (m.pc + k)
    generalize hnx : lw (m.pc + k) = nx at *
    have HNX := hide hnx
    clear hnx
    have S3 := hide (SX.mk (w := w) ((unhide B2).new (.cells #[.bool m.c, .bool m.z, .bool m.n, .bool m.v] 25)) ((unhide I2).step (below_a _ _)) (Box.new w2 #[.bool m.c, .bool m.z, .bool m.n, .bool m.v] 25) lpi sz2 hp hqw)
    clear HB HQ HI ON
    go_wp2_with fail
    generalize w2.alloc (.cells #[.bool m.c, .bool m.z, .bool m.n, .bool m.v] 25) = w3 at *
    generalize w2.heap.size = pf at *
    clear B2 I2 K2 c9 c10 c11 c12 c13
    obtain ⟨y0, y1, y2, y3⟩ := (unhide S3).I.at4
    obtain ⟨z0, z1, z2, z3⟩ := (unhide S3).F.at4
    have cd := (unhide S3).bx.reg hd hd'
    have cs := (unhide S3).bx.reg hs hs'
    have fz := (unhide S3).bx.flat
    have hd8 : d < 8 := by omega
    have hs8 : s < 8 := by omega
    have hp3 := (unhide S3).bx.pw
    go_quiet (fail)
    have S4 := hide ((unhide S3).step (show Below w3.heap.size w3 (w3.drewN nq) from ⟨rfl, rfl, rfl, Nat.le_refl _, fun _ _ => rfl⟩))
    clear S3 y0 y1 y2 y3 z0 z1 z2 z3 cd cs fz hp3
    generalize w3.drewN nq = w4 at *
    obtain ⟨y0, y1, y2, y3⟩ := (unhide S4).I.at4
    obtain ⟨z0, z1, z2, z3⟩ := (unhide S4).F.at4
    have cd := (unhide S4).bx.reg hd hd'
    have cs := (unhide S4).bx.reg hs hs'
    have fz := (unhide S4).bx.flat
    have hp4 := (unhide S4).bx.pw
    go_wp2_with fail
    have hv := (unhide S4).bx.fine.ld (d := lw (m.reg s + mm)) (lw_b _)
    unfold wd at hrs hm
    have hwr := wrap_ok (x := m.reg s + mm) (by omega) (by omega)
    have LD := load3_any (unhide S4).bx.drew (m.reg s + mm) (by omega) (by omega)
    have c13 := (unhide S4).bx.at.2.2.2.2.2.1
    have B6 := hide ((((unhide S4).bx.sreg d (m.ld (lw (m.reg s + mm))) hd hd' hv).put (m' := { m.setR d (m.ld (lw (m.reg s + mm))) with pc := nx }) 13 (.int .i64 nx) (by decide) rfl rfl rfl { ((unhide S4).bx.sreg d (m.ld (lw (m.reg s + mm))) hd hd' hv).fine with pc := hl2 }).drew)
    refine wp_region_head 13 (by kernel_rfl) (by kernel_rfl) ?_
    simp only [List.take_succ_cons, List.take_zero, List.drop_succ_cons, List.drop_zero]
    repeat (first | still_step | still_call LD)
    refine wpStill_nil ?_
    go_wp2_with fail
    go_ret
    unfold SRet
    refine ⟨_, _, rfl, ?_, by first | exact unhide B6 | (rw [unhide HNX]; exact unhide B6)⟩
    omega
set_option maxRecDepth 100000 in
set_option maxHeartbeats 4000000 in
theorem sx4 {w0 w : World} {p q n : Nat} {vc vm vi vo : Value} {m : Ma} {ms xs bs : List Int} (h : BX w0 w p q n vc vm vi vo m ms xs bs) (d s mm k : Int) (R : oneA xs m.pc = (⟨4, d, s, mm⟩, k)) (hd : 0 ≤ d) (hd' : d ≤ 7) (hs : 0 ≤ s) (hs' : s ≤ 7) (hm : wd mm) (hk1 : 1 ≤ k) (hk2 : k ≤ 2) (hn : n < 2000000) :
    Calls Try.prog 31 #[.pointer (some ⟨p, 0, none⟩)] w fun e w' => SRet w0 p q n vc vm vi ms xs bs 0 ({ m.st (lw (m.reg d + mm)) (m.reg s) with pc := lw (m.pc + k) }) e w' := by
  have ON := hide (fun W hW => rOne_any xs vc m.pc W hW)
  rw [R] at ON
  unfold agg at ON
  have HI := hide (fun (W : World) (k : Below w.heap.size w W) => h.code.step (h.low.trans (k.mono h.low.size)))
  have HB := hide h
  have HQ := hide (fun (W : World) (k : Below w.heap.size w W) => (show W.cell? ⟨p, 0, none⟩ = some vc ∧ W.cell? ⟨p, 13, none⟩ = some (.int .i64 m.pc) from ⟨cell_keep k h.pw h.at.1, cell_keep k h.pw h.at.2.2.2.2.2.1⟩))
  have hp := h.pw
  have hqw := h.qw
  have hpc := h.fine.pc
  have hrd := h.fine.reg hd hd'
  have hrs := h.fine.reg hs hs'
  have hc0 := h.at.1
  have hc13 := h.at.2.2.2.2.2.1
  clear h R
  go_enter Try.func31, Try.ntmps31
  go_upto_region 1 with fail
  refine reg_start (fun W => W.cell? ⟨p, 0, none⟩ = some vc ∧ W.cell? ⟨p, 13, none⟩ = some (.int .i64 m.pc)) (by kernel_rfl) ?_
  have T := hide (OneS.start w)
  clear hc0 hc13
  generalize w.drew = W at *
  refine reg_seg 0 9 7 (by kernel_rfl) (by decide) (by kernel_rfl) (by kernel_rfl) (fun _ _ _ _ _ h => h) ?_
  simp only [List.take_succ_cons, List.take_zero, List.drop_succ_cons, List.drop_zero]
  repeat (refine wpSteady_step (fun K hK => ?_); go_simp; first | (refine steady_of ?_ (fun W hW => ?_) (hK _ ?_); rotate_left; (obtain ⟨ca, cb⟩ := hW; go_simp; first | done | rfl); clear hK K) | (refine hK _ ?_; clear hK K))
  refine wpSteady_nil ?_
  apply reg_meet1 (R := fun pi W => OneS w true pi W)
  · intro hm
    refine reg_two 9 13 6 (by kernel_rfl) (by kernel_rfl) (unhide HQ W (unhide T).kw) ?_ ?_
    · skip
      simp only [List.take_succ_cons, List.take_zero, List.drop_succ_cons, List.drop_zero]
      go_wp2_with fail
      refine (unhide ON W (unhide HI W (unhide T).kw)).mono ?_
      rintro e wn ⟨rfl, kn⟩
      have T' := hide ((unhide T).call kn)
      have T := T'
      clear kn T'
      generalize wn = W at *
      go_wp2_with fail
      first | refine next_nil ?_ | refine next_go ?_
      refine reg_seg 10 3 3 (by kernel_rfl) (by decide) (by kernel_rfl) (by kernel_rfl) (fun _ _ _ _ _ h => h) ?_
      simp only [List.take_succ_cons, List.take_zero, List.drop_succ_cons, List.drop_zero]
      repeat (refine wpSteady_step (fun K hK => ?_); go_simp; first | (refine steady_of ?_ (fun W hW => ?_) (hK _ ?_); rotate_left; (obtain ⟨ca, cb⟩ := hW; go_simp; first | done | rfl); clear hK K) | (refine hK _ ?_; clear hK K))
      refine wpSteady_nil ?_
      refine reg_one 13 2 (by kernel_rfl) (by kernel_rfl) (unhide HQ W (unhide T).kw) ?_
      simp only [List.take_succ_cons, List.take_zero, List.drop_succ_cons, List.drop_zero]
      go_wp2_with fail
      have T' := hide ((unhide T).al (T := 49))
      have T := T'
      clear T'
      generalize W.alloc (.cells #[.int .i64 0, .int .i64 0, .int .i64 0, .int .i64 0] 49) = W' at *
      generalize W.heap.size = pi at *
      generalize W' = W at *
      first | refine next_nil ?_ | refine next_go ?_
      refine reg_said #[true, true, true, true, true, true, true, true, true, true, true, true, true, true, false, false] (by kernel_rfl) ?_
      exact hm pi W (unhide T)
    · skip
      simp only [List.take_succ_cons, List.take_zero, List.drop_succ_cons, List.drop_zero]
      go_wp2_with fail
      have T' := hide ((unhide T).al (T := 49))
      have T := T'
      clear T'
      generalize W.alloc (.cells #[.int .i64 0, .int .i64 0, .int .i64 0, .int .i64 0] 49) = W' at *
      generalize W.heap.size = pi at *
      generalize W' = W at *
      first | refine next_nil ?_ | refine next_go ?_
      refine reg_one 9 5 (by kernel_rfl) (by kernel_rfl) (unhide HQ W (unhide T).kw) ?_
      simp only [List.take_succ_cons, List.take_zero, List.drop_succ_cons, List.drop_zero]
      go_wp2_with fail
      refine (unhide ON W (unhide HI W (unhide T).kw)).mono ?_
      rintro e wn ⟨rfl, kn⟩
      have T' := hide ((unhide T).call kn)
      have T := T'
      clear kn T'
      generalize wn = W at *
      go_wp2_with fail
      first | refine next_nil ?_ | refine next_go ?_
      refine reg_seg 10 3 2 (by kernel_rfl) (by decide) (by kernel_rfl) (by kernel_rfl) (fun _ _ _ _ _ h => h) ?_
      simp only [List.take_succ_cons, List.take_zero, List.drop_succ_cons, List.drop_zero]
      repeat (refine wpSteady_step (fun K hK => ?_); go_simp; first | (refine steady_of ?_ (fun W hW => ?_) (hK _ ?_); rotate_left; (obtain ⟨ca, cb⟩ := hW; go_simp; first | done | rfl); clear hK K) | (refine hK _ ?_; clear hK K))
      refine wpSteady_nil ?_
      refine reg_said #[true, true, true, true, true, true, true, true, true, true, true, true, true, true, false, false] (by kernel_rfl) ?_
      exact hm pi W (unhide T)
  · intro pi W T0
    have T := hide T0
    clear T0
    obtain ⟨G5, lpi⟩ := (unhide T).bx rfl
    have H5 := hide G5
    obtain ⟨x0, x1, x2, x3⟩ := G5.at4
    have x4 := G5.2.2
    clear G5
    refine reg_one 14 1 (by kernel_rfl) (by kernel_rfl) (unhide HQ W (unhide T).kw) ?_
    simp only [List.take_succ_cons, List.take_zero, List.drop_succ_cons, List.drop_zero]
    go_wp2_with fail
    first | refine next_nil ?_ | refine next_go ?_
    have K2 := hide (below_4 (unhide T).kw lpi (.int .i64 4) (.int .i64 d) (.int .i64 s) (.int .i64 mm))
    have I2 := hide ((unhide H5).four (.int .i64 4) (.int .i64 d) (.int .i64 s) (.int .i64 mm))
    clear x0 x1 x2 x3 x4 H5 T
    generalize (((W.setCell ⟨pi, 0, none⟩ (.int .i64 4)).setCell ⟨pi, 1, none⟩ (.int .i64 d)).setCell ⟨pi, 2, none⟩ (.int .i64 s)).setCell ⟨pi, 3, none⟩ (.int .i64 mm) = w2 at *
    refine reg_seg 15 1 0 (by kernel_rfl) (by decide) (by kernel_rfl) (by kernel_rfl) (fun _ _ _ _ _ h => h) ?_
    simp only [List.take_succ_cons, List.take_zero, List.drop_succ_cons, List.drop_zero]
    repeat (refine wpSteady_step (fun K hK => ?_); go_simp; first | (refine steady_of ?_ (fun W hW => ?_) (hK _ ?_); rotate_left; (obtain ⟨ca, cb⟩ := hW; go_simp; first | done | rfl); clear hK K) | (refine hK _ ?_; clear hK K))
    refine wpSteady_nil ?_
    refine reg_end (by kernel_rfl) (unhide HQ w2 (unhide K2)) ?_
    have B2 := hide ((unhide HB).step (unhide K2))
    have sz2 := (unhide K2).size
    have lp2 := (unhide I2).1
    obtain ⟨-, c9, c10, c11, c12, c13, -, -, -, -, -, -, -⟩ := (unhide B2).at
    have hk0 : (k == 0) = false := beq_eq_false_iff_ne.2 (by omega)
    have hpc' := hpc
    unfold wd at hpc'
    have hwr2 := wrap_ok (x := m.pc + k) (by omega) (by omega)
    have tl2 := tm_lw (x := m.pc + k) (by omega)
    have hl2 := lw_b (m.pc + k)
    generalize hnx : lw (m.pc + k) = nx at *
    have HNX := hide hnx
    clear hnx
    have S3 := hide (SX.mk (w := w) ((unhide B2).new (.cells #[.bool m.c, .bool m.z, .bool m.n, .bool m.v] 25)) ((unhide I2).step (below_a _ _)) (Box.new w2 #[.bool m.c, .bool m.z, .bool m.n, .bool m.v] 25) lpi sz2 hp hqw)
    clear HB HQ HI ON
    go_wp2_with fail
    generalize w2.alloc (.cells #[.bool m.c, .bool m.z, .bool m.n, .bool m.v] 25) = w3 at *
    generalize w2.heap.size = pf at *
    clear B2 I2 K2 c9 c10 c11 c12 c13
    obtain ⟨y0, y1, y2, y3⟩ := (unhide S3).I.at4
    obtain ⟨z0, z1, z2, z3⟩ := (unhide S3).F.at4
    have cd := (unhide S3).bx.reg hd hd'
    have cs := (unhide S3).bx.reg hs hs'
    have fz := (unhide S3).bx.flat
    have hd8 : d < 8 := by omega
    have hs8 : s < 8 := by omega
    have hp3 := (unhide S3).bx.pw
    go_quiet (fail)
    have S4 := hide ((unhide S3).step (show Below w3.heap.size w3 (w3.drewN nq) from ⟨rfl, rfl, rfl, Nat.le_refl _, fun _ _ => rfl⟩))
    clear S3 y0 y1 y2 y3 z0 z1 z2 z3 cd cs fz hp3
    generalize w3.drewN nq = w4 at *
    obtain ⟨y0, y1, y2, y3⟩ := (unhide S4).I.at4
    obtain ⟨z0, z1, z2, z3⟩ := (unhide S4).F.at4
    have cd := (unhide S4).bx.reg hd hd'
    have cs := (unhide S4).bx.reg hs hs'
    have fz := (unhide S4).bx.flat
    have hp4 := (unhide S4).bx.pw
    go_wp2_with fail
    have hrs' := hrs
    have hrd' := hrd
    have hm' := hm
    unfold wd at hrs' hrd' hm'
    have hwr := wrap_ok (x := m.reg d + mm) (by omega) (by omega)
    have tl := tm_lw (x := m.reg d + mm) (by omega)
    have hl := lw_b (m.reg d + mm)
    obtain ⟨f, hM, hf⟩ := (unhide S4).bx.drew.map
    have HM := hide hM
    have HF := hide hf
    have c15 := (unhide S4).bx.at.2.2.2.2.2.2.2.1
    clear hM hf
    generalize hbb : lw (m.reg d + mm) = b at *
    have HBB := hide hbb
    clear hbb
    have hwf := wf_small (x := b) (by omega) (by omega)
    have hwx := wf_small (x := m.reg s) (by omega) (by omega)
    refine wp_region_head 10 (by kernel_rfl) (by kernel_rfl) ?_
    simp only [List.take_succ_cons, List.take_zero, List.drop_succ_cons, List.drop_zero]
    repeat (first | still_step)
    refine wpStill_nil ?_
    refine wpList_putI rfl (.tmp 113) (.tmp 118) (.tmp 119) rfl q n f rfl (unhide HM) (by unfold maxLen; omega) b rfl hwf (m.reg s) rfl hwx ?_
    intro w5 M2 g2
    have B5 := hide ((unhide S4).bx.drew.sto b (m.reg s) hl hrs f (unhide HF) M2 g2)
    clear M2 g2 cd cs fz y0 y1 y2 y3 z0 z1 z2 z3 S4 hp4 c15 HM HF
    have c13 := (unhide B5).at.2.2.2.2.2.1
    have fz5 := (unhide B5).flat
    have hp5 := (unhide B5).pw
    have B6 := hide ((unhide B5).put (m' := ({ (m.st b (m.reg s) : Ma) with pc := nx } : Ma)) 13 (.int .i64 nx) (by decide) rfl rfl rfl { (unhide B5).fine with pc := hl2 })
    go_wp2_with fail
    go_ret
    unfold SRet
    refine ⟨_, _, rfl, ?_, by first | exact unhide B6 | (rw [unhide HNX, unhide HBB]; exact unhide B6)⟩
    omega
set_option maxRecDepth 100000 in
set_option maxHeartbeats 4000000 in
theorem sx19 {w0 w : World} {p q n : Nat} {vc vm vi vo : Value} {m : Ma} {ms xs bs : List Int} (h : BX w0 w p q n vc vm vi vo m ms xs bs) (d s mm k : Int) (R : oneA xs m.pc = (⟨19, d, s, mm⟩, k)) (hd : 0 ≤ d) (hd' : d ≤ 7) (hs : 0 ≤ s) (hs' : s ≤ 7) (hm : wd mm) (hk1 : 1 ≤ k) (hk2 : k ≤ 2) (hn : n < 2000000) :
    Calls Try.prog 31 #[.pointer (some ⟨p, 0, none⟩)] w fun e w' => SRet w0 p q n vc vm vi ms xs bs 0 ({ m with pc := mm }) e w' := by
  have ON := hide (fun W hW => rOne_any xs vc m.pc W hW)
  rw [R] at ON
  unfold agg at ON
  have HI := hide (fun (W : World) (k : Below w.heap.size w W) => h.code.step (h.low.trans (k.mono h.low.size)))
  have HB := hide h
  have HQ := hide (fun (W : World) (k : Below w.heap.size w W) => (show W.cell? ⟨p, 0, none⟩ = some vc ∧ W.cell? ⟨p, 13, none⟩ = some (.int .i64 m.pc) from ⟨cell_keep k h.pw h.at.1, cell_keep k h.pw h.at.2.2.2.2.2.1⟩))
  have hp := h.pw
  have hqw := h.qw
  have hpc := h.fine.pc
  have hrd := h.fine.reg hd hd'
  have hrs := h.fine.reg hs hs'
  have hc0 := h.at.1
  have hc13 := h.at.2.2.2.2.2.1
  clear h R
  go_enter Try.func31, Try.ntmps31
  go_upto_region 1 with fail
  refine reg_start (fun W => W.cell? ⟨p, 0, none⟩ = some vc ∧ W.cell? ⟨p, 13, none⟩ = some (.int .i64 m.pc)) (by kernel_rfl) ?_
  have T := hide (OneS.start w)
  clear hc0 hc13
  generalize w.drew = W at *
  refine reg_seg 0 9 7 (by kernel_rfl) (by decide) (by kernel_rfl) (by kernel_rfl) (fun _ _ _ _ _ h => h) ?_
  simp only [List.take_succ_cons, List.take_zero, List.drop_succ_cons, List.drop_zero]
  repeat (refine wpSteady_step (fun K hK => ?_); go_simp; first | (refine steady_of ?_ (fun W hW => ?_) (hK _ ?_); rotate_left; (obtain ⟨ca, cb⟩ := hW; go_simp; first | done | rfl); clear hK K) | (refine hK _ ?_; clear hK K))
  refine wpSteady_nil ?_
  apply reg_meet1 (R := fun pi W => OneS w true pi W)
  · intro hm
    refine reg_two 9 13 6 (by kernel_rfl) (by kernel_rfl) (unhide HQ W (unhide T).kw) ?_ ?_
    · skip
      simp only [List.take_succ_cons, List.take_zero, List.drop_succ_cons, List.drop_zero]
      go_wp2_with fail
      refine (unhide ON W (unhide HI W (unhide T).kw)).mono ?_
      rintro e wn ⟨rfl, kn⟩
      have T' := hide ((unhide T).call kn)
      have T := T'
      clear kn T'
      generalize wn = W at *
      go_wp2_with fail
      first | refine next_nil ?_ | refine next_go ?_
      refine reg_seg 10 3 3 (by kernel_rfl) (by decide) (by kernel_rfl) (by kernel_rfl) (fun _ _ _ _ _ h => h) ?_
      simp only [List.take_succ_cons, List.take_zero, List.drop_succ_cons, List.drop_zero]
      repeat (refine wpSteady_step (fun K hK => ?_); go_simp; first | (refine steady_of ?_ (fun W hW => ?_) (hK _ ?_); rotate_left; (obtain ⟨ca, cb⟩ := hW; go_simp; first | done | rfl); clear hK K) | (refine hK _ ?_; clear hK K))
      refine wpSteady_nil ?_
      refine reg_one 13 2 (by kernel_rfl) (by kernel_rfl) (unhide HQ W (unhide T).kw) ?_
      simp only [List.take_succ_cons, List.take_zero, List.drop_succ_cons, List.drop_zero]
      go_wp2_with fail
      have T' := hide ((unhide T).al (T := 49))
      have T := T'
      clear T'
      generalize W.alloc (.cells #[.int .i64 0, .int .i64 0, .int .i64 0, .int .i64 0] 49) = W' at *
      generalize W.heap.size = pi at *
      generalize W' = W at *
      first | refine next_nil ?_ | refine next_go ?_
      refine reg_said #[true, true, true, true, true, true, true, true, true, true, true, true, true, true, false, false] (by kernel_rfl) ?_
      exact hm pi W (unhide T)
    · skip
      simp only [List.take_succ_cons, List.take_zero, List.drop_succ_cons, List.drop_zero]
      go_wp2_with fail
      have T' := hide ((unhide T).al (T := 49))
      have T := T'
      clear T'
      generalize W.alloc (.cells #[.int .i64 0, .int .i64 0, .int .i64 0, .int .i64 0] 49) = W' at *
      generalize W.heap.size = pi at *
      generalize W' = W at *
      first | refine next_nil ?_ | refine next_go ?_
      refine reg_one 9 5 (by kernel_rfl) (by kernel_rfl) (unhide HQ W (unhide T).kw) ?_
      simp only [List.take_succ_cons, List.take_zero, List.drop_succ_cons, List.drop_zero]
      go_wp2_with fail
      refine (unhide ON W (unhide HI W (unhide T).kw)).mono ?_
      rintro e wn ⟨rfl, kn⟩
      have T' := hide ((unhide T).call kn)
      have T := T'
      clear kn T'
      generalize wn = W at *
      go_wp2_with fail
      first | refine next_nil ?_ | refine next_go ?_
      refine reg_seg 10 3 2 (by kernel_rfl) (by decide) (by kernel_rfl) (by kernel_rfl) (fun _ _ _ _ _ h => h) ?_
      simp only [List.take_succ_cons, List.take_zero, List.drop_succ_cons, List.drop_zero]
      repeat (refine wpSteady_step (fun K hK => ?_); go_simp; first | (refine steady_of ?_ (fun W hW => ?_) (hK _ ?_); rotate_left; (obtain ⟨ca, cb⟩ := hW; go_simp; first | done | rfl); clear hK K) | (refine hK _ ?_; clear hK K))
      refine wpSteady_nil ?_
      refine reg_said #[true, true, true, true, true, true, true, true, true, true, true, true, true, true, false, false] (by kernel_rfl) ?_
      exact hm pi W (unhide T)
  · intro pi W T0
    have T := hide T0
    clear T0
    obtain ⟨G5, lpi⟩ := (unhide T).bx rfl
    have H5 := hide G5
    obtain ⟨x0, x1, x2, x3⟩ := G5.at4
    have x4 := G5.2.2
    clear G5
    refine reg_one 14 1 (by kernel_rfl) (by kernel_rfl) (unhide HQ W (unhide T).kw) ?_
    simp only [List.take_succ_cons, List.take_zero, List.drop_succ_cons, List.drop_zero]
    go_wp2_with fail
    first | refine next_nil ?_ | refine next_go ?_
    have K2 := hide (below_4 (unhide T).kw lpi (.int .i64 19) (.int .i64 d) (.int .i64 s) (.int .i64 mm))
    have I2 := hide ((unhide H5).four (.int .i64 19) (.int .i64 d) (.int .i64 s) (.int .i64 mm))
    clear x0 x1 x2 x3 x4 H5 T
    generalize (((W.setCell ⟨pi, 0, none⟩ (.int .i64 19)).setCell ⟨pi, 1, none⟩ (.int .i64 d)).setCell ⟨pi, 2, none⟩ (.int .i64 s)).setCell ⟨pi, 3, none⟩ (.int .i64 mm) = w2 at *
    refine reg_seg 15 1 0 (by kernel_rfl) (by decide) (by kernel_rfl) (by kernel_rfl) (fun _ _ _ _ _ h => h) ?_
    simp only [List.take_succ_cons, List.take_zero, List.drop_succ_cons, List.drop_zero]
    repeat (refine wpSteady_step (fun K hK => ?_); go_simp; first | (refine steady_of ?_ (fun W hW => ?_) (hK _ ?_); rotate_left; (obtain ⟨ca, cb⟩ := hW; go_simp; first | done | rfl); clear hK K) | (refine hK _ ?_; clear hK K))
    refine wpSteady_nil ?_
    refine reg_end (by kernel_rfl) (unhide HQ w2 (unhide K2)) ?_
    have B2 := hide ((unhide HB).step (unhide K2))
    have sz2 := (unhide K2).size
    have lp2 := (unhide I2).1
    obtain ⟨-, c9, c10, c11, c12, c13, -, -, -, -, -, -, -⟩ := (unhide B2).at
    have hk0 : (k == 0) = false := beq_eq_false_iff_ne.2 (by omega)
    have hpc' := hpc
    unfold wd at hpc'
    have hwr2 := wrap_ok (x := m.pc + k) (by omega) (by omega)
    have tl2 := tm_lw (x := m.pc + k) (by omega)
    have hl2 := lw_b (m.pc + k)
    generalize hnx : lw (m.pc + k) = nx at *
    have HNX := hide hnx
    clear hnx
    have S3 := hide (SX.mk (w := w) ((unhide B2).new (.cells #[.bool m.c, .bool m.z, .bool m.n, .bool m.v] 25)) ((unhide I2).step (below_a _ _)) (Box.new w2 #[.bool m.c, .bool m.z, .bool m.n, .bool m.v] 25) lpi sz2 hp hqw)
    clear HB HQ HI ON
    go_wp2_with fail
    generalize w2.alloc (.cells #[.bool m.c, .bool m.z, .bool m.n, .bool m.v] 25) = w3 at *
    generalize w2.heap.size = pf at *
    clear B2 I2 K2 c9 c10 c11 c12 c13
    obtain ⟨y0, y1, y2, y3⟩ := (unhide S3).I.at4
    obtain ⟨z0, z1, z2, z3⟩ := (unhide S3).F.at4
    have cd := (unhide S3).bx.reg hd hd'
    have cs := (unhide S3).bx.reg hs hs'
    have fz := (unhide S3).bx.flat
    have hd8 : d < 8 := by omega
    have hs8 : s < 8 := by omega
    have hp3 := (unhide S3).bx.pw
    go_quiet (fail)
    have S4 := hide ((unhide S3).step (show Below w3.heap.size w3 (w3.drewN nq) from ⟨rfl, rfl, rfl, Nat.le_refl _, fun _ _ => rfl⟩))
    clear S3 y0 y1 y2 y3 z0 z1 z2 z3 cd cs fz hp3
    generalize w3.drewN nq = w4 at *
    obtain ⟨y0, y1, y2, y3⟩ := (unhide S4).I.at4
    obtain ⟨z0, z1, z2, z3⟩ := (unhide S4).F.at4
    have cd := (unhide S4).bx.reg hd hd'
    have cs := (unhide S4).bx.reg hs hs'
    have fz := (unhide S4).bx.flat
    have hp4 := (unhide S4).bx.pw
    have c13 := (unhide S4).bx.at.2.2.2.2.2.1
    have B6 := hide ((unhide S4).bx.put (m' := { m with pc := mm }) 13 (.int .i64 mm) (by decide) rfl rfl rfl { (unhide S4).bx.fine with pc := hm })
    go_wp2_with fail
    go_ret
    unfold SRet
    refine ⟨_, _, rfl, ?_, by first | exact unhide B6 | (rw [unhide HNX]; exact unhide B6)⟩
    omega
set_option maxRecDepth 100000 in
set_option maxHeartbeats 4000000 in
theorem sx20y {w0 w : World} {p q n : Nat} {vc vm vi vo : Value} {m : Ma} {ms xs bs : List Int} (h : BX w0 w p q n vc vm vi vo m ms xs bs) (d s mm k : Int) (R : oneA xs m.pc = (⟨20, d, s, mm⟩, k)) (hd : 0 ≤ d) (hd' : d ≤ 7) (hs : 0 ≤ s) (hs' : s ≤ 7) (hm : wd mm) (hk1 : 1 ≤ k) (hk2 : k ≤ 2) (hn : n < 2000000) (hj : m.z = true) :
    Calls Try.prog 31 #[.pointer (some ⟨p, 0, none⟩)] w fun e w' => SRet w0 p q n vc vm vi ms xs bs 0 ({ m with pc := mm }) e w' := by
  have HJ := hide hj
  clear hj
  have ON := hide (fun W hW => rOne_any xs vc m.pc W hW)
  rw [R] at ON
  unfold agg at ON
  have HI := hide (fun (W : World) (k : Below w.heap.size w W) => h.code.step (h.low.trans (k.mono h.low.size)))
  have HB := hide h
  have HQ := hide (fun (W : World) (k : Below w.heap.size w W) => (show W.cell? ⟨p, 0, none⟩ = some vc ∧ W.cell? ⟨p, 13, none⟩ = some (.int .i64 m.pc) from ⟨cell_keep k h.pw h.at.1, cell_keep k h.pw h.at.2.2.2.2.2.1⟩))
  have hp := h.pw
  have hqw := h.qw
  have hpc := h.fine.pc
  have hrd := h.fine.reg hd hd'
  have hrs := h.fine.reg hs hs'
  have hc0 := h.at.1
  have hc13 := h.at.2.2.2.2.2.1
  clear h R
  go_enter Try.func31, Try.ntmps31
  go_upto_region 1 with fail
  refine reg_start (fun W => W.cell? ⟨p, 0, none⟩ = some vc ∧ W.cell? ⟨p, 13, none⟩ = some (.int .i64 m.pc)) (by kernel_rfl) ?_
  have T := hide (OneS.start w)
  clear hc0 hc13
  generalize w.drew = W at *
  refine reg_seg 0 9 7 (by kernel_rfl) (by decide) (by kernel_rfl) (by kernel_rfl) (fun _ _ _ _ _ h => h) ?_
  simp only [List.take_succ_cons, List.take_zero, List.drop_succ_cons, List.drop_zero]
  repeat (refine wpSteady_step (fun K hK => ?_); go_simp; first | (refine steady_of ?_ (fun W hW => ?_) (hK _ ?_); rotate_left; (obtain ⟨ca, cb⟩ := hW; go_simp; first | done | rfl); clear hK K) | (refine hK _ ?_; clear hK K))
  refine wpSteady_nil ?_
  apply reg_meet1 (R := fun pi W => OneS w true pi W)
  · intro hm
    refine reg_two 9 13 6 (by kernel_rfl) (by kernel_rfl) (unhide HQ W (unhide T).kw) ?_ ?_
    · skip
      simp only [List.take_succ_cons, List.take_zero, List.drop_succ_cons, List.drop_zero]
      go_wp2_with fail
      refine (unhide ON W (unhide HI W (unhide T).kw)).mono ?_
      rintro e wn ⟨rfl, kn⟩
      have T' := hide ((unhide T).call kn)
      have T := T'
      clear kn T'
      generalize wn = W at *
      go_wp2_with fail
      first | refine next_nil ?_ | refine next_go ?_
      refine reg_seg 10 3 3 (by kernel_rfl) (by decide) (by kernel_rfl) (by kernel_rfl) (fun _ _ _ _ _ h => h) ?_
      simp only [List.take_succ_cons, List.take_zero, List.drop_succ_cons, List.drop_zero]
      repeat (refine wpSteady_step (fun K hK => ?_); go_simp; first | (refine steady_of ?_ (fun W hW => ?_) (hK _ ?_); rotate_left; (obtain ⟨ca, cb⟩ := hW; go_simp; first | done | rfl); clear hK K) | (refine hK _ ?_; clear hK K))
      refine wpSteady_nil ?_
      refine reg_one 13 2 (by kernel_rfl) (by kernel_rfl) (unhide HQ W (unhide T).kw) ?_
      simp only [List.take_succ_cons, List.take_zero, List.drop_succ_cons, List.drop_zero]
      go_wp2_with fail
      have T' := hide ((unhide T).al (T := 49))
      have T := T'
      clear T'
      generalize W.alloc (.cells #[.int .i64 0, .int .i64 0, .int .i64 0, .int .i64 0] 49) = W' at *
      generalize W.heap.size = pi at *
      generalize W' = W at *
      first | refine next_nil ?_ | refine next_go ?_
      refine reg_said #[true, true, true, true, true, true, true, true, true, true, true, true, true, true, false, false] (by kernel_rfl) ?_
      exact hm pi W (unhide T)
    · skip
      simp only [List.take_succ_cons, List.take_zero, List.drop_succ_cons, List.drop_zero]
      go_wp2_with fail
      have T' := hide ((unhide T).al (T := 49))
      have T := T'
      clear T'
      generalize W.alloc (.cells #[.int .i64 0, .int .i64 0, .int .i64 0, .int .i64 0] 49) = W' at *
      generalize W.heap.size = pi at *
      generalize W' = W at *
      first | refine next_nil ?_ | refine next_go ?_
      refine reg_one 9 5 (by kernel_rfl) (by kernel_rfl) (unhide HQ W (unhide T).kw) ?_
      simp only [List.take_succ_cons, List.take_zero, List.drop_succ_cons, List.drop_zero]
      go_wp2_with fail
      refine (unhide ON W (unhide HI W (unhide T).kw)).mono ?_
      rintro e wn ⟨rfl, kn⟩
      have T' := hide ((unhide T).call kn)
      have T := T'
      clear kn T'
      generalize wn = W at *
      go_wp2_with fail
      first | refine next_nil ?_ | refine next_go ?_
      refine reg_seg 10 3 2 (by kernel_rfl) (by decide) (by kernel_rfl) (by kernel_rfl) (fun _ _ _ _ _ h => h) ?_
      simp only [List.take_succ_cons, List.take_zero, List.drop_succ_cons, List.drop_zero]
      repeat (refine wpSteady_step (fun K hK => ?_); go_simp; first | (refine steady_of ?_ (fun W hW => ?_) (hK _ ?_); rotate_left; (obtain ⟨ca, cb⟩ := hW; go_simp; first | done | rfl); clear hK K) | (refine hK _ ?_; clear hK K))
      refine wpSteady_nil ?_
      refine reg_said #[true, true, true, true, true, true, true, true, true, true, true, true, true, true, false, false] (by kernel_rfl) ?_
      exact hm pi W (unhide T)
  · intro pi W T0
    have T := hide T0
    clear T0
    obtain ⟨G5, lpi⟩ := (unhide T).bx rfl
    have H5 := hide G5
    obtain ⟨x0, x1, x2, x3⟩ := G5.at4
    have x4 := G5.2.2
    clear G5
    refine reg_one 14 1 (by kernel_rfl) (by kernel_rfl) (unhide HQ W (unhide T).kw) ?_
    simp only [List.take_succ_cons, List.take_zero, List.drop_succ_cons, List.drop_zero]
    go_wp2_with fail
    first | refine next_nil ?_ | refine next_go ?_
    have K2 := hide (below_4 (unhide T).kw lpi (.int .i64 20) (.int .i64 d) (.int .i64 s) (.int .i64 mm))
    have I2 := hide ((unhide H5).four (.int .i64 20) (.int .i64 d) (.int .i64 s) (.int .i64 mm))
    clear x0 x1 x2 x3 x4 H5 T
    generalize (((W.setCell ⟨pi, 0, none⟩ (.int .i64 20)).setCell ⟨pi, 1, none⟩ (.int .i64 d)).setCell ⟨pi, 2, none⟩ (.int .i64 s)).setCell ⟨pi, 3, none⟩ (.int .i64 mm) = w2 at *
    refine reg_seg 15 1 0 (by kernel_rfl) (by decide) (by kernel_rfl) (by kernel_rfl) (fun _ _ _ _ _ h => h) ?_
    simp only [List.take_succ_cons, List.take_zero, List.drop_succ_cons, List.drop_zero]
    repeat (refine wpSteady_step (fun K hK => ?_); go_simp; first | (refine steady_of ?_ (fun W hW => ?_) (hK _ ?_); rotate_left; (obtain ⟨ca, cb⟩ := hW; go_simp; first | done | rfl); clear hK K) | (refine hK _ ?_; clear hK K))
    refine wpSteady_nil ?_
    refine reg_end (by kernel_rfl) (unhide HQ w2 (unhide K2)) ?_
    have B2 := hide ((unhide HB).step (unhide K2))
    have sz2 := (unhide K2).size
    have lp2 := (unhide I2).1
    obtain ⟨-, c9, c10, c11, c12, c13, -, -, -, -, -, -, -⟩ := (unhide B2).at
    have hk0 : (k == 0) = false := beq_eq_false_iff_ne.2 (by omega)
    have hpc' := hpc
    unfold wd at hpc'
    have hwr2 := wrap_ok (x := m.pc + k) (by omega) (by omega)
    have tl2 := tm_lw (x := m.pc + k) (by omega)
    have hl2 := lw_b (m.pc + k)
    generalize hnx : lw (m.pc + k) = nx at *
    have HNX := hide hnx
    clear hnx
    have S3 := hide (SX.mk (w := w) ((unhide B2).new (.cells #[.bool m.c, .bool m.z, .bool m.n, .bool m.v] 25)) ((unhide I2).step (below_a _ _)) (Box.new w2 #[.bool m.c, .bool m.z, .bool m.n, .bool m.v] 25) lpi sz2 hp hqw)
    clear HB HQ HI ON
    go_wp2_with fail
    generalize w2.alloc (.cells #[.bool m.c, .bool m.z, .bool m.n, .bool m.v] 25) = w3 at *
    generalize w2.heap.size = pf at *
    clear B2 I2 K2 c9 c10 c11 c12 c13
    obtain ⟨y0, y1, y2, y3⟩ := (unhide S3).I.at4
    obtain ⟨z0, z1, z2, z3⟩ := (unhide S3).F.at4
    have cd := (unhide S3).bx.reg hd hd'
    have cs := (unhide S3).bx.reg hs hs'
    have fz := (unhide S3).bx.flat
    have hd8 : d < 8 := by omega
    have hs8 : s < 8 := by omega
    have hp3 := (unhide S3).bx.pw
    go_quiet (fail)
    have S4 := hide ((unhide S3).step (show Below w3.heap.size w3 (w3.drewN nq) from ⟨rfl, rfl, rfl, Nat.le_refl _, fun _ _ => rfl⟩))
    clear S3 y0 y1 y2 y3 z0 z1 z2 z3 cd cs fz hp3
    generalize w3.drewN nq = w4 at *
    obtain ⟨y0, y1, y2, y3⟩ := (unhide S4).I.at4
    obtain ⟨z0, z1, z2, z3⟩ := (unhide S4).F.at4
    have cd := (unhide S4).bx.reg hd hd'
    have cs := (unhide S4).bx.reg hs hs'
    have fz := (unhide S4).bx.flat
    have hp4 := (unhide S4).bx.pw
    have hj : m.z = true := unhide HJ
    rw [hj] at z1
    have c13 := (unhide S4).bx.at.2.2.2.2.2.1
    have B6 := hide ((unhide S4).bx.put (m' := { m with pc := mm }) 13 (.int .i64 mm) (by decide) rfl rfl rfl { (unhide S4).bx.fine with pc := hm })
    go_wp2_with fail
    go_ret
    unfold SRet
    refine ⟨_, _, rfl, ?_, by first | exact unhide B6 | (rw [unhide HNX]; exact unhide B6)⟩
    omega
set_option maxRecDepth 100000 in
set_option maxHeartbeats 4000000 in
theorem sx20n {w0 w : World} {p q n : Nat} {vc vm vi vo : Value} {m : Ma} {ms xs bs : List Int} (h : BX w0 w p q n vc vm vi vo m ms xs bs) (d s mm k : Int) (R : oneA xs m.pc = (⟨20, d, s, mm⟩, k)) (hd : 0 ≤ d) (hd' : d ≤ 7) (hs : 0 ≤ s) (hs' : s ≤ 7) (hm : wd mm) (hk1 : 1 ≤ k) (hk2 : k ≤ 2) (hn : n < 2000000) (hj : m.z = false) :
    Calls Try.prog 31 #[.pointer (some ⟨p, 0, none⟩)] w fun e w' => SRet w0 p q n vc vm vi ms xs bs 0 ({ m with pc := lw (m.pc + k) }) e w' := by
  have HJ := hide hj
  clear hj
  have ON := hide (fun W hW => rOne_any xs vc m.pc W hW)
  rw [R] at ON
  unfold agg at ON
  have HI := hide (fun (W : World) (k : Below w.heap.size w W) => h.code.step (h.low.trans (k.mono h.low.size)))
  have HB := hide h
  have HQ := hide (fun (W : World) (k : Below w.heap.size w W) => (show W.cell? ⟨p, 0, none⟩ = some vc ∧ W.cell? ⟨p, 13, none⟩ = some (.int .i64 m.pc) from ⟨cell_keep k h.pw h.at.1, cell_keep k h.pw h.at.2.2.2.2.2.1⟩))
  have hp := h.pw
  have hqw := h.qw
  have hpc := h.fine.pc
  have hrd := h.fine.reg hd hd'
  have hrs := h.fine.reg hs hs'
  have hc0 := h.at.1
  have hc13 := h.at.2.2.2.2.2.1
  clear h R
  go_enter Try.func31, Try.ntmps31
  go_upto_region 1 with fail
  refine reg_start (fun W => W.cell? ⟨p, 0, none⟩ = some vc ∧ W.cell? ⟨p, 13, none⟩ = some (.int .i64 m.pc)) (by kernel_rfl) ?_
  have T := hide (OneS.start w)
  clear hc0 hc13
  generalize w.drew = W at *
  refine reg_seg 0 9 7 (by kernel_rfl) (by decide) (by kernel_rfl) (by kernel_rfl) (fun _ _ _ _ _ h => h) ?_
  simp only [List.take_succ_cons, List.take_zero, List.drop_succ_cons, List.drop_zero]
  repeat (refine wpSteady_step (fun K hK => ?_); go_simp; first | (refine steady_of ?_ (fun W hW => ?_) (hK _ ?_); rotate_left; (obtain ⟨ca, cb⟩ := hW; go_simp; first | done | rfl); clear hK K) | (refine hK _ ?_; clear hK K))
  refine wpSteady_nil ?_
  apply reg_meet1 (R := fun pi W => OneS w true pi W)
  · intro hm
    refine reg_two 9 13 6 (by kernel_rfl) (by kernel_rfl) (unhide HQ W (unhide T).kw) ?_ ?_
    · skip
      simp only [List.take_succ_cons, List.take_zero, List.drop_succ_cons, List.drop_zero]
      go_wp2_with fail
      refine (unhide ON W (unhide HI W (unhide T).kw)).mono ?_
      rintro e wn ⟨rfl, kn⟩
      have T' := hide ((unhide T).call kn)
      have T := T'
      clear kn T'
      generalize wn = W at *
      go_wp2_with fail
      first | refine next_nil ?_ | refine next_go ?_
      refine reg_seg 10 3 3 (by kernel_rfl) (by decide) (by kernel_rfl) (by kernel_rfl) (fun _ _ _ _ _ h => h) ?_
      simp only [List.take_succ_cons, List.take_zero, List.drop_succ_cons, List.drop_zero]
      repeat (refine wpSteady_step (fun K hK => ?_); go_simp; first | (refine steady_of ?_ (fun W hW => ?_) (hK _ ?_); rotate_left; (obtain ⟨ca, cb⟩ := hW; go_simp; first | done | rfl); clear hK K) | (refine hK _ ?_; clear hK K))
      refine wpSteady_nil ?_
      refine reg_one 13 2 (by kernel_rfl) (by kernel_rfl) (unhide HQ W (unhide T).kw) ?_
      simp only [List.take_succ_cons, List.take_zero, List.drop_succ_cons, List.drop_zero]
      go_wp2_with fail
      have T' := hide ((unhide T).al (T := 49))
      have T := T'
      clear T'
      generalize W.alloc (.cells #[.int .i64 0, .int .i64 0, .int .i64 0, .int .i64 0] 49) = W' at *
      generalize W.heap.size = pi at *
      generalize W' = W at *
      first | refine next_nil ?_ | refine next_go ?_
      refine reg_said #[true, true, true, true, true, true, true, true, true, true, true, true, true, true, false, false] (by kernel_rfl) ?_
      exact hm pi W (unhide T)
    · skip
      simp only [List.take_succ_cons, List.take_zero, List.drop_succ_cons, List.drop_zero]
      go_wp2_with fail
      have T' := hide ((unhide T).al (T := 49))
      have T := T'
      clear T'
      generalize W.alloc (.cells #[.int .i64 0, .int .i64 0, .int .i64 0, .int .i64 0] 49) = W' at *
      generalize W.heap.size = pi at *
      generalize W' = W at *
      first | refine next_nil ?_ | refine next_go ?_
      refine reg_one 9 5 (by kernel_rfl) (by kernel_rfl) (unhide HQ W (unhide T).kw) ?_
      simp only [List.take_succ_cons, List.take_zero, List.drop_succ_cons, List.drop_zero]
      go_wp2_with fail
      refine (unhide ON W (unhide HI W (unhide T).kw)).mono ?_
      rintro e wn ⟨rfl, kn⟩
      have T' := hide ((unhide T).call kn)
      have T := T'
      clear kn T'
      generalize wn = W at *
      go_wp2_with fail
      first | refine next_nil ?_ | refine next_go ?_
      refine reg_seg 10 3 2 (by kernel_rfl) (by decide) (by kernel_rfl) (by kernel_rfl) (fun _ _ _ _ _ h => h) ?_
      simp only [List.take_succ_cons, List.take_zero, List.drop_succ_cons, List.drop_zero]
      repeat (refine wpSteady_step (fun K hK => ?_); go_simp; first | (refine steady_of ?_ (fun W hW => ?_) (hK _ ?_); rotate_left; (obtain ⟨ca, cb⟩ := hW; go_simp; first | done | rfl); clear hK K) | (refine hK _ ?_; clear hK K))
      refine wpSteady_nil ?_
      refine reg_said #[true, true, true, true, true, true, true, true, true, true, true, true, true, true, false, false] (by kernel_rfl) ?_
      exact hm pi W (unhide T)
  · intro pi W T0
    have T := hide T0
    clear T0
    obtain ⟨G5, lpi⟩ := (unhide T).bx rfl
    have H5 := hide G5
    obtain ⟨x0, x1, x2, x3⟩ := G5.at4
    have x4 := G5.2.2
    clear G5
    refine reg_one 14 1 (by kernel_rfl) (by kernel_rfl) (unhide HQ W (unhide T).kw) ?_
    simp only [List.take_succ_cons, List.take_zero, List.drop_succ_cons, List.drop_zero]
    go_wp2_with fail
    first | refine next_nil ?_ | refine next_go ?_
    have K2 := hide (below_4 (unhide T).kw lpi (.int .i64 20) (.int .i64 d) (.int .i64 s) (.int .i64 mm))
    have I2 := hide ((unhide H5).four (.int .i64 20) (.int .i64 d) (.int .i64 s) (.int .i64 mm))
    clear x0 x1 x2 x3 x4 H5 T
    generalize (((W.setCell ⟨pi, 0, none⟩ (.int .i64 20)).setCell ⟨pi, 1, none⟩ (.int .i64 d)).setCell ⟨pi, 2, none⟩ (.int .i64 s)).setCell ⟨pi, 3, none⟩ (.int .i64 mm) = w2 at *
    refine reg_seg 15 1 0 (by kernel_rfl) (by decide) (by kernel_rfl) (by kernel_rfl) (fun _ _ _ _ _ h => h) ?_
    simp only [List.take_succ_cons, List.take_zero, List.drop_succ_cons, List.drop_zero]
    repeat (refine wpSteady_step (fun K hK => ?_); go_simp; first | (refine steady_of ?_ (fun W hW => ?_) (hK _ ?_); rotate_left; (obtain ⟨ca, cb⟩ := hW; go_simp; first | done | rfl); clear hK K) | (refine hK _ ?_; clear hK K))
    refine wpSteady_nil ?_
    refine reg_end (by kernel_rfl) (unhide HQ w2 (unhide K2)) ?_
    have B2 := hide ((unhide HB).step (unhide K2))
    have sz2 := (unhide K2).size
    have lp2 := (unhide I2).1
    obtain ⟨-, c9, c10, c11, c12, c13, -, -, -, -, -, -, -⟩ := (unhide B2).at
    have hk0 : (k == 0) = false := beq_eq_false_iff_ne.2 (by omega)
    have hpc' := hpc
    unfold wd at hpc'
    have hwr2 := wrap_ok (x := m.pc + k) (by omega) (by omega)
    have tl2 := tm_lw (x := m.pc + k) (by omega)
    have hl2 := lw_b (m.pc + k)
    generalize hnx : lw (m.pc + k) = nx at *
    have HNX := hide hnx
    clear hnx
    have S3 := hide (SX.mk (w := w) ((unhide B2).new (.cells #[.bool m.c, .bool m.z, .bool m.n, .bool m.v] 25)) ((unhide I2).step (below_a _ _)) (Box.new w2 #[.bool m.c, .bool m.z, .bool m.n, .bool m.v] 25) lpi sz2 hp hqw)
    clear HB HQ HI ON
    go_wp2_with fail
    generalize w2.alloc (.cells #[.bool m.c, .bool m.z, .bool m.n, .bool m.v] 25) = w3 at *
    generalize w2.heap.size = pf at *
    clear B2 I2 K2 c9 c10 c11 c12 c13
    obtain ⟨y0, y1, y2, y3⟩ := (unhide S3).I.at4
    obtain ⟨z0, z1, z2, z3⟩ := (unhide S3).F.at4
    have cd := (unhide S3).bx.reg hd hd'
    have cs := (unhide S3).bx.reg hs hs'
    have fz := (unhide S3).bx.flat
    have hd8 : d < 8 := by omega
    have hs8 : s < 8 := by omega
    have hp3 := (unhide S3).bx.pw
    go_quiet (fail)
    have S4 := hide ((unhide S3).step (show Below w3.heap.size w3 (w3.drewN nq) from ⟨rfl, rfl, rfl, Nat.le_refl _, fun _ _ => rfl⟩))
    clear S3 y0 y1 y2 y3 z0 z1 z2 z3 cd cs fz hp3
    generalize w3.drewN nq = w4 at *
    obtain ⟨y0, y1, y2, y3⟩ := (unhide S4).I.at4
    obtain ⟨z0, z1, z2, z3⟩ := (unhide S4).F.at4
    have cd := (unhide S4).bx.reg hd hd'
    have cs := (unhide S4).bx.reg hs hs'
    have fz := (unhide S4).bx.flat
    have hp4 := (unhide S4).bx.pw
    have hj : m.z = false := unhide HJ
    rw [hj] at z1
    have c13 := (unhide S4).bx.at.2.2.2.2.2.1
    have B6 := hide ((unhide S4).bx.put (m' := { m with pc := nx }) 13 (.int .i64 nx) (by decide) rfl rfl rfl { (unhide S4).bx.fine with pc := hl2 })
    go_wp2_with fail
    go_ret
    unfold SRet
    refine ⟨_, _, rfl, ?_, by first | exact unhide B6 | (rw [unhide HNX]; exact unhide B6)⟩
    omega
set_option maxRecDepth 100000 in
set_option maxHeartbeats 4000000 in
theorem sx21y {w0 w : World} {p q n : Nat} {vc vm vi vo : Value} {m : Ma} {ms xs bs : List Int} (h : BX w0 w p q n vc vm vi vo m ms xs bs) (d s mm k : Int) (R : oneA xs m.pc = (⟨21, d, s, mm⟩, k)) (hd : 0 ≤ d) (hd' : d ≤ 7) (hs : 0 ≤ s) (hs' : s ≤ 7) (hm : wd mm) (hk1 : 1 ≤ k) (hk2 : k ≤ 2) (hn : n < 2000000) (hj : m.z = false) :
    Calls Try.prog 31 #[.pointer (some ⟨p, 0, none⟩)] w fun e w' => SRet w0 p q n vc vm vi ms xs bs 0 ({ m with pc := mm }) e w' := by
  have HJ := hide hj
  clear hj
  have ON := hide (fun W hW => rOne_any xs vc m.pc W hW)
  rw [R] at ON
  unfold agg at ON
  have HI := hide (fun (W : World) (k : Below w.heap.size w W) => h.code.step (h.low.trans (k.mono h.low.size)))
  have HB := hide h
  have HQ := hide (fun (W : World) (k : Below w.heap.size w W) => (show W.cell? ⟨p, 0, none⟩ = some vc ∧ W.cell? ⟨p, 13, none⟩ = some (.int .i64 m.pc) from ⟨cell_keep k h.pw h.at.1, cell_keep k h.pw h.at.2.2.2.2.2.1⟩))
  have hp := h.pw
  have hqw := h.qw
  have hpc := h.fine.pc
  have hrd := h.fine.reg hd hd'
  have hrs := h.fine.reg hs hs'
  have hc0 := h.at.1
  have hc13 := h.at.2.2.2.2.2.1
  clear h R
  go_enter Try.func31, Try.ntmps31
  go_upto_region 1 with fail
  refine reg_start (fun W => W.cell? ⟨p, 0, none⟩ = some vc ∧ W.cell? ⟨p, 13, none⟩ = some (.int .i64 m.pc)) (by kernel_rfl) ?_
  have T := hide (OneS.start w)
  clear hc0 hc13
  generalize w.drew = W at *
  refine reg_seg 0 9 7 (by kernel_rfl) (by decide) (by kernel_rfl) (by kernel_rfl) (fun _ _ _ _ _ h => h) ?_
  simp only [List.take_succ_cons, List.take_zero, List.drop_succ_cons, List.drop_zero]
  repeat (refine wpSteady_step (fun K hK => ?_); go_simp; first | (refine steady_of ?_ (fun W hW => ?_) (hK _ ?_); rotate_left; (obtain ⟨ca, cb⟩ := hW; go_simp; first | done | rfl); clear hK K) | (refine hK _ ?_; clear hK K))
  refine wpSteady_nil ?_
  apply reg_meet1 (R := fun pi W => OneS w true pi W)
  · intro hm
    refine reg_two 9 13 6 (by kernel_rfl) (by kernel_rfl) (unhide HQ W (unhide T).kw) ?_ ?_
    · skip
      simp only [List.take_succ_cons, List.take_zero, List.drop_succ_cons, List.drop_zero]
      go_wp2_with fail
      refine (unhide ON W (unhide HI W (unhide T).kw)).mono ?_
      rintro e wn ⟨rfl, kn⟩
      have T' := hide ((unhide T).call kn)
      have T := T'
      clear kn T'
      generalize wn = W at *
      go_wp2_with fail
      first | refine next_nil ?_ | refine next_go ?_
      refine reg_seg 10 3 3 (by kernel_rfl) (by decide) (by kernel_rfl) (by kernel_rfl) (fun _ _ _ _ _ h => h) ?_
      simp only [List.take_succ_cons, List.take_zero, List.drop_succ_cons, List.drop_zero]
      repeat (refine wpSteady_step (fun K hK => ?_); go_simp; first | (refine steady_of ?_ (fun W hW => ?_) (hK _ ?_); rotate_left; (obtain ⟨ca, cb⟩ := hW; go_simp; first | done | rfl); clear hK K) | (refine hK _ ?_; clear hK K))
      refine wpSteady_nil ?_
      refine reg_one 13 2 (by kernel_rfl) (by kernel_rfl) (unhide HQ W (unhide T).kw) ?_
      simp only [List.take_succ_cons, List.take_zero, List.drop_succ_cons, List.drop_zero]
      go_wp2_with fail
      have T' := hide ((unhide T).al (T := 49))
      have T := T'
      clear T'
      generalize W.alloc (.cells #[.int .i64 0, .int .i64 0, .int .i64 0, .int .i64 0] 49) = W' at *
      generalize W.heap.size = pi at *
      generalize W' = W at *
      first | refine next_nil ?_ | refine next_go ?_
      refine reg_said #[true, true, true, true, true, true, true, true, true, true, true, true, true, true, false, false] (by kernel_rfl) ?_
      exact hm pi W (unhide T)
    · skip
      simp only [List.take_succ_cons, List.take_zero, List.drop_succ_cons, List.drop_zero]
      go_wp2_with fail
      have T' := hide ((unhide T).al (T := 49))
      have T := T'
      clear T'
      generalize W.alloc (.cells #[.int .i64 0, .int .i64 0, .int .i64 0, .int .i64 0] 49) = W' at *
      generalize W.heap.size = pi at *
      generalize W' = W at *
      first | refine next_nil ?_ | refine next_go ?_
      refine reg_one 9 5 (by kernel_rfl) (by kernel_rfl) (unhide HQ W (unhide T).kw) ?_
      simp only [List.take_succ_cons, List.take_zero, List.drop_succ_cons, List.drop_zero]
      go_wp2_with fail
      refine (unhide ON W (unhide HI W (unhide T).kw)).mono ?_
      rintro e wn ⟨rfl, kn⟩
      have T' := hide ((unhide T).call kn)
      have T := T'
      clear kn T'
      generalize wn = W at *
      go_wp2_with fail
      first | refine next_nil ?_ | refine next_go ?_
      refine reg_seg 10 3 2 (by kernel_rfl) (by decide) (by kernel_rfl) (by kernel_rfl) (fun _ _ _ _ _ h => h) ?_
      simp only [List.take_succ_cons, List.take_zero, List.drop_succ_cons, List.drop_zero]
      repeat (refine wpSteady_step (fun K hK => ?_); go_simp; first | (refine steady_of ?_ (fun W hW => ?_) (hK _ ?_); rotate_left; (obtain ⟨ca, cb⟩ := hW; go_simp; first | done | rfl); clear hK K) | (refine hK _ ?_; clear hK K))
      refine wpSteady_nil ?_
      refine reg_said #[true, true, true, true, true, true, true, true, true, true, true, true, true, true, false, false] (by kernel_rfl) ?_
      exact hm pi W (unhide T)
  · intro pi W T0
    have T := hide T0
    clear T0
    obtain ⟨G5, lpi⟩ := (unhide T).bx rfl
    have H5 := hide G5
    obtain ⟨x0, x1, x2, x3⟩ := G5.at4
    have x4 := G5.2.2
    clear G5
    refine reg_one 14 1 (by kernel_rfl) (by kernel_rfl) (unhide HQ W (unhide T).kw) ?_
    simp only [List.take_succ_cons, List.take_zero, List.drop_succ_cons, List.drop_zero]
    go_wp2_with fail
    first | refine next_nil ?_ | refine next_go ?_
    have K2 := hide (below_4 (unhide T).kw lpi (.int .i64 21) (.int .i64 d) (.int .i64 s) (.int .i64 mm))
    have I2 := hide ((unhide H5).four (.int .i64 21) (.int .i64 d) (.int .i64 s) (.int .i64 mm))
    clear x0 x1 x2 x3 x4 H5 T
    generalize (((W.setCell ⟨pi, 0, none⟩ (.int .i64 21)).setCell ⟨pi, 1, none⟩ (.int .i64 d)).setCell ⟨pi, 2, none⟩ (.int .i64 s)).setCell ⟨pi, 3, none⟩ (.int .i64 mm) = w2 at *
    refine reg_seg 15 1 0 (by kernel_rfl) (by decide) (by kernel_rfl) (by kernel_rfl) (fun _ _ _ _ _ h => h) ?_
    simp only [List.take_succ_cons, List.take_zero, List.drop_succ_cons, List.drop_zero]
    repeat (refine wpSteady_step (fun K hK => ?_); go_simp; first | (refine steady_of ?_ (fun W hW => ?_) (hK _ ?_); rotate_left; (obtain ⟨ca, cb⟩ := hW; go_simp; first | done | rfl); clear hK K) | (refine hK _ ?_; clear hK K))
    refine wpSteady_nil ?_
    refine reg_end (by kernel_rfl) (unhide HQ w2 (unhide K2)) ?_
    have B2 := hide ((unhide HB).step (unhide K2))
    have sz2 := (unhide K2).size
    have lp2 := (unhide I2).1
    obtain ⟨-, c9, c10, c11, c12, c13, -, -, -, -, -, -, -⟩ := (unhide B2).at
    have hk0 : (k == 0) = false := beq_eq_false_iff_ne.2 (by omega)
    have hpc' := hpc
    unfold wd at hpc'
    have hwr2 := wrap_ok (x := m.pc + k) (by omega) (by omega)
    have tl2 := tm_lw (x := m.pc + k) (by omega)
    have hl2 := lw_b (m.pc + k)
    generalize hnx : lw (m.pc + k) = nx at *
    have HNX := hide hnx
    clear hnx
    have S3 := hide (SX.mk (w := w) ((unhide B2).new (.cells #[.bool m.c, .bool m.z, .bool m.n, .bool m.v] 25)) ((unhide I2).step (below_a _ _)) (Box.new w2 #[.bool m.c, .bool m.z, .bool m.n, .bool m.v] 25) lpi sz2 hp hqw)
    clear HB HQ HI ON
    go_wp2_with fail
    generalize w2.alloc (.cells #[.bool m.c, .bool m.z, .bool m.n, .bool m.v] 25) = w3 at *
    generalize w2.heap.size = pf at *
    clear B2 I2 K2 c9 c10 c11 c12 c13
    obtain ⟨y0, y1, y2, y3⟩ := (unhide S3).I.at4
    obtain ⟨z0, z1, z2, z3⟩ := (unhide S3).F.at4
    have cd := (unhide S3).bx.reg hd hd'
    have cs := (unhide S3).bx.reg hs hs'
    have fz := (unhide S3).bx.flat
    have hd8 : d < 8 := by omega
    have hs8 : s < 8 := by omega
    have hp3 := (unhide S3).bx.pw
    go_quiet (fail)
    have S4 := hide ((unhide S3).step (show Below w3.heap.size w3 (w3.drewN nq) from ⟨rfl, rfl, rfl, Nat.le_refl _, fun _ _ => rfl⟩))
    clear S3 y0 y1 y2 y3 z0 z1 z2 z3 cd cs fz hp3
    generalize w3.drewN nq = w4 at *
    obtain ⟨y0, y1, y2, y3⟩ := (unhide S4).I.at4
    obtain ⟨z0, z1, z2, z3⟩ := (unhide S4).F.at4
    have cd := (unhide S4).bx.reg hd hd'
    have cs := (unhide S4).bx.reg hs hs'
    have fz := (unhide S4).bx.flat
    have hp4 := (unhide S4).bx.pw
    have hj : m.z = false := unhide HJ
    rw [hj] at z1
    have c13 := (unhide S4).bx.at.2.2.2.2.2.1
    have B6 := hide ((unhide S4).bx.put (m' := { m with pc := mm }) 13 (.int .i64 mm) (by decide) rfl rfl rfl { (unhide S4).bx.fine with pc := hm })
    go_wp2_with fail
    go_ret
    unfold SRet
    refine ⟨_, _, rfl, ?_, by first | exact unhide B6 | (rw [unhide HNX]; exact unhide B6)⟩
    omega
set_option maxRecDepth 100000 in
set_option maxHeartbeats 4000000 in
theorem sx21n {w0 w : World} {p q n : Nat} {vc vm vi vo : Value} {m : Ma} {ms xs bs : List Int} (h : BX w0 w p q n vc vm vi vo m ms xs bs) (d s mm k : Int) (R : oneA xs m.pc = (⟨21, d, s, mm⟩, k)) (hd : 0 ≤ d) (hd' : d ≤ 7) (hs : 0 ≤ s) (hs' : s ≤ 7) (hm : wd mm) (hk1 : 1 ≤ k) (hk2 : k ≤ 2) (hn : n < 2000000) (hj : m.z = true) :
    Calls Try.prog 31 #[.pointer (some ⟨p, 0, none⟩)] w fun e w' => SRet w0 p q n vc vm vi ms xs bs 0 ({ m with pc := lw (m.pc + k) }) e w' := by
  have HJ := hide hj
  clear hj
  have ON := hide (fun W hW => rOne_any xs vc m.pc W hW)
  rw [R] at ON
  unfold agg at ON
  have HI := hide (fun (W : World) (k : Below w.heap.size w W) => h.code.step (h.low.trans (k.mono h.low.size)))
  have HB := hide h
  have HQ := hide (fun (W : World) (k : Below w.heap.size w W) => (show W.cell? ⟨p, 0, none⟩ = some vc ∧ W.cell? ⟨p, 13, none⟩ = some (.int .i64 m.pc) from ⟨cell_keep k h.pw h.at.1, cell_keep k h.pw h.at.2.2.2.2.2.1⟩))
  have hp := h.pw
  have hqw := h.qw
  have hpc := h.fine.pc
  have hrd := h.fine.reg hd hd'
  have hrs := h.fine.reg hs hs'
  have hc0 := h.at.1
  have hc13 := h.at.2.2.2.2.2.1
  clear h R
  go_enter Try.func31, Try.ntmps31
  go_upto_region 1 with fail
  refine reg_start (fun W => W.cell? ⟨p, 0, none⟩ = some vc ∧ W.cell? ⟨p, 13, none⟩ = some (.int .i64 m.pc)) (by kernel_rfl) ?_
  have T := hide (OneS.start w)
  clear hc0 hc13
  generalize w.drew = W at *
  refine reg_seg 0 9 7 (by kernel_rfl) (by decide) (by kernel_rfl) (by kernel_rfl) (fun _ _ _ _ _ h => h) ?_
  simp only [List.take_succ_cons, List.take_zero, List.drop_succ_cons, List.drop_zero]
  repeat (refine wpSteady_step (fun K hK => ?_); go_simp; first | (refine steady_of ?_ (fun W hW => ?_) (hK _ ?_); rotate_left; (obtain ⟨ca, cb⟩ := hW; go_simp; first | done | rfl); clear hK K) | (refine hK _ ?_; clear hK K))
  refine wpSteady_nil ?_
  apply reg_meet1 (R := fun pi W => OneS w true pi W)
  · intro hm
    refine reg_two 9 13 6 (by kernel_rfl) (by kernel_rfl) (unhide HQ W (unhide T).kw) ?_ ?_
    · skip
      simp only [List.take_succ_cons, List.take_zero, List.drop_succ_cons, List.drop_zero]
      go_wp2_with fail
      refine (unhide ON W (unhide HI W (unhide T).kw)).mono ?_
      rintro e wn ⟨rfl, kn⟩
      have T' := hide ((unhide T).call kn)
      have T := T'
      clear kn T'
      generalize wn = W at *
      go_wp2_with fail
      first | refine next_nil ?_ | refine next_go ?_
      refine reg_seg 10 3 3 (by kernel_rfl) (by decide) (by kernel_rfl) (by kernel_rfl) (fun _ _ _ _ _ h => h) ?_
      simp only [List.take_succ_cons, List.take_zero, List.drop_succ_cons, List.drop_zero]
      repeat (refine wpSteady_step (fun K hK => ?_); go_simp; first | (refine steady_of ?_ (fun W hW => ?_) (hK _ ?_); rotate_left; (obtain ⟨ca, cb⟩ := hW; go_simp; first | done | rfl); clear hK K) | (refine hK _ ?_; clear hK K))
      refine wpSteady_nil ?_
      refine reg_one 13 2 (by kernel_rfl) (by kernel_rfl) (unhide HQ W (unhide T).kw) ?_
      simp only [List.take_succ_cons, List.take_zero, List.drop_succ_cons, List.drop_zero]
      go_wp2_with fail
      have T' := hide ((unhide T).al (T := 49))
      have T := T'
      clear T'
      generalize W.alloc (.cells #[.int .i64 0, .int .i64 0, .int .i64 0, .int .i64 0] 49) = W' at *
      generalize W.heap.size = pi at *
      generalize W' = W at *
      first | refine next_nil ?_ | refine next_go ?_
      refine reg_said #[true, true, true, true, true, true, true, true, true, true, true, true, true, true, false, false] (by kernel_rfl) ?_
      exact hm pi W (unhide T)
    · skip
      simp only [List.take_succ_cons, List.take_zero, List.drop_succ_cons, List.drop_zero]
      go_wp2_with fail
      have T' := hide ((unhide T).al (T := 49))
      have T := T'
      clear T'
      generalize W.alloc (.cells #[.int .i64 0, .int .i64 0, .int .i64 0, .int .i64 0] 49) = W' at *
      generalize W.heap.size = pi at *
      generalize W' = W at *
      first | refine next_nil ?_ | refine next_go ?_
      refine reg_one 9 5 (by kernel_rfl) (by kernel_rfl) (unhide HQ W (unhide T).kw) ?_
      simp only [List.take_succ_cons, List.take_zero, List.drop_succ_cons, List.drop_zero]
      go_wp2_with fail
      refine (unhide ON W (unhide HI W (unhide T).kw)).mono ?_
      rintro e wn ⟨rfl, kn⟩
      have T' := hide ((unhide T).call kn)
      have T := T'
      clear kn T'
      generalize wn = W at *
      go_wp2_with fail
      first | refine next_nil ?_ | refine next_go ?_
      refine reg_seg 10 3 2 (by kernel_rfl) (by decide) (by kernel_rfl) (by kernel_rfl) (fun _ _ _ _ _ h => h) ?_
      simp only [List.take_succ_cons, List.take_zero, List.drop_succ_cons, List.drop_zero]
      repeat (refine wpSteady_step (fun K hK => ?_); go_simp; first | (refine steady_of ?_ (fun W hW => ?_) (hK _ ?_); rotate_left; (obtain ⟨ca, cb⟩ := hW; go_simp; first | done | rfl); clear hK K) | (refine hK _ ?_; clear hK K))
      refine wpSteady_nil ?_
      refine reg_said #[true, true, true, true, true, true, true, true, true, true, true, true, true, true, false, false] (by kernel_rfl) ?_
      exact hm pi W (unhide T)
  · intro pi W T0
    have T := hide T0
    clear T0
    obtain ⟨G5, lpi⟩ := (unhide T).bx rfl
    have H5 := hide G5
    obtain ⟨x0, x1, x2, x3⟩ := G5.at4
    have x4 := G5.2.2
    clear G5
    refine reg_one 14 1 (by kernel_rfl) (by kernel_rfl) (unhide HQ W (unhide T).kw) ?_
    simp only [List.take_succ_cons, List.take_zero, List.drop_succ_cons, List.drop_zero]
    go_wp2_with fail
    first | refine next_nil ?_ | refine next_go ?_
    have K2 := hide (below_4 (unhide T).kw lpi (.int .i64 21) (.int .i64 d) (.int .i64 s) (.int .i64 mm))
    have I2 := hide ((unhide H5).four (.int .i64 21) (.int .i64 d) (.int .i64 s) (.int .i64 mm))
    clear x0 x1 x2 x3 x4 H5 T
    generalize (((W.setCell ⟨pi, 0, none⟩ (.int .i64 21)).setCell ⟨pi, 1, none⟩ (.int .i64 d)).setCell ⟨pi, 2, none⟩ (.int .i64 s)).setCell ⟨pi, 3, none⟩ (.int .i64 mm) = w2 at *
    refine reg_seg 15 1 0 (by kernel_rfl) (by decide) (by kernel_rfl) (by kernel_rfl) (fun _ _ _ _ _ h => h) ?_
    simp only [List.take_succ_cons, List.take_zero, List.drop_succ_cons, List.drop_zero]
    repeat (refine wpSteady_step (fun K hK => ?_); go_simp; first | (refine steady_of ?_ (fun W hW => ?_) (hK _ ?_); rotate_left; (obtain ⟨ca, cb⟩ := hW; go_simp; first | done | rfl); clear hK K) | (refine hK _ ?_; clear hK K))
    refine wpSteady_nil ?_
    refine reg_end (by kernel_rfl) (unhide HQ w2 (unhide K2)) ?_
    have B2 := hide ((unhide HB).step (unhide K2))
    have sz2 := (unhide K2).size
    have lp2 := (unhide I2).1
    obtain ⟨-, c9, c10, c11, c12, c13, -, -, -, -, -, -, -⟩ := (unhide B2).at
    have hk0 : (k == 0) = false := beq_eq_false_iff_ne.2 (by omega)
    have hpc' := hpc
    unfold wd at hpc'
    have hwr2 := wrap_ok (x := m.pc + k) (by omega) (by omega)
    have tl2 := tm_lw (x := m.pc + k) (by omega)
    have hl2 := lw_b (m.pc + k)
    generalize hnx : lw (m.pc + k) = nx at *
    have HNX := hide hnx
    clear hnx
    have S3 := hide (SX.mk (w := w) ((unhide B2).new (.cells #[.bool m.c, .bool m.z, .bool m.n, .bool m.v] 25)) ((unhide I2).step (below_a _ _)) (Box.new w2 #[.bool m.c, .bool m.z, .bool m.n, .bool m.v] 25) lpi sz2 hp hqw)
    clear HB HQ HI ON
    go_wp2_with fail
    generalize w2.alloc (.cells #[.bool m.c, .bool m.z, .bool m.n, .bool m.v] 25) = w3 at *
    generalize w2.heap.size = pf at *
    clear B2 I2 K2 c9 c10 c11 c12 c13
    obtain ⟨y0, y1, y2, y3⟩ := (unhide S3).I.at4
    obtain ⟨z0, z1, z2, z3⟩ := (unhide S3).F.at4
    have cd := (unhide S3).bx.reg hd hd'
    have cs := (unhide S3).bx.reg hs hs'
    have fz := (unhide S3).bx.flat
    have hd8 : d < 8 := by omega
    have hs8 : s < 8 := by omega
    have hp3 := (unhide S3).bx.pw
    go_quiet (fail)
    have S4 := hide ((unhide S3).step (show Below w3.heap.size w3 (w3.drewN nq) from ⟨rfl, rfl, rfl, Nat.le_refl _, fun _ _ => rfl⟩))
    clear S3 y0 y1 y2 y3 z0 z1 z2 z3 cd cs fz hp3
    generalize w3.drewN nq = w4 at *
    obtain ⟨y0, y1, y2, y3⟩ := (unhide S4).I.at4
    obtain ⟨z0, z1, z2, z3⟩ := (unhide S4).F.at4
    have cd := (unhide S4).bx.reg hd hd'
    have cs := (unhide S4).bx.reg hs hs'
    have fz := (unhide S4).bx.flat
    have hp4 := (unhide S4).bx.pw
    have hj : m.z = true := unhide HJ
    rw [hj] at z1
    have c13 := (unhide S4).bx.at.2.2.2.2.2.1
    have B6 := hide ((unhide S4).bx.put (m' := { m with pc := nx }) 13 (.int .i64 nx) (by decide) rfl rfl rfl { (unhide S4).bx.fine with pc := hl2 })
    go_wp2_with fail
    go_ret
    unfold SRet
    refine ⟨_, _, rfl, ?_, by first | exact unhide B6 | (rw [unhide HNX]; exact unhide B6)⟩
    omega
set_option maxRecDepth 100000 in
set_option maxHeartbeats 4000000 in
theorem sx22y {w0 w : World} {p q n : Nat} {vc vm vi vo : Value} {m : Ma} {ms xs bs : List Int} (h : BX w0 w p q n vc vm vi vo m ms xs bs) (d s mm k : Int) (R : oneA xs m.pc = (⟨22, d, s, mm⟩, k)) (hd : 0 ≤ d) (hd' : d ≤ 7) (hs : 0 ≤ s) (hs' : s ≤ 7) (hm : wd mm) (hk1 : 1 ≤ k) (hk2 : k ≤ 2) (hn : n < 2000000) (hj : m.c = true) :
    Calls Try.prog 31 #[.pointer (some ⟨p, 0, none⟩)] w fun e w' => SRet w0 p q n vc vm vi ms xs bs 0 ({ m with pc := mm }) e w' := by
  have HJ := hide hj
  clear hj
  have ON := hide (fun W hW => rOne_any xs vc m.pc W hW)
  rw [R] at ON
  unfold agg at ON
  have HI := hide (fun (W : World) (k : Below w.heap.size w W) => h.code.step (h.low.trans (k.mono h.low.size)))
  have HB := hide h
  have HQ := hide (fun (W : World) (k : Below w.heap.size w W) => (show W.cell? ⟨p, 0, none⟩ = some vc ∧ W.cell? ⟨p, 13, none⟩ = some (.int .i64 m.pc) from ⟨cell_keep k h.pw h.at.1, cell_keep k h.pw h.at.2.2.2.2.2.1⟩))
  have hp := h.pw
  have hqw := h.qw
  have hpc := h.fine.pc
  have hrd := h.fine.reg hd hd'
  have hrs := h.fine.reg hs hs'
  have hc0 := h.at.1
  have hc13 := h.at.2.2.2.2.2.1
  clear h R
  go_enter Try.func31, Try.ntmps31
  go_upto_region 1 with fail
  refine reg_start (fun W => W.cell? ⟨p, 0, none⟩ = some vc ∧ W.cell? ⟨p, 13, none⟩ = some (.int .i64 m.pc)) (by kernel_rfl) ?_
  have T := hide (OneS.start w)
  clear hc0 hc13
  generalize w.drew = W at *
  refine reg_seg 0 9 7 (by kernel_rfl) (by decide) (by kernel_rfl) (by kernel_rfl) (fun _ _ _ _ _ h => h) ?_
  simp only [List.take_succ_cons, List.take_zero, List.drop_succ_cons, List.drop_zero]
  repeat (refine wpSteady_step (fun K hK => ?_); go_simp; first | (refine steady_of ?_ (fun W hW => ?_) (hK _ ?_); rotate_left; (obtain ⟨ca, cb⟩ := hW; go_simp; first | done | rfl); clear hK K) | (refine hK _ ?_; clear hK K))
  refine wpSteady_nil ?_
  apply reg_meet1 (R := fun pi W => OneS w true pi W)
  · intro hm
    refine reg_two 9 13 6 (by kernel_rfl) (by kernel_rfl) (unhide HQ W (unhide T).kw) ?_ ?_
    · skip
      simp only [List.take_succ_cons, List.take_zero, List.drop_succ_cons, List.drop_zero]
      go_wp2_with fail
      refine (unhide ON W (unhide HI W (unhide T).kw)).mono ?_
      rintro e wn ⟨rfl, kn⟩
      have T' := hide ((unhide T).call kn)
      have T := T'
      clear kn T'
      generalize wn = W at *
      go_wp2_with fail
      first | refine next_nil ?_ | refine next_go ?_
      refine reg_seg 10 3 3 (by kernel_rfl) (by decide) (by kernel_rfl) (by kernel_rfl) (fun _ _ _ _ _ h => h) ?_
      simp only [List.take_succ_cons, List.take_zero, List.drop_succ_cons, List.drop_zero]
      repeat (refine wpSteady_step (fun K hK => ?_); go_simp; first | (refine steady_of ?_ (fun W hW => ?_) (hK _ ?_); rotate_left; (obtain ⟨ca, cb⟩ := hW; go_simp; first | done | rfl); clear hK K) | (refine hK _ ?_; clear hK K))
      refine wpSteady_nil ?_
      refine reg_one 13 2 (by kernel_rfl) (by kernel_rfl) (unhide HQ W (unhide T).kw) ?_
      simp only [List.take_succ_cons, List.take_zero, List.drop_succ_cons, List.drop_zero]
      go_wp2_with fail
      have T' := hide ((unhide T).al (T := 49))
      have T := T'
      clear T'
      generalize W.alloc (.cells #[.int .i64 0, .int .i64 0, .int .i64 0, .int .i64 0] 49) = W' at *
      generalize W.heap.size = pi at *
      generalize W' = W at *
      first | refine next_nil ?_ | refine next_go ?_
      refine reg_said #[true, true, true, true, true, true, true, true, true, true, true, true, true, true, false, false] (by kernel_rfl) ?_
      exact hm pi W (unhide T)
    · skip
      simp only [List.take_succ_cons, List.take_zero, List.drop_succ_cons, List.drop_zero]
      go_wp2_with fail
      have T' := hide ((unhide T).al (T := 49))
      have T := T'
      clear T'
      generalize W.alloc (.cells #[.int .i64 0, .int .i64 0, .int .i64 0, .int .i64 0] 49) = W' at *
      generalize W.heap.size = pi at *
      generalize W' = W at *
      first | refine next_nil ?_ | refine next_go ?_
      refine reg_one 9 5 (by kernel_rfl) (by kernel_rfl) (unhide HQ W (unhide T).kw) ?_
      simp only [List.take_succ_cons, List.take_zero, List.drop_succ_cons, List.drop_zero]
      go_wp2_with fail
      refine (unhide ON W (unhide HI W (unhide T).kw)).mono ?_
      rintro e wn ⟨rfl, kn⟩
      have T' := hide ((unhide T).call kn)
      have T := T'
      clear kn T'
      generalize wn = W at *
      go_wp2_with fail
      first | refine next_nil ?_ | refine next_go ?_
      refine reg_seg 10 3 2 (by kernel_rfl) (by decide) (by kernel_rfl) (by kernel_rfl) (fun _ _ _ _ _ h => h) ?_
      simp only [List.take_succ_cons, List.take_zero, List.drop_succ_cons, List.drop_zero]
      repeat (refine wpSteady_step (fun K hK => ?_); go_simp; first | (refine steady_of ?_ (fun W hW => ?_) (hK _ ?_); rotate_left; (obtain ⟨ca, cb⟩ := hW; go_simp; first | done | rfl); clear hK K) | (refine hK _ ?_; clear hK K))
      refine wpSteady_nil ?_
      refine reg_said #[true, true, true, true, true, true, true, true, true, true, true, true, true, true, false, false] (by kernel_rfl) ?_
      exact hm pi W (unhide T)
  · intro pi W T0
    have T := hide T0
    clear T0
    obtain ⟨G5, lpi⟩ := (unhide T).bx rfl
    have H5 := hide G5
    obtain ⟨x0, x1, x2, x3⟩ := G5.at4
    have x4 := G5.2.2
    clear G5
    refine reg_one 14 1 (by kernel_rfl) (by kernel_rfl) (unhide HQ W (unhide T).kw) ?_
    simp only [List.take_succ_cons, List.take_zero, List.drop_succ_cons, List.drop_zero]
    go_wp2_with fail
    first | refine next_nil ?_ | refine next_go ?_
    have K2 := hide (below_4 (unhide T).kw lpi (.int .i64 22) (.int .i64 d) (.int .i64 s) (.int .i64 mm))
    have I2 := hide ((unhide H5).four (.int .i64 22) (.int .i64 d) (.int .i64 s) (.int .i64 mm))
    clear x0 x1 x2 x3 x4 H5 T
    generalize (((W.setCell ⟨pi, 0, none⟩ (.int .i64 22)).setCell ⟨pi, 1, none⟩ (.int .i64 d)).setCell ⟨pi, 2, none⟩ (.int .i64 s)).setCell ⟨pi, 3, none⟩ (.int .i64 mm) = w2 at *
    refine reg_seg 15 1 0 (by kernel_rfl) (by decide) (by kernel_rfl) (by kernel_rfl) (fun _ _ _ _ _ h => h) ?_
    simp only [List.take_succ_cons, List.take_zero, List.drop_succ_cons, List.drop_zero]
    repeat (refine wpSteady_step (fun K hK => ?_); go_simp; first | (refine steady_of ?_ (fun W hW => ?_) (hK _ ?_); rotate_left; (obtain ⟨ca, cb⟩ := hW; go_simp; first | done | rfl); clear hK K) | (refine hK _ ?_; clear hK K))
    refine wpSteady_nil ?_
    refine reg_end (by kernel_rfl) (unhide HQ w2 (unhide K2)) ?_
    have B2 := hide ((unhide HB).step (unhide K2))
    have sz2 := (unhide K2).size
    have lp2 := (unhide I2).1
    obtain ⟨-, c9, c10, c11, c12, c13, -, -, -, -, -, -, -⟩ := (unhide B2).at
    have hk0 : (k == 0) = false := beq_eq_false_iff_ne.2 (by omega)
    have hpc' := hpc
    unfold wd at hpc'
    have hwr2 := wrap_ok (x := m.pc + k) (by omega) (by omega)
    have tl2 := tm_lw (x := m.pc + k) (by omega)
    have hl2 := lw_b (m.pc + k)
    generalize hnx : lw (m.pc + k) = nx at *
    have HNX := hide hnx
    clear hnx
    have S3 := hide (SX.mk (w := w) ((unhide B2).new (.cells #[.bool m.c, .bool m.z, .bool m.n, .bool m.v] 25)) ((unhide I2).step (below_a _ _)) (Box.new w2 #[.bool m.c, .bool m.z, .bool m.n, .bool m.v] 25) lpi sz2 hp hqw)
    clear HB HQ HI ON
    go_wp2_with fail
    generalize w2.alloc (.cells #[.bool m.c, .bool m.z, .bool m.n, .bool m.v] 25) = w3 at *
    generalize w2.heap.size = pf at *
    clear B2 I2 K2 c9 c10 c11 c12 c13
    obtain ⟨y0, y1, y2, y3⟩ := (unhide S3).I.at4
    obtain ⟨z0, z1, z2, z3⟩ := (unhide S3).F.at4
    have cd := (unhide S3).bx.reg hd hd'
    have cs := (unhide S3).bx.reg hs hs'
    have fz := (unhide S3).bx.flat
    have hd8 : d < 8 := by omega
    have hs8 : s < 8 := by omega
    have hp3 := (unhide S3).bx.pw
    go_quiet (fail)
    have S4 := hide ((unhide S3).step (show Below w3.heap.size w3 (w3.drewN nq) from ⟨rfl, rfl, rfl, Nat.le_refl _, fun _ _ => rfl⟩))
    clear S3 y0 y1 y2 y3 z0 z1 z2 z3 cd cs fz hp3
    generalize w3.drewN nq = w4 at *
    obtain ⟨y0, y1, y2, y3⟩ := (unhide S4).I.at4
    obtain ⟨z0, z1, z2, z3⟩ := (unhide S4).F.at4
    have cd := (unhide S4).bx.reg hd hd'
    have cs := (unhide S4).bx.reg hs hs'
    have fz := (unhide S4).bx.flat
    have hp4 := (unhide S4).bx.pw
    have hj : m.c = true := unhide HJ
    rw [hj] at z0
    have c13 := (unhide S4).bx.at.2.2.2.2.2.1
    have B6 := hide ((unhide S4).bx.put (m' := { m with pc := mm }) 13 (.int .i64 mm) (by decide) rfl rfl rfl { (unhide S4).bx.fine with pc := hm })
    go_wp2_with fail
    go_ret
    unfold SRet
    refine ⟨_, _, rfl, ?_, by first | exact unhide B6 | (rw [unhide HNX]; exact unhide B6)⟩
    omega
set_option maxRecDepth 100000 in
set_option maxHeartbeats 4000000 in
theorem sx22n {w0 w : World} {p q n : Nat} {vc vm vi vo : Value} {m : Ma} {ms xs bs : List Int} (h : BX w0 w p q n vc vm vi vo m ms xs bs) (d s mm k : Int) (R : oneA xs m.pc = (⟨22, d, s, mm⟩, k)) (hd : 0 ≤ d) (hd' : d ≤ 7) (hs : 0 ≤ s) (hs' : s ≤ 7) (hm : wd mm) (hk1 : 1 ≤ k) (hk2 : k ≤ 2) (hn : n < 2000000) (hj : m.c = false) :
    Calls Try.prog 31 #[.pointer (some ⟨p, 0, none⟩)] w fun e w' => SRet w0 p q n vc vm vi ms xs bs 0 ({ m with pc := lw (m.pc + k) }) e w' := by
  have HJ := hide hj
  clear hj
  have ON := hide (fun W hW => rOne_any xs vc m.pc W hW)
  rw [R] at ON
  unfold agg at ON
  have HI := hide (fun (W : World) (k : Below w.heap.size w W) => h.code.step (h.low.trans (k.mono h.low.size)))
  have HB := hide h
  have HQ := hide (fun (W : World) (k : Below w.heap.size w W) => (show W.cell? ⟨p, 0, none⟩ = some vc ∧ W.cell? ⟨p, 13, none⟩ = some (.int .i64 m.pc) from ⟨cell_keep k h.pw h.at.1, cell_keep k h.pw h.at.2.2.2.2.2.1⟩))
  have hp := h.pw
  have hqw := h.qw
  have hpc := h.fine.pc
  have hrd := h.fine.reg hd hd'
  have hrs := h.fine.reg hs hs'
  have hc0 := h.at.1
  have hc13 := h.at.2.2.2.2.2.1
  clear h R
  go_enter Try.func31, Try.ntmps31
  go_upto_region 1 with fail
  refine reg_start (fun W => W.cell? ⟨p, 0, none⟩ = some vc ∧ W.cell? ⟨p, 13, none⟩ = some (.int .i64 m.pc)) (by kernel_rfl) ?_
  have T := hide (OneS.start w)
  clear hc0 hc13
  generalize w.drew = W at *
  refine reg_seg 0 9 7 (by kernel_rfl) (by decide) (by kernel_rfl) (by kernel_rfl) (fun _ _ _ _ _ h => h) ?_
  simp only [List.take_succ_cons, List.take_zero, List.drop_succ_cons, List.drop_zero]
  repeat (refine wpSteady_step (fun K hK => ?_); go_simp; first | (refine steady_of ?_ (fun W hW => ?_) (hK _ ?_); rotate_left; (obtain ⟨ca, cb⟩ := hW; go_simp; first | done | rfl); clear hK K) | (refine hK _ ?_; clear hK K))
  refine wpSteady_nil ?_
  apply reg_meet1 (R := fun pi W => OneS w true pi W)
  · intro hm
    refine reg_two 9 13 6 (by kernel_rfl) (by kernel_rfl) (unhide HQ W (unhide T).kw) ?_ ?_
    · skip
      simp only [List.take_succ_cons, List.take_zero, List.drop_succ_cons, List.drop_zero]
      go_wp2_with fail
      refine (unhide ON W (unhide HI W (unhide T).kw)).mono ?_
      rintro e wn ⟨rfl, kn⟩
      have T' := hide ((unhide T).call kn)
      have T := T'
      clear kn T'
      generalize wn = W at *
      go_wp2_with fail
      first | refine next_nil ?_ | refine next_go ?_
      refine reg_seg 10 3 3 (by kernel_rfl) (by decide) (by kernel_rfl) (by kernel_rfl) (fun _ _ _ _ _ h => h) ?_
      simp only [List.take_succ_cons, List.take_zero, List.drop_succ_cons, List.drop_zero]
      repeat (refine wpSteady_step (fun K hK => ?_); go_simp; first | (refine steady_of ?_ (fun W hW => ?_) (hK _ ?_); rotate_left; (obtain ⟨ca, cb⟩ := hW; go_simp; first | done | rfl); clear hK K) | (refine hK _ ?_; clear hK K))
      refine wpSteady_nil ?_
      refine reg_one 13 2 (by kernel_rfl) (by kernel_rfl) (unhide HQ W (unhide T).kw) ?_
      simp only [List.take_succ_cons, List.take_zero, List.drop_succ_cons, List.drop_zero]
      go_wp2_with fail
      have T' := hide ((unhide T).al (T := 49))
      have T := T'
      clear T'
      generalize W.alloc (.cells #[.int .i64 0, .int .i64 0, .int .i64 0, .int .i64 0] 49) = W' at *
      generalize W.heap.size = pi at *
      generalize W' = W at *
      first | refine next_nil ?_ | refine next_go ?_
      refine reg_said #[true, true, true, true, true, true, true, true, true, true, true, true, true, true, false, false] (by kernel_rfl) ?_
      exact hm pi W (unhide T)
    · skip
      simp only [List.take_succ_cons, List.take_zero, List.drop_succ_cons, List.drop_zero]
      go_wp2_with fail
      have T' := hide ((unhide T).al (T := 49))
      have T := T'
      clear T'
      generalize W.alloc (.cells #[.int .i64 0, .int .i64 0, .int .i64 0, .int .i64 0] 49) = W' at *
      generalize W.heap.size = pi at *
      generalize W' = W at *
      first | refine next_nil ?_ | refine next_go ?_
      refine reg_one 9 5 (by kernel_rfl) (by kernel_rfl) (unhide HQ W (unhide T).kw) ?_
      simp only [List.take_succ_cons, List.take_zero, List.drop_succ_cons, List.drop_zero]
      go_wp2_with fail
      refine (unhide ON W (unhide HI W (unhide T).kw)).mono ?_
      rintro e wn ⟨rfl, kn⟩
      have T' := hide ((unhide T).call kn)
      have T := T'
      clear kn T'
      generalize wn = W at *
      go_wp2_with fail
      first | refine next_nil ?_ | refine next_go ?_
      refine reg_seg 10 3 2 (by kernel_rfl) (by decide) (by kernel_rfl) (by kernel_rfl) (fun _ _ _ _ _ h => h) ?_
      simp only [List.take_succ_cons, List.take_zero, List.drop_succ_cons, List.drop_zero]
      repeat (refine wpSteady_step (fun K hK => ?_); go_simp; first | (refine steady_of ?_ (fun W hW => ?_) (hK _ ?_); rotate_left; (obtain ⟨ca, cb⟩ := hW; go_simp; first | done | rfl); clear hK K) | (refine hK _ ?_; clear hK K))
      refine wpSteady_nil ?_
      refine reg_said #[true, true, true, true, true, true, true, true, true, true, true, true, true, true, false, false] (by kernel_rfl) ?_
      exact hm pi W (unhide T)
  · intro pi W T0
    have T := hide T0
    clear T0
    obtain ⟨G5, lpi⟩ := (unhide T).bx rfl
    have H5 := hide G5
    obtain ⟨x0, x1, x2, x3⟩ := G5.at4
    have x4 := G5.2.2
    clear G5
    refine reg_one 14 1 (by kernel_rfl) (by kernel_rfl) (unhide HQ W (unhide T).kw) ?_
    simp only [List.take_succ_cons, List.take_zero, List.drop_succ_cons, List.drop_zero]
    go_wp2_with fail
    first | refine next_nil ?_ | refine next_go ?_
    have K2 := hide (below_4 (unhide T).kw lpi (.int .i64 22) (.int .i64 d) (.int .i64 s) (.int .i64 mm))
    have I2 := hide ((unhide H5).four (.int .i64 22) (.int .i64 d) (.int .i64 s) (.int .i64 mm))
    clear x0 x1 x2 x3 x4 H5 T
    generalize (((W.setCell ⟨pi, 0, none⟩ (.int .i64 22)).setCell ⟨pi, 1, none⟩ (.int .i64 d)).setCell ⟨pi, 2, none⟩ (.int .i64 s)).setCell ⟨pi, 3, none⟩ (.int .i64 mm) = w2 at *
    refine reg_seg 15 1 0 (by kernel_rfl) (by decide) (by kernel_rfl) (by kernel_rfl) (fun _ _ _ _ _ h => h) ?_
    simp only [List.take_succ_cons, List.take_zero, List.drop_succ_cons, List.drop_zero]
    repeat (refine wpSteady_step (fun K hK => ?_); go_simp; first | (refine steady_of ?_ (fun W hW => ?_) (hK _ ?_); rotate_left; (obtain ⟨ca, cb⟩ := hW; go_simp; first | done | rfl); clear hK K) | (refine hK _ ?_; clear hK K))
    refine wpSteady_nil ?_
    refine reg_end (by kernel_rfl) (unhide HQ w2 (unhide K2)) ?_
    have B2 := hide ((unhide HB).step (unhide K2))
    have sz2 := (unhide K2).size
    have lp2 := (unhide I2).1
    obtain ⟨-, c9, c10, c11, c12, c13, -, -, -, -, -, -, -⟩ := (unhide B2).at
    have hk0 : (k == 0) = false := beq_eq_false_iff_ne.2 (by omega)
    have hpc' := hpc
    unfold wd at hpc'
    have hwr2 := wrap_ok (x := m.pc + k) (by omega) (by omega)
    have tl2 := tm_lw (x := m.pc + k) (by omega)
    have hl2 := lw_b (m.pc + k)
    generalize hnx : lw (m.pc + k) = nx at *
    have HNX := hide hnx
    clear hnx
    have S3 := hide (SX.mk (w := w) ((unhide B2).new (.cells #[.bool m.c, .bool m.z, .bool m.n, .bool m.v] 25)) ((unhide I2).step (below_a _ _)) (Box.new w2 #[.bool m.c, .bool m.z, .bool m.n, .bool m.v] 25) lpi sz2 hp hqw)
    clear HB HQ HI ON
    go_wp2_with fail
    generalize w2.alloc (.cells #[.bool m.c, .bool m.z, .bool m.n, .bool m.v] 25) = w3 at *
    generalize w2.heap.size = pf at *
    clear B2 I2 K2 c9 c10 c11 c12 c13
    obtain ⟨y0, y1, y2, y3⟩ := (unhide S3).I.at4
    obtain ⟨z0, z1, z2, z3⟩ := (unhide S3).F.at4
    have cd := (unhide S3).bx.reg hd hd'
    have cs := (unhide S3).bx.reg hs hs'
    have fz := (unhide S3).bx.flat
    have hd8 : d < 8 := by omega
    have hs8 : s < 8 := by omega
    have hp3 := (unhide S3).bx.pw
    go_quiet (fail)
    have S4 := hide ((unhide S3).step (show Below w3.heap.size w3 (w3.drewN nq) from ⟨rfl, rfl, rfl, Nat.le_refl _, fun _ _ => rfl⟩))
    clear S3 y0 y1 y2 y3 z0 z1 z2 z3 cd cs fz hp3
    generalize w3.drewN nq = w4 at *
    obtain ⟨y0, y1, y2, y3⟩ := (unhide S4).I.at4
    obtain ⟨z0, z1, z2, z3⟩ := (unhide S4).F.at4
    have cd := (unhide S4).bx.reg hd hd'
    have cs := (unhide S4).bx.reg hs hs'
    have fz := (unhide S4).bx.flat
    have hp4 := (unhide S4).bx.pw
    have hj : m.c = false := unhide HJ
    rw [hj] at z0
    have c13 := (unhide S4).bx.at.2.2.2.2.2.1
    have B6 := hide ((unhide S4).bx.put (m' := { m with pc := nx }) 13 (.int .i64 nx) (by decide) rfl rfl rfl { (unhide S4).bx.fine with pc := hl2 })
    go_wp2_with fail
    go_ret
    unfold SRet
    refine ⟨_, _, rfl, ?_, by first | exact unhide B6 | (rw [unhide HNX]; exact unhide B6)⟩
    omega
end Go.Proofs.Ytjlbenbfmookoaa
