/-
  The document's machine: steps (12, 13, 9, 10, 11, 30, 31, -1).
-/
import Derived.Test.YtjlbenbfmookoaaR3S
namespace Go.Proofs.Ytjlbenbfmookoaa
open Go.RowKit
set_option linter.unusedSimpArgs false
set_option linter.unusedVariables false

set_option maxRecDepth 100000 in
set_option maxHeartbeats 4000000 in
theorem sx12 {w0 w : World} {p q n : Nat} {vc vm vi vo : Value} {m : Ma} {ms xs bs : List Int} (h : BX w0 w p q n vc vm vi vo m ms xs bs) (d s mm k : Int) (R : oneA xs m.pc = (⟨12, d, s, mm⟩, k)) (hd : 0 ≤ d) (hd' : d ≤ 7) (hs : 0 ≤ s) (hs' : s ≤ 7) (hm : wd mm) (hk1 : 1 ≤ k) (hk2 : k ≤ 2) (hn : n < 2000000) :
    Calls Try.prog 31 #[.pointer (some ⟨p, 0, none⟩)] w fun e w' => SRet w0 p q n vc vm vi ms xs bs 0 ({ m.cmp (m.reg d) (m.reg s) false with pc := lw (m.pc + k) }) e w' := by
  obtain ⟨r, C, Z, N, V, SM0, HE0⟩ : ∃ r C Z N V, (∀ W, Calls Try.prog 46 #[.int .i64 (m.reg d), .int .i64 (m.reg s), .bool false] W fun e w' => e = .returned (.tuple #[.int .i64 r, .agg #[.bool C, .bool Z, .bool N, .bool V]]) ∧ Below W.heap.size W w') ∧ m.cmp (m.reg d) (m.reg s) false = { m with c := C, z := Z, n := N, v := V } := ⟨_, _, _, _, _, fun W => rdif_any (m.reg d) (m.reg s) false W, rfl⟩
  have SM := hide SM0
  have HE := hide HE0
  clear SM0 HE0
  have ON := hide (fun W hW => rOne_any xs vc m.pc W hW)
  rw [R] at ON
  unfold agg at ON
  have HI := hide (fun (W : World) (k : Below w.heap.size w W) => h.code.step (h.low.trans (k.mono h.low.size)))
  have HB := hide h
  have HQ := hide (fun (W : World) (k : Below w.heap.size w W) => (show W.cell? ⟨p, 0, none⟩ = some vc ∧ W.cell? ⟨p, 13, none⟩ = some (.int .i64 m.pc) from ⟨cell_keep k h.pw h.at.1, cell_keep k h.pw h.at.2.2.2.2.2.1⟩))
  have hp := h.pw
  have hqw := h.qw
  have hpc := h.fine.pc
  have hrd := h.fine.reg hd hd'
  have hrs := h.fine.reg hs hs'
  have hc0 := h.at.1
  have hc13 := h.at.2.2.2.2.2.1
  clear h R
  go_enter Try.func31, Try.ntmps31
  go_upto_region 1 with fail
  refine reg_start (fun W => W.cell? ⟨p, 0, none⟩ = some vc ∧ W.cell? ⟨p, 13, none⟩ = some (.int .i64 m.pc)) (by kernel_rfl) ?_
  have T := hide (OneS.start w)
  clear hc0 hc13
  generalize w.drew = W at *
  refine reg_seg 0 9 7 (by kernel_rfl) (by decide) (by kernel_rfl) (by kernel_rfl) (fun _ _ _ _ _ h => h) ?_
  simp only [List.take_succ_cons, List.take_zero, List.drop_succ_cons, List.drop_zero]
  repeat (refine wpSteady_step (fun K hK => ?_); go_simp; first | (refine steady_of ?_ (fun W hW => ?_) (hK _ ?_); rotate_left; (obtain ⟨ca, cb⟩ := hW; go_simp; first | done | rfl); clear hK K) | (refine hK _ ?_; clear hK K))
  refine wpSteady_nil ?_
  apply reg_meet1 (R := fun pi W => OneS w true pi W)
  · intro hm
    refine reg_two 9 13 6 (by kernel_rfl) (by kernel_rfl) (unhide HQ W (unhide T).kw) ?_ ?_
    · skip
      simp only [List.take_succ_cons, List.take_zero, List.drop_succ_cons, List.drop_zero]
      go_wp2_with fail
      refine (unhide ON W (unhide HI W (unhide T).kw)).mono ?_
      rintro e wn ⟨rfl, kn⟩
      have T' := hide ((unhide T).call kn)
      have T := T'
      clear kn T'
      generalize wn = W at *
      go_wp2_with fail
      first | refine next_nil ?_ | refine next_go ?_
      refine reg_seg 10 3 3 (by kernel_rfl) (by decide) (by kernel_rfl) (by kernel_rfl) (fun _ _ _ _ _ h => h) ?_
      simp only [List.take_succ_cons, List.take_zero, List.drop_succ_cons, List.drop_zero]
      repeat (refine wpSteady_step (fun K hK => ?_); go_simp; first | (refine steady_of ?_ (fun W hW => ?_) (hK _ ?_); rotate_left; (obtain ⟨ca, cb⟩ := hW; go_simp; first | done | rfl); clear hK K) | (refine hK _ ?_; clear hK K))
      refine wpSteady_nil ?_
      refine reg_one 13 2 (by kernel_rfl) (by kernel_rfl) (unhide HQ W (unhide T).kw) ?_
      simp only [List.take_succ_cons, List.take_zero, List.drop_succ_cons, List.drop_zero]
      go_wp2_with fail
      have T' := hide ((unhide T).al (T := 49))
      have T := T'
      clear T'
      generalize W.alloc (.cells #[.int .i64 0, .int .i64 0, .int .i64 0, .int .i64 0] 49) = W' at *
      generalize W.heap.size = pi at *
      generalize W' = W at *
      first | refine next_nil ?_ | refine next_go ?_
      refine reg_said #[true, true, true, true, true, true, true, true, true, true, true, true, true, true, false, false] (by kernel_rfl) ?_
      exact hm pi W (unhide T)
    · skip
      simp only [List.take_succ_cons, List.take_zero, List.drop_succ_cons, List.drop_zero]
      go_wp2_with fail
      have T' := hide ((unhide T).al (T := 49))
      have T := T'
      clear T'
      generalize W.alloc (.cells #[.int .i64 0, .int .i64 0, .int .i64 0, .int .i64 0] 49) = W' at *
      generalize W.heap.size = pi at *
      generalize W' = W at *
      first | refine next_nil ?_ | refine next_go ?_
      refine reg_one 9 5 (by kernel_rfl) (by kernel_rfl) (unhide HQ W (unhide T).kw) ?_
      simp only [List.take_succ_cons, List.take_zero, List.drop_succ_cons, List.drop_zero]
      go_wp2_with fail
      refine (unhide ON W (unhide HI W (unhide T).kw)).mono ?_
      rintro e wn ⟨rfl, kn⟩
      have T' := hide ((unhide T).call kn)
      have T := T'
      clear kn T'
      generalize wn = W at *
      go_wp2_with fail
      first | refine next_nil ?_ | refine next_go ?_
      refine reg_seg 10 3 2 (by kernel_rfl) (by decide) (by kernel_rfl) (by kernel_rfl) (fun _ _ _ _ _ h => h) ?_
      simp only [List.take_succ_cons, List.take_zero, List.drop_succ_cons, List.drop_zero]
      repeat (refine wpSteady_step (fun K hK => ?_); go_simp; first | (refine steady_of ?_ (fun W hW => ?_) (hK _ ?_); rotate_left; (obtain ⟨ca, cb⟩ := hW; go_simp; first | done | rfl); clear hK K) | (refine hK _ ?_; clear hK K))
      refine wpSteady_nil ?_
      refine reg_said #[true, true, true, true, true, true, true, true, true, true, true, true, true, true, false, false] (by kernel_rfl) ?_
      exact hm pi W (unhide T)
  · intro pi W T0
    have T := hide T0
    clear T0
    obtain ⟨G5, lpi⟩ := (unhide T).bx rfl
    have H5 := hide G5
    obtain ⟨x0, x1, x2, x3⟩ := G5.at4
    have x4 := G5.2.2
    clear G5
    refine reg_one 14 1 (by kernel_rfl) (by kernel_rfl) (unhide HQ W (unhide T).kw) ?_
    simp only [List.take_succ_cons, List.take_zero, List.drop_succ_cons, List.drop_zero]
    go_wp2_with fail
    first | refine next_nil ?_ | refine next_go ?_
    have K2 := hide (below_4 (unhide T).kw lpi (.int .i64 12) (.int .i64 d) (.int .i64 s) (.int .i64 mm))
    have I2 := hide ((unhide H5).four (.int .i64 12) (.int .i64 d) (.int .i64 s) (.int .i64 mm))
    clear x0 x1 x2 x3 x4 H5 T
    generalize (((W.setCell ⟨pi, 0, none⟩ (.int .i64 12)).setCell ⟨pi, 1, none⟩ (.int .i64 d)).setCell ⟨pi, 2, none⟩ (.int .i64 s)).setCell ⟨pi, 3, none⟩ (.int .i64 mm) = w2 at *
    refine reg_seg 15 1 0 (by kernel_rfl) (by decide) (by kernel_rfl) (by kernel_rfl) (fun _ _ _ _ _ h => h) ?_
    simp only [List.take_succ_cons, List.take_zero, List.drop_succ_cons, List.drop_zero]
    repeat (refine wpSteady_step (fun K hK => ?_); go_simp; first | (refine steady_of ?_ (fun W hW => ?_) (hK _ ?_); rotate_left; (obtain ⟨ca, cb⟩ := hW; go_simp; first | done | rfl); clear hK K) | (refine hK _ ?_; clear hK K))
    refine wpSteady_nil ?_
    refine reg_end (by kernel_rfl) (unhide HQ w2 (unhide K2)) ?_
    have B2 := hide ((unhide HB).step (unhide K2))
    have sz2 := (unhide K2).size
    have lp2 := (unhide I2).1
    obtain ⟨-, c9, c10, c11, c12, c13, -, -, -, -, -, -, -⟩ := (unhide B2).at
    have hk0 : (k == 0) = false := beq_eq_false_iff_ne.2 (by omega)
    have hpc' := hpc
    unfold wd at hpc'
    have hwr2 := wrap_ok (x := m.pc + k) (by omega) (by omega)
    have tl2 := tm_lw (x := m.pc + k) (by omega)
    have hl2 := lw_b (m.pc + k)
    generalize hnx : lw (m.pc + k) = nx at *
    have HNX := hide hnx
    clear hnx
    have S3 := hide (SX.mk (w := w) ((unhide B2).new (.cells #[.bool m.c, .bool m.z, .bool m.n, .bool m.v] 25)) ((unhide I2).step (below_a _ _)) (Box.new w2 #[.bool m.c, .bool m.z, .bool m.n, .bool m.v] 25) lpi sz2 hp hqw)
    clear HB HQ HI ON
    go_wp2_with fail
    generalize w2.alloc (.cells #[.bool m.c, .bool m.z, .bool m.n, .bool m.v] 25) = w3 at *
    generalize w2.heap.size = pf at *
    clear B2 I2 K2 c9 c10 c11 c12 c13
    obtain ⟨y0, y1, y2, y3⟩ := (unhide S3).I.at4
    obtain ⟨z0, z1, z2, z3⟩ := (unhide S3).F.at4
    have cd := (unhide S3).bx.reg hd hd'
    have cs := (unhide S3).bx.reg hs hs'
    have fz := (unhide S3).bx.flat
    have hd8 : d < 8 := by omega
    have hs8 : s < 8 := by omega
    have hp3 := (unhide S3).bx.pw
    go_quiet (fail)
    have S4 := hide ((unhide S3).step (show Below w3.heap.size w3 (w3.drewN nq) from ⟨rfl, rfl, rfl, Nat.le_refl _, fun _ _ => rfl⟩))
    clear S3 y0 y1 y2 y3 z0 z1 z2 z3 cd cs fz hp3
    generalize w3.drewN nq = w4 at *
    obtain ⟨y0, y1, y2, y3⟩ := (unhide S4).I.at4
    obtain ⟨z0, z1, z2, z3⟩ := (unhide S4).F.at4
    have cd := (unhide S4).bx.reg hd hd'
    have cs := (unhide S4).bx.reg hs hs'
    have fz := (unhide S4).bx.flat
    have hp4 := (unhide S4).bx.pw
    go_wp2_with fail
    refine (unhide SM w4).mono ?_
    rintro e w5 ⟨rfl, k5⟩
    have S5 := hide ((unhide S4).step k5)
    clear k5 S4 cd cs fz hp4 y0 y1 y2 y3 z0 z1 z2 z3
    obtain ⟨-, c9, c10, c11, c12, c13, -, -, -, -, -, -, -⟩ := (unhide S5).bx.at
    have fz := (unhide S5).bx.flat
    have hp6 := (unhide S5).bx.pw
    have S6 := hide ((unhide S5).kept (((((Kept.refl w5 p q).set (b := p) (j := 9) (x := .bool C) (.inl rfl)).set (b := p) (j := 10) (x := .bool Z) (.inl rfl)).set (b := p) (j := 11) (x := .bool N) (.inl rfl)).set (b := p) (j := 12) (x := .bool V) (.inl rfl)) ((unhide S5).bx.flags C Z N V))
    obtain ⟨z0, z1, z2, z3⟩ := (unhide S6).F.at4
    obtain ⟨-, e9, e10, e11, e12, e13, -, -, -, -, -, -, -⟩ := (unhide S6).bx.at
    have B6 := hide ((unhide S6).bx.put (m' := ({ ({ m with c := C, z := Z, n := N, v := V } : Ma) with pc := nx } : Ma)) 13 (.int .i64 nx) (by decide) rfl rfl rfl { (unhide S6).bx.fine with pc := hl2 })
    go_wp2_with fail
    go_ret
    unfold SRet
    refine ⟨_, _, rfl, ?_, by first | exact unhide B6 | (rw [unhide HNX, unhide HE]; exact unhide B6)⟩
    omega
set_option maxRecDepth 100000 in
set_option maxHeartbeats 4000000 in
theorem sx13t {w0 w : World} {p q n : Nat} {vc vm vi vo : Value} {m : Ma} {ms xs bs : List Int} (h : BX w0 w p q n vc vm vi vo m ms xs bs) (d s mm k : Int) (R : oneA xs m.pc = (⟨13, d, s, mm⟩, k)) (hd : 0 ≤ d) (hd' : d ≤ 7) (hs : 0 ≤ s) (hs' : s ≤ 7) (hm : wd mm) (hk1 : 1 ≤ k) (hk2 : k ≤ 2) (hn : n < 2000000) (hj : m.z = true) :
    Calls Try.prog 31 #[.pointer (some ⟨p, 0, none⟩)] w fun e w' => SRet w0 p q n vc vm vi ms xs bs 0 ({ m.cmp (m.reg d) (m.reg s) m.c with z := (m.cmp (m.reg d) (m.reg s) m.c).z && true, pc := lw (m.pc + k) }) e w' := by
  have HJ := hide hj
  clear hj
  obtain ⟨r, C, Z, N, V, SM0, HE0⟩ : ∃ r C Z N V, (∀ W, Calls Try.prog 46 #[.int .i64 (m.reg d), .int .i64 (m.reg s), .bool m.c] W fun e w' => e = .returned (.tuple #[.int .i64 r, .agg #[.bool C, .bool Z, .bool N, .bool V]]) ∧ Below W.heap.size W w') ∧ m.cmp (m.reg d) (m.reg s) m.c = { m with c := C, z := Z, n := N, v := V } := ⟨_, _, _, _, _, fun W => rdif_any (m.reg d) (m.reg s) m.c W, rfl⟩
  have SM := hide SM0
  have HE := hide HE0
  clear SM0 HE0
  have ON := hide (fun W hW => rOne_any xs vc m.pc W hW)
  rw [R] at ON
  unfold agg at ON
  have HI := hide (fun (W : World) (k : Below w.heap.size w W) => h.code.step (h.low.trans (k.mono h.low.size)))
  have HB := hide h
  have HQ := hide (fun (W : World) (k : Below w.heap.size w W) => (show W.cell? ⟨p, 0, none⟩ = some vc ∧ W.cell? ⟨p, 13, none⟩ = some (.int .i64 m.pc) from ⟨cell_keep k h.pw h.at.1, cell_keep k h.pw h.at.2.2.2.2.2.1⟩))
  have hp := h.pw
  have hqw := h.qw
  have hpc := h.fine.pc
  have hrd := h.fine.reg hd hd'
  have hrs := h.fine.reg hs hs'
  have hc0 := h.at.1
  have hc13 := h.at.2.2.2.2.2.1
  clear h R
  go_enter Try.func31, Try.ntmps31
  go_upto_region 1 with fail
  refine reg_start (fun W => W.cell? ⟨p, 0, none⟩ = some vc ∧ W.cell? ⟨p, 13, none⟩ = some (.int .i64 m.pc)) (by kernel_rfl) ?_
  have T := hide (OneS.start w)
  clear hc0 hc13
  generalize w.drew = W at *
  refine reg_seg 0 9 7 (by kernel_rfl) (by decide) (by kernel_rfl) (by kernel_rfl) (fun _ _ _ _ _ h => h) ?_
  simp only [List.take_succ_cons, List.take_zero, List.drop_succ_cons, List.drop_zero]
  repeat (refine wpSteady_step (fun K hK => ?_); go_simp; first | (refine steady_of ?_ (fun W hW => ?_) (hK _ ?_); rotate_left; (obtain ⟨ca, cb⟩ := hW; go_simp; first | done | rfl); clear hK K) | (refine hK _ ?_; clear hK K))
  refine wpSteady_nil ?_
  apply reg_meet1 (R := fun pi W => OneS w true pi W)
  · intro hm
    refine reg_two 9 13 6 (by kernel_rfl) (by kernel_rfl) (unhide HQ W (unhide T).kw) ?_ ?_
    · skip
      simp only [List.take_succ_cons, List.take_zero, List.drop_succ_cons, List.drop_zero]
      go_wp2_with fail
      refine (unhide ON W (unhide HI W (unhide T).kw)).mono ?_
      rintro e wn ⟨rfl, kn⟩
      have T' := hide ((unhide T).call kn)
      have T := T'
      clear kn T'
      generalize wn = W at *
      go_wp2_with fail
      first | refine next_nil ?_ | refine next_go ?_
      refine reg_seg 10 3 3 (by kernel_rfl) (by decide) (by kernel_rfl) (by kernel_rfl) (fun _ _ _ _ _ h => h) ?_
      simp only [List.take_succ_cons, List.take_zero, List.drop_succ_cons, List.drop_zero]
      repeat (refine wpSteady_step (fun K hK => ?_); go_simp; first | (refine steady_of ?_ (fun W hW => ?_) (hK _ ?_); rotate_left; (obtain ⟨ca, cb⟩ := hW; go_simp; first | done | rfl); clear hK K) | (refine hK _ ?_; clear hK K))
      refine wpSteady_nil ?_
      refine reg_one 13 2 (by kernel_rfl) (by kernel_rfl) (unhide HQ W (unhide T).kw) ?_
      simp only [List.take_succ_cons, List.take_zero, List.drop_succ_cons, List.drop_zero]
      go_wp2_with fail
      have T' := hide ((unhide T).al (T := 49))
      have T := T'
      clear T'
      generalize W.alloc (.cells #[.int .i64 0, .int .i64 0, .int .i64 0, .int .i64 0] 49) = W' at *
      generalize W.heap.size = pi at *
      generalize W' = W at *
      first | refine next_nil ?_ | refine next_go ?_
      refine reg_said #[true, true, true, true, true, true, true, true, true, true, true, true, true, true, false, false] (by kernel_rfl) ?_
      exact hm pi W (unhide T)
    · skip
      simp only [List.take_succ_cons, List.take_zero, List.drop_succ_cons, List.drop_zero]
      go_wp2_with fail
      have T' := hide ((unhide T).al (T := 49))
      have T := T'
      clear T'
      generalize W.alloc (.cells #[.int .i64 0, .int .i64 0, .int .i64 0, .int .i64 0] 49) = W' at *
      generalize W.heap.size = pi at *
      generalize W' = W at *
      first | refine next_nil ?_ | refine next_go ?_
      refine reg_one 9 5 (by kernel_rfl) (by kernel_rfl) (unhide HQ W (unhide T).kw) ?_
      simp only [List.take_succ_cons, List.take_zero, List.drop_succ_cons, List.drop_zero]
      go_wp2_with fail
      refine (unhide ON W (unhide HI W (unhide T).kw)).mono ?_
      rintro e wn ⟨rfl, kn⟩
      have T' := hide ((unhide T).call kn)
      have T := T'
      clear kn T'
      generalize wn = W at *
      go_wp2_with fail
      first | refine next_nil ?_ | refine next_go ?_
      refine reg_seg 10 3 2 (by kernel_rfl) (by decide) (by kernel_rfl) (by kernel_rfl) (fun _ _ _ _ _ h => h) ?_
      simp only [List.take_succ_cons, List.take_zero, List.drop_succ_cons, List.drop_zero]
      repeat (refine wpSteady_step (fun K hK => ?_); go_simp; first | (refine steady_of ?_ (fun W hW => ?_) (hK _ ?_); rotate_left; (obtain ⟨ca, cb⟩ := hW; go_simp; first | done | rfl); clear hK K) | (refine hK _ ?_; clear hK K))
      refine wpSteady_nil ?_
      refine reg_said #[true, true, true, true, true, true, true, true, true, true, true, true, true, true, false, false] (by kernel_rfl) ?_
      exact hm pi W (unhide T)
  · intro pi W T0
    have T := hide T0
    clear T0
    obtain ⟨G5, lpi⟩ := (unhide T).bx rfl
    have H5 := hide G5
    obtain ⟨x0, x1, x2, x3⟩ := G5.at4
    have x4 := G5.2.2
    clear G5
    refine reg_one 14 1 (by kernel_rfl) (by kernel_rfl) (unhide HQ W (unhide T).kw) ?_
    simp only [List.take_succ_cons, List.take_zero, List.drop_succ_cons, List.drop_zero]
    go_wp2_with fail
    first | refine next_nil ?_ | refine next_go ?_
    have K2 := hide (below_4 (unhide T).kw lpi (.int .i64 13) (.int .i64 d) (.int .i64 s) (.int .i64 mm))
    have I2 := hide ((unhide H5).four (.int .i64 13) (.int .i64 d) (.int .i64 s) (.int .i64 mm))
    clear x0 x1 x2 x3 x4 H5 T
    generalize (((W.setCell ⟨pi, 0, none⟩ (.int .i64 13)).setCell ⟨pi, 1, none⟩ (.int .i64 d)).setCell ⟨pi, 2, none⟩ (.int .i64 s)).setCell ⟨pi, 3, none⟩ (.int .i64 mm) = w2 at *
    refine reg_seg 15 1 0 (by kernel_rfl) (by decide) (by kernel_rfl) (by kernel_rfl) (fun _ _ _ _ _ h => h) ?_
    simp only [List.take_succ_cons, List.take_zero, List.drop_succ_cons, List.drop_zero]
    repeat (refine wpSteady_step (fun K hK => ?_); go_simp; first | (refine steady_of ?_ (fun W hW => ?_) (hK _ ?_); rotate_left; (obtain ⟨ca, cb⟩ := hW; go_simp; first | done | rfl); clear hK K) | (refine hK _ ?_; clear hK K))
    refine wpSteady_nil ?_
    refine reg_end (by kernel_rfl) (unhide HQ w2 (unhide K2)) ?_
    have B2 := hide ((unhide HB).step (unhide K2))
    have sz2 := (unhide K2).size
    have lp2 := (unhide I2).1
    obtain ⟨-, c9, c10, c11, c12, c13, -, -, -, -, -, -, -⟩ := (unhide B2).at
    have hk0 : (k == 0) = false := beq_eq_false_iff_ne.2 (by omega)
    have hpc' := hpc
    unfold wd at hpc'
    have hwr2 := wrap_ok (x := m.pc + k) (by omega) (by omega)
    have tl2 := tm_lw (x := m.pc + k) (by omega)
    have hl2 := lw_b (m.pc + k)
    generalize hnx : lw (m.pc + k) = nx at *
    have HNX := hide hnx
    clear hnx
    have S3 := hide (SX.mk (w := w) ((unhide B2).new (.cells #[.bool m.c, .bool m.z, .bool m.n, .bool m.v] 25)) ((unhide I2).step (below_a _ _)) (Box.new w2 #[.bool m.c, .bool m.z, .bool m.n, .bool m.v] 25) lpi sz2 hp hqw)
    clear HB HQ HI ON
    go_wp2_with fail
    generalize w2.alloc (.cells #[.bool m.c, .bool m.z, .bool m.n, .bool m.v] 25) = w3 at *
    generalize w2.heap.size = pf at *
    clear B2 I2 K2 c9 c10 c11 c12 c13
    obtain ⟨y0, y1, y2, y3⟩ := (unhide S3).I.at4
    obtain ⟨z0, z1, z2, z3⟩ := (unhide S3).F.at4
    have cd := (unhide S3).bx.reg hd hd'
    have cs := (unhide S3).bx.reg hs hs'
    have fz := (unhide S3).bx.flat
    have hd8 : d < 8 := by omega
    have hs8 : s < 8 := by omega
    have hp3 := (unhide S3).bx.pw
    go_quiet (fail)
    have S4 := hide ((unhide S3).step (show Below w3.heap.size w3 (w3.drewN nq) from ⟨rfl, rfl, rfl, Nat.le_refl _, fun _ _ => rfl⟩))
    clear S3 y0 y1 y2 y3 z0 z1 z2 z3 cd cs fz hp3
    generalize w3.drewN nq = w4 at *
    obtain ⟨y0, y1, y2, y3⟩ := (unhide S4).I.at4
    obtain ⟨z0, z1, z2, z3⟩ := (unhide S4).F.at4
    have cd := (unhide S4).bx.reg hd hd'
    have cs := (unhide S4).bx.reg hs hs'
    have fz := (unhide S4).bx.flat
    have hp4 := (unhide S4).bx.pw
    go_wp2_with fail
    refine (unhide SM w4).mono ?_
    rintro e w5 ⟨rfl, k5⟩
    have S5 := hide ((unhide S4).step k5)
    clear k5 S4 cd cs fz hp4 y0 y1 y2 y3 z0 z1 z2 z3
    obtain ⟨-, c9, c10, c11, c12, c13, -, -, -, -, -, -, -⟩ := (unhide S5).bx.at
    have fz := (unhide S5).bx.flat
    have hp6 := (unhide S5).bx.pw
    have S6 := hide ((unhide S5).kept (((((Kept.refl w5 p q).set (b := p) (j := 9) (x := .bool C) (.inl rfl)).set (b := p) (j := 10) (x := .bool Z) (.inl rfl)).set (b := p) (j := 11) (x := .bool N) (.inl rfl)).set (b := p) (j := 12) (x := .bool V) (.inl rfl)) ((unhide S5).bx.flags C Z N V))
    obtain ⟨z0, z1, z2, z3⟩ := (unhide S6).F.at4
    obtain ⟨-, e9, e10, e11, e12, e13, -, -, -, -, -, -, -⟩ := (unhide S6).bx.at
    rw [show m.z = true from unhide HJ] at z1
    have B6 := hide ((unhide S6).bx.put (m' := ({ ({ m with c := C, z := Z, n := N, v := V } : Ma) with pc := nx } : Ma)) 13 (.int .i64 nx) (by decide) rfl rfl rfl { (unhide S6).bx.fine with pc := hl2 })
    go_wp2_with fail
    go_ret
    unfold SRet
    refine ⟨_, _, rfl, ?_, by rw [unhide HNX, unhide HE]; dsimp only; rw [Bool.and_true]; exact unhide B6⟩
    omega
set_option maxRecDepth 100000 in
set_option maxHeartbeats 4000000 in
theorem sx13f {w0 w : World} {p q n : Nat} {vc vm vi vo : Value} {m : Ma} {ms xs bs : List Int} (h : BX w0 w p q n vc vm vi vo m ms xs bs) (d s mm k : Int) (R : oneA xs m.pc = (⟨13, d, s, mm⟩, k)) (hd : 0 ≤ d) (hd' : d ≤ 7) (hs : 0 ≤ s) (hs' : s ≤ 7) (hm : wd mm) (hk1 : 1 ≤ k) (hk2 : k ≤ 2) (hn : n < 2000000) (hj : m.z = false) :
    Calls Try.prog 31 #[.pointer (some ⟨p, 0, none⟩)] w fun e w' => SRet w0 p q n vc vm vi ms xs bs 0 ({ m.cmp (m.reg d) (m.reg s) m.c with z := (m.cmp (m.reg d) (m.reg s) m.c).z && false, pc := lw (m.pc + k) }) e w' := by
  have HJ := hide hj
  clear hj
  obtain ⟨r, C, Z, N, V, SM0, HE0⟩ : ∃ r C Z N V, (∀ W, Calls Try.prog 46 #[.int .i64 (m.reg d), .int .i64 (m.reg s), .bool m.c] W fun e w' => e = .returned (.tuple #[.int .i64 r, .agg #[.bool C, .bool Z, .bool N, .bool V]]) ∧ Below W.heap.size W w') ∧ m.cmp (m.reg d) (m.reg s) m.c = { m with c := C, z := Z, n := N, v := V } := ⟨_, _, _, _, _, fun W => rdif_any (m.reg d) (m.reg s) m.c W, rfl⟩
  have SM := hide SM0
  have HE := hide HE0
  clear SM0 HE0
  have ON := hide (fun W hW => rOne_any xs vc m.pc W hW)
  rw [R] at ON
  unfold agg at ON
  have HI := hide (fun (W : World) (k : Below w.heap.size w W) => h.code.step (h.low.trans (k.mono h.low.size)))
  have HB := hide h
  have HQ := hide (fun (W : World) (k : Below w.heap.size w W) => (show W.cell? ⟨p, 0, none⟩ = some vc ∧ W.cell? ⟨p, 13, none⟩ = some (.int .i64 m.pc) from ⟨cell_keep k h.pw h.at.1, cell_keep k h.pw h.at.2.2.2.2.2.1⟩))
  have hp := h.pw
  have hqw := h.qw
  have hpc := h.fine.pc
  have hrd := h.fine.reg hd hd'
  have hrs := h.fine.reg hs hs'
  have hc0 := h.at.1
  have hc13 := h.at.2.2.2.2.2.1
  clear h R
  go_enter Try.func31, Try.ntmps31
  go_upto_region 1 with fail
  refine reg_start (fun W => W.cell? ⟨p, 0, none⟩ = some vc ∧ W.cell? ⟨p, 13, none⟩ = some (.int .i64 m.pc)) (by kernel_rfl) ?_
  have T := hide (OneS.start w)
  clear hc0 hc13
  generalize w.drew = W at *
  refine reg_seg 0 9 7 (by kernel_rfl) (by decide) (by kernel_rfl) (by kernel_rfl) (fun _ _ _ _ _ h => h) ?_
  simp only [List.take_succ_cons, List.take_zero, List.drop_succ_cons, List.drop_zero]
  repeat (refine wpSteady_step (fun K hK => ?_); go_simp; first | (refine steady_of ?_ (fun W hW => ?_) (hK _ ?_); rotate_left; (obtain ⟨ca, cb⟩ := hW; go_simp; first | done | rfl); clear hK K) | (refine hK _ ?_; clear hK K))
  refine wpSteady_nil ?_
  apply reg_meet1 (R := fun pi W => OneS w true pi W)
  · intro hm
    refine reg_two 9 13 6 (by kernel_rfl) (by kernel_rfl) (unhide HQ W (unhide T).kw) ?_ ?_
    · skip
      simp only [List.take_succ_cons, List.take_zero, List.drop_succ_cons, List.drop_zero]
      go_wp2_with fail
      refine (unhide ON W (unhide HI W (unhide T).kw)).mono ?_
      rintro e wn ⟨rfl, kn⟩
      have T' := hide ((unhide T).call kn)
      have T := T'
      clear kn T'
      generalize wn = W at *
      go_wp2_with fail
      first | refine next_nil ?_ | refine next_go ?_
      refine reg_seg 10 3 3 (by kernel_rfl) (by decide) (by kernel_rfl) (by kernel_rfl) (fun _ _ _ _ _ h => h) ?_
      simp only [List.take_succ_cons, List.take_zero, List.drop_succ_cons, List.drop_zero]
      repeat (refine wpSteady_step (fun K hK => ?_); go_simp; first | (refine steady_of ?_ (fun W hW => ?_) (hK _ ?_); rotate_left; (obtain ⟨ca, cb⟩ := hW; go_simp; first | done | rfl); clear hK K) | (refine hK _ ?_; clear hK K))
      refine wpSteady_nil ?_
      refine reg_one 13 2 (by kernel_rfl) (by kernel_rfl) (unhide HQ W (unhide T).kw) ?_
      simp only [List.take_succ_cons, List.take_zero, List.drop_succ_cons, List.drop_zero]
      go_wp2_with fail
      have T' := hide ((unhide T).al (T := 49))
      have T := T'
      clear T'
      generalize W.alloc (.cells #[.int .i64 0, .int .i64 0, .int .i64 0, .int .i64 0] 49) = W' at *
      generalize W.heap.size = pi at *
      generalize W' = W at *
      first | refine next_nil ?_ | refine next_go ?_
      refine reg_said #[true, true, true, true, true, true, true, true, true, true, true, true, true, true, false, false] (by kernel_rfl) ?_
      exact hm pi W (unhide T)
    · skip
      simp only [List.take_succ_cons, List.take_zero, List.drop_succ_cons, List.drop_zero]
      go_wp2_with fail
      have T' := hide ((unhide T).al (T := 49))
      have T := T'
      clear T'
      generalize W.alloc (.cells #[.int .i64 0, .int .i64 0, .int .i64 0, .int .i64 0] 49) = W' at *
      generalize W.heap.size = pi at *
      generalize W' = W at *
      first | refine next_nil ?_ | refine next_go ?_
      refine reg_one 9 5 (by kernel_rfl) (by kernel_rfl) (unhide HQ W (unhide T).kw) ?_
      simp only [List.take_succ_cons, List.take_zero, List.drop_succ_cons, List.drop_zero]
      go_wp2_with fail
      refine (unhide ON W (unhide HI W (unhide T).kw)).mono ?_
      rintro e wn ⟨rfl, kn⟩
      have T' := hide ((unhide T).call kn)
      have T := T'
      clear kn T'
      generalize wn = W at *
      go_wp2_with fail
      first | refine next_nil ?_ | refine next_go ?_
      refine reg_seg 10 3 2 (by kernel_rfl) (by decide) (by kernel_rfl) (by kernel_rfl) (fun _ _ _ _ _ h => h) ?_
      simp only [List.take_succ_cons, List.take_zero, List.drop_succ_cons, List.drop_zero]
      repeat (refine wpSteady_step (fun K hK => ?_); go_simp; first | (refine steady_of ?_ (fun W hW => ?_) (hK _ ?_); rotate_left; (obtain ⟨ca, cb⟩ := hW; go_simp; first | done | rfl); clear hK K) | (refine hK _ ?_; clear hK K))
      refine wpSteady_nil ?_
      refine reg_said #[true, true, true, true, true, true, true, true, true, true, true, true, true, true, false, false] (by kernel_rfl) ?_
      exact hm pi W (unhide T)
  · intro pi W T0
    have T := hide T0
    clear T0
    obtain ⟨G5, lpi⟩ := (unhide T).bx rfl
    have H5 := hide G5
    obtain ⟨x0, x1, x2, x3⟩ := G5.at4
    have x4 := G5.2.2
    clear G5
    refine reg_one 14 1 (by kernel_rfl) (by kernel_rfl) (unhide HQ W (unhide T).kw) ?_
    simp only [List.take_succ_cons, List.take_zero, List.drop_succ_cons, List.drop_zero]
    go_wp2_with fail
    first | refine next_nil ?_ | refine next_go ?_
    have K2 := hide (below_4 (unhide T).kw lpi (.int .i64 13) (.int .i64 d) (.int .i64 s) (.int .i64 mm))
    have I2 := hide ((unhide H5).four (.int .i64 13) (.int .i64 d) (.int .i64 s) (.int .i64 mm))
    clear x0 x1 x2 x3 x4 H5 T
    generalize (((W.setCell ⟨pi, 0, none⟩ (.int .i64 13)).setCell ⟨pi, 1, none⟩ (.int .i64 d)).setCell ⟨pi, 2, none⟩ (.int .i64 s)).setCell ⟨pi, 3, none⟩ (.int .i64 mm) = w2 at *
    refine reg_seg 15 1 0 (by kernel_rfl) (by decide) (by kernel_rfl) (by kernel_rfl) (fun _ _ _ _ _ h => h) ?_
    simp only [List.take_succ_cons, List.take_zero, List.drop_succ_cons, List.drop_zero]
    repeat (refine wpSteady_step (fun K hK => ?_); go_simp; first | (refine steady_of ?_ (fun W hW => ?_) (hK _ ?_); rotate_left; (obtain ⟨ca, cb⟩ := hW; go_simp; first | done | rfl); clear hK K) | (refine hK _ ?_; clear hK K))
    refine wpSteady_nil ?_
    refine reg_end (by kernel_rfl) (unhide HQ w2 (unhide K2)) ?_
    have B2 := hide ((unhide HB).step (unhide K2))
    have sz2 := (unhide K2).size
    have lp2 := (unhide I2).1
    obtain ⟨-, c9, c10, c11, c12, c13, -, -, -, -, -, -, -⟩ := (unhide B2).at
    have hk0 : (k == 0) = false := beq_eq_false_iff_ne.2 (by omega)
    have hpc' := hpc
    unfold wd at hpc'
    have hwr2 := wrap_ok (x := m.pc + k) (by omega) (by omega)
    have tl2 := tm_lw (x := m.pc + k) (by omega)
    have hl2 := lw_b (m.pc + k)
    generalize hnx : lw (m.pc + k) = nx at *
    have HNX := hide hnx
    clear hnx
    have S3 := hide (SX.mk (w := w) ((unhide B2).new (.cells #[.bool m.c, .bool m.z, .bool m.n, .bool m.v] 25)) ((unhide I2).step (below_a _ _)) (Box.new w2 #[.bool m.c, .bool m.z, .bool m.n, .bool m.v] 25) lpi sz2 hp hqw)
    clear HB HQ HI ON
    go_wp2_with fail
    generalize w2.alloc (.cells #[.bool m.c, .bool m.z, .bool m.n, .bool m.v] 25) = w3 at *
    generalize w2.heap.size = pf at *
    clear B2 I2 K2 c9 c10 c11 c12 c13
    obtain ⟨y0, y1, y2, y3⟩ := (unhide S3).I.at4
    obtain ⟨z0, z1, z2, z3⟩ := (unhide S3).F.at4
    have cd := (unhide S3).bx.reg hd hd'
    have cs := (unhide S3).bx.reg hs hs'
    have fz := (unhide S3).bx.flat
    have hd8 : d < 8 := by omega
    have hs8 : s < 8 := by omega
    have hp3 := (unhide S3).bx.pw
    go_quiet (fail)
    have S4 := hide ((unhide S3).step (show Below w3.heap.size w3 (w3.drewN nq) from ⟨rfl, rfl, rfl, Nat.le_refl _, fun _ _ => rfl⟩))
    clear S3 y0 y1 y2 y3 z0 z1 z2 z3 cd cs fz hp3
    generalize w3.drewN nq = w4 at *
    obtain ⟨y0, y1, y2, y3⟩ := (unhide S4).I.at4
    obtain ⟨z0, z1, z2, z3⟩ := (unhide S4).F.at4
    have cd := (unhide S4).bx.reg hd hd'
    have cs := (unhide S4).bx.reg hs hs'
    have fz := (unhide S4).bx.flat
    have hp4 := (unhide S4).bx.pw
    go_wp2_with fail
    refine (unhide SM w4).mono ?_
    rintro e w5 ⟨rfl, k5⟩
    have S5 := hide ((unhide S4).step k5)
    clear k5 S4 cd cs fz hp4 y0 y1 y2 y3 z0 z1 z2 z3
    obtain ⟨-, c9, c10, c11, c12, c13, -, -, -, -, -, -, -⟩ := (unhide S5).bx.at
    have fz := (unhide S5).bx.flat
    have hp6 := (unhide S5).bx.pw
    have S6 := hide ((unhide S5).kept (((((Kept.refl w5 p q).set (b := p) (j := 9) (x := .bool C) (.inl rfl)).set (b := p) (j := 10) (x := .bool Z) (.inl rfl)).set (b := p) (j := 11) (x := .bool N) (.inl rfl)).set (b := p) (j := 12) (x := .bool V) (.inl rfl)) ((unhide S5).bx.flags C Z N V))
    obtain ⟨z0, z1, z2, z3⟩ := (unhide S6).F.at4
    obtain ⟨-, e9, e10, e11, e12, e13, -, -, -, -, -, -, -⟩ := (unhide S6).bx.at
    rw [show m.z = false from unhide HJ] at z1
    have B6 := hide (((unhide S6).bx.put (m' := ({ ({ m with c := C, z := Z, n := N, v := V } : Ma) with z := false } : Ma)) 10 (.bool false) (by decide) rfl rfl rfl { (unhide S6).bx.fine with }).put (m' := ({ ({ m with c := C, z := Z, n := N, v := V } : Ma) with z := false, pc := nx } : Ma)) 13 (.int .i64 nx) (by decide) rfl rfl rfl { (unhide S6).bx.fine with pc := hl2 })
    go_wp2_with fail
    go_ret
    unfold SRet
    refine ⟨_, _, rfl, ?_, by rw [unhide HNX, unhide HE]; dsimp only; rw [Bool.and_false]; exact unhide B6⟩
    omega
set_option maxRecDepth 100000 in
set_option maxHeartbeats 4000000 in
theorem sx9 {w0 w : World} {p q n : Nat} {vc vm vi vo : Value} {m : Ma} {ms xs bs : List Int} (h : BX w0 w p q n vc vm vi vo m ms xs bs) (d s mm k : Int) (R : oneA xs m.pc = (⟨9, d, s, mm⟩, k)) (hd : 0 ≤ d) (hd' : d ≤ 7) (hs : 0 ≤ s) (hs' : s ≤ 7) (hm : wd mm) (hk1 : 1 ≤ k) (hk2 : k ≤ 2) (hn : n < 2000000) :
    Calls Try.prog 31 #[.pointer (some ⟨p, 0, none⟩)] w fun e w' => SRet w0 p q n vc vm vi ms xs bs 0 ({ m.become d (andI (m.reg d) (m.reg s)) false with pc := lw (m.pc + k) }) e w' := by
  obtain ⟨r, hr, SM0, HE0⟩ : ∃ r, wd r ∧ (∀ W, Calls Try.prog 48 #[.int .i64 9, .int .i64 (m.reg d), .int .i64 (m.reg s)] W fun e w' => e = .returned (.int .i64 r) ∧ Below W.heap.size W w') ∧ andI (m.reg d) (m.reg s) = r := ⟨_, nb_wd _, fun W => logic9_any (m.reg d) (m.reg s) W (h.fine.reg hd hd') (h.fine.reg hs hs'), (nb_and (h.fine.reg hd hd') (h.fine.reg hs hs')).symm⟩
  have SM := hide SM0
  have HE := hide HE0
  clear SM0 HE0
  have ON := hide (fun W hW => rOne_any xs vc m.pc W hW)
  rw [R] at ON
  unfold agg at ON
  have HI := hide (fun (W : World) (k : Below w.heap.size w W) => h.code.step (h.low.trans (k.mono h.low.size)))
  have HB := hide h
  have HQ := hide (fun (W : World) (k : Below w.heap.size w W) => (show W.cell? ⟨p, 0, none⟩ = some vc ∧ W.cell? ⟨p, 13, none⟩ = some (.int .i64 m.pc) from ⟨cell_keep k h.pw h.at.1, cell_keep k h.pw h.at.2.2.2.2.2.1⟩))
  have hp := h.pw
  have hqw := h.qw
  have hpc := h.fine.pc
  have hrd := h.fine.reg hd hd'
  have hrs := h.fine.reg hs hs'
  have hc0 := h.at.1
  have hc13 := h.at.2.2.2.2.2.1
  clear h R
  go_enter Try.func31, Try.ntmps31
  go_upto_region 1 with fail
  refine reg_start (fun W => W.cell? ⟨p, 0, none⟩ = some vc ∧ W.cell? ⟨p, 13, none⟩ = some (.int .i64 m.pc)) (by kernel_rfl) ?_
  have T := hide (OneS.start w)
  clear hc0 hc13
  generalize w.drew = W at *
  refine reg_seg 0 9 7 (by kernel_rfl) (by decide) (by kernel_rfl) (by kernel_rfl) (fun _ _ _ _ _ h => h) ?_
  simp only [List.take_succ_cons, List.take_zero, List.drop_succ_cons, List.drop_zero]
  repeat (refine wpSteady_step (fun K hK => ?_); go_simp; first | (refine steady_of ?_ (fun W hW => ?_) (hK _ ?_); rotate_left; (obtain ⟨ca, cb⟩ := hW; go_simp; first | done | rfl); clear hK K) | (refine hK _ ?_; clear hK K))
  refine wpSteady_nil ?_
  apply reg_meet1 (R := fun pi W => OneS w true pi W)
  · intro hm
    refine reg_two 9 13 6 (by kernel_rfl) (by kernel_rfl) (unhide HQ W (unhide T).kw) ?_ ?_
    · skip
      simp only [List.take_succ_cons, List.take_zero, List.drop_succ_cons, List.drop_zero]
      go_wp2_with fail
      refine (unhide ON W (unhide HI W (unhide T).kw)).mono ?_
      rintro e wn ⟨rfl, kn⟩
      have T' := hide ((unhide T).call kn)
      have T := T'
      clear kn T'
      generalize wn = W at *
      go_wp2_with fail
      first | refine next_nil ?_ | refine next_go ?_
      refine reg_seg 10 3 3 (by kernel_rfl) (by decide) (by kernel_rfl) (by kernel_rfl) (fun _ _ _ _ _ h => h) ?_
      simp only [List.take_succ_cons, List.take_zero, List.drop_succ_cons, List.drop_zero]
      repeat (refine wpSteady_step (fun K hK => ?_); go_simp; first | (refine steady_of ?_ (fun W hW => ?_) (hK _ ?_); rotate_left; (obtain ⟨ca, cb⟩ := hW; go_simp; first | done | rfl); clear hK K) | (refine hK _ ?_; clear hK K))
      refine wpSteady_nil ?_
      refine reg_one 13 2 (by kernel_rfl) (by kernel_rfl) (unhide HQ W (unhide T).kw) ?_
      simp only [List.take_succ_cons, List.take_zero, List.drop_succ_cons, List.drop_zero]
      go_wp2_with fail
      have T' := hide ((unhide T).al (T := 49))
      have T := T'
      clear T'
      generalize W.alloc (.cells #[.int .i64 0, .int .i64 0, .int .i64 0, .int .i64 0] 49) = W' at *
      generalize W.heap.size = pi at *
      generalize W' = W at *
      first | refine next_nil ?_ | refine next_go ?_
      refine reg_said #[true, true, true, true, true, true, true, true, true, true, true, true, true, true, false, false] (by kernel_rfl) ?_
      exact hm pi W (unhide T)
    · skip
      simp only [List.take_succ_cons, List.take_zero, List.drop_succ_cons, List.drop_zero]
      go_wp2_with fail
      have T' := hide ((unhide T).al (T := 49))
      have T := T'
      clear T'
      generalize W.alloc (.cells #[.int .i64 0, .int .i64 0, .int .i64 0, .int .i64 0] 49) = W' at *
      generalize W.heap.size = pi at *
      generalize W' = W at *
      first | refine next_nil ?_ | refine next_go ?_
      refine reg_one 9 5 (by kernel_rfl) (by kernel_rfl) (unhide HQ W (unhide T).kw) ?_
      simp only [List.take_succ_cons, List.take_zero, List.drop_succ_cons, List.drop_zero]
      go_wp2_with fail
      refine (unhide ON W (unhide HI W (unhide T).kw)).mono ?_
      rintro e wn ⟨rfl, kn⟩
      have T' := hide ((unhide T).call kn)
      have T := T'
      clear kn T'
      generalize wn = W at *
      go_wp2_with fail
      first | refine next_nil ?_ | refine next_go ?_
      refine reg_seg 10 3 2 (by kernel_rfl) (by decide) (by kernel_rfl) (by kernel_rfl) (fun _ _ _ _ _ h => h) ?_
      simp only [List.take_succ_cons, List.take_zero, List.drop_succ_cons, List.drop_zero]
      repeat (refine wpSteady_step (fun K hK => ?_); go_simp; first | (refine steady_of ?_ (fun W hW => ?_) (hK _ ?_); rotate_left; (obtain ⟨ca, cb⟩ := hW; go_simp; first | done | rfl); clear hK K) | (refine hK _ ?_; clear hK K))
      refine wpSteady_nil ?_
      refine reg_said #[true, true, true, true, true, true, true, true, true, true, true, true, true, true, false, false] (by kernel_rfl) ?_
      exact hm pi W (unhide T)
  · intro pi W T0
    have T := hide T0
    clear T0
    obtain ⟨G5, lpi⟩ := (unhide T).bx rfl
    have H5 := hide G5
    obtain ⟨x0, x1, x2, x3⟩ := G5.at4
    have x4 := G5.2.2
    clear G5
    refine reg_one 14 1 (by kernel_rfl) (by kernel_rfl) (unhide HQ W (unhide T).kw) ?_
    simp only [List.take_succ_cons, List.take_zero, List.drop_succ_cons, List.drop_zero]
    go_wp2_with fail
    first | refine next_nil ?_ | refine next_go ?_
    have K2 := hide (below_4 (unhide T).kw lpi (.int .i64 9) (.int .i64 d) (.int .i64 s) (.int .i64 mm))
    have I2 := hide ((unhide H5).four (.int .i64 9) (.int .i64 d) (.int .i64 s) (.int .i64 mm))
    clear x0 x1 x2 x3 x4 H5 T
    generalize (((W.setCell ⟨pi, 0, none⟩ (.int .i64 9)).setCell ⟨pi, 1, none⟩ (.int .i64 d)).setCell ⟨pi, 2, none⟩ (.int .i64 s)).setCell ⟨pi, 3, none⟩ (.int .i64 mm) = w2 at *
    refine reg_seg 15 1 0 (by kernel_rfl) (by decide) (by kernel_rfl) (by kernel_rfl) (fun _ _ _ _ _ h => h) ?_
    simp only [List.take_succ_cons, List.take_zero, List.drop_succ_cons, List.drop_zero]
    repeat (refine wpSteady_step (fun K hK => ?_); go_simp; first | (refine steady_of ?_ (fun W hW => ?_) (hK _ ?_); rotate_left; (obtain ⟨ca, cb⟩ := hW; go_simp; first | done | rfl); clear hK K) | (refine hK _ ?_; clear hK K))
    refine wpSteady_nil ?_
    refine reg_end (by kernel_rfl) (unhide HQ w2 (unhide K2)) ?_
    have B2 := hide ((unhide HB).step (unhide K2))
    have sz2 := (unhide K2).size
    have lp2 := (unhide I2).1
    obtain ⟨-, c9, c10, c11, c12, c13, -, -, -, -, -, -, -⟩ := (unhide B2).at
    have hk0 : (k == 0) = false := beq_eq_false_iff_ne.2 (by omega)
    have hpc' := hpc
    unfold wd at hpc'
    have hwr2 := wrap_ok (x := m.pc + k) (by omega) (by omega)
    have tl2 := tm_lw (x := m.pc + k) (by omega)
    have hl2 := lw_b (m.pc + k)
    generalize hnx : lw (m.pc + k) = nx at *
    have HNX := hide hnx
    clear hnx
    have S3 := hide (SX.mk (w := w) ((unhide B2).new (.cells #[.bool m.c, .bool m.z, .bool m.n, .bool m.v] 25)) ((unhide I2).step (below_a _ _)) (Box.new w2 #[.bool m.c, .bool m.z, .bool m.n, .bool m.v] 25) lpi sz2 hp hqw)
    clear HB HQ HI ON
    go_wp2_with fail
    generalize w2.alloc (.cells #[.bool m.c, .bool m.z, .bool m.n, .bool m.v] 25) = w3 at *
    generalize w2.heap.size = pf at *
    clear B2 I2 K2 c9 c10 c11 c12 c13
    obtain ⟨y0, y1, y2, y3⟩ := (unhide S3).I.at4
    obtain ⟨z0, z1, z2, z3⟩ := (unhide S3).F.at4
    have cd := (unhide S3).bx.reg hd hd'
    have cs := (unhide S3).bx.reg hs hs'
    have fz := (unhide S3).bx.flat
    have hd8 : d < 8 := by omega
    have hs8 : s < 8 := by omega
    have hp3 := (unhide S3).bx.pw
    go_quiet (fail)
    have S4 := hide ((unhide S3).step (show Below w3.heap.size w3 (w3.drewN nq) from ⟨rfl, rfl, rfl, Nat.le_refl _, fun _ _ => rfl⟩))
    clear S3 y0 y1 y2 y3 z0 z1 z2 z3 cd cs fz hp3
    generalize w3.drewN nq = w4 at *
    obtain ⟨y0, y1, y2, y3⟩ := (unhide S4).I.at4
    obtain ⟨z0, z1, z2, z3⟩ := (unhide S4).F.at4
    have cd := (unhide S4).bx.reg hd hd'
    have cs := (unhide S4).bx.reg hs hs'
    have fz := (unhide S4).bx.flat
    have hp4 := (unhide S4).bx.pw
    go_wp2_with fail
    refine reg_start (fun W => W.cell? ⟨pi, 0, none⟩ = some (.int .i64 9) ∧ W.cell? ⟨pi, 1, none⟩ = some (.int .i64 d)) (by kernel_rfl) ?_
    have S5 := hide ((unhide S4).step (Below.refl _ _).drew)
    clear S4 cd cs fz hp4 y0 y1 y2 y3 z0 z1 z2 z3
    generalize w4.drew = W at *
    refine reg_seg 0 8 7 (by kernel_rfl) (by decide) (by kernel_rfl) (by kernel_rfl) (fun _ _ _ _ _ h => h) ?_
    simp only [List.take_succ_cons, List.take_zero, List.drop_succ_cons, List.drop_zero]
    repeat (refine wpSteady_step (fun K hK => ?_); go_simp; first | (refine steady_of ?_ (fun W hW => ?_) (hK _ ?_); rotate_left; (obtain ⟨hc9, hc8⟩ := hW; go_simp; first | done | rfl); clear hK K) | (refine hK _ ?_; clear hK K))
    refine wpSteady_nil ?_
    refine reg_seg 10 3 4 (by kernel_rfl) (by decide) (by kernel_rfl) (by kernel_rfl) (fun _ _ _ _ _ h => h) ?_
    simp only [List.take_succ_cons, List.take_zero, List.drop_succ_cons, List.drop_zero]
    repeat (refine wpSteady_step (fun K hK => ?_); go_simp; first | (refine steady_of ?_ (fun W hW => ?_) (hK _ ?_); rotate_left; (obtain ⟨hc9, hc8⟩ := hW; go_simp; first | done | rfl); clear hK K) | (refine hK _ ?_; clear hK K))
    refine wpSteady_nil ?_
    refine reg_one 8 3 (by kernel_rfl) (by kernel_rfl) ⟨(unhide S5).I.at4.1, (unhide S5).I.at4.2.1⟩ ?_
    simp only [List.take_succ_cons, List.take_zero, List.drop_succ_cons, List.drop_zero]
    go_wp2_with fail
    refine (unhide SM W).mono ?_
    rintro e w5 ⟨rfl, k5⟩
    have S6 := hide ((unhide S5).step k5)
    clear k5 S5
    go_wp2_with fail
    first | refine next_nil ?_ | refine next_go ?_
    refine reg_one 9 2 (by kernel_rfl) (by kernel_rfl) ⟨(unhide S6).I.at4.1, (unhide S6).I.at4.2.1⟩ ?_
    simp only [List.take_succ_cons, List.take_zero, List.drop_succ_cons, List.drop_zero]
    go_wp2_with fail
    refine (plain3_any (unhide S6).bx r false hr).mono ?_
    rintro e w6 ⟨rfl, b6, k6⟩
    have S7 := hide ((unhide S6).kept k6 b6)
    clear b6 k6 S6
    go_wp2_with fail
    first | refine next_nil ?_ | refine next_go ?_
    refine reg_seg 13 1 1 (by kernel_rfl) (by decide) (by kernel_rfl) (by kernel_rfl) (fun _ _ _ _ _ h => h) ?_
    simp only [List.take_succ_cons, List.take_zero, List.drop_succ_cons, List.drop_zero]
    repeat (refine wpSteady_step (fun K hK => ?_); go_simp; first | (refine steady_of ?_ (fun W hW => ?_) (hK _ ?_); rotate_left; (obtain ⟨hc9, hc8⟩ := hW; go_simp; first | done | rfl); clear hK K) | (refine hK _ ?_; clear hK K))
    refine wpSteady_nil ?_
    have cd := (unhide S7).bx.reg hd hd'
    have fz := (unhide S7).bx.flat
    have hp6 := (unhide S7).bx.pw
    refine reg_one 14 0 (by kernel_rfl) (by kernel_rfl) ⟨(unhide S7).I.at4.1, (unhide S7).I.at4.2.1⟩ ?_
    simp only [List.take_succ_cons, List.take_zero, List.drop_succ_cons, List.drop_zero]
    go_wp2_with fail
    first | refine next_nil ?_ | refine next_go ?_
    have S8 := hide ((unhide S7).kept ((Kept.refl w6 p q).set (b := p) (j := 1 + d.toNat) (x := .int .i64 r) (.inl rfl)) ((unhide S7).bx.sreg d r hd hd' hr))
    clear cd fz hp6 S7
    generalize w6.setCell ⟨p, 1 + d.toNat, none⟩ (.int .i64 r) = w7 at *
    refine reg_end (by kernel_rfl) ⟨(unhide S8).I.at4.1, (unhide S8).I.at4.2.1⟩ ?_
    have B5 := hide (unhide S8).bx
    clear S8
    have c13 := (unhide B5).at.2.2.2.2.2.1
    have fz5 := (unhide B5).flat
    have hp5 := (unhide B5).pw
    have B6 := hide ((unhide B5).put (m' := ({ (Ma.setR { m with c := false, z := r == 0, n := r / 32768 == 1, v := false } d r : Ma) with pc := nx } : Ma)) 13 (.int .i64 nx) (by decide) rfl rfl rfl { (unhide B5).fine with pc := hl2 })
    go_wp2_with fail
    go_ret
    unfold SRet
    refine ⟨_, _, rfl, ?_, by first | exact unhide B6 | (rw [unhide HNX, unhide HE]; exact unhide B6)⟩
    omega
set_option maxRecDepth 100000 in
set_option maxHeartbeats 4000000 in
theorem sx10 {w0 w : World} {p q n : Nat} {vc vm vi vo : Value} {m : Ma} {ms xs bs : List Int} (h : BX w0 w p q n vc vm vi vo m ms xs bs) (d s mm k : Int) (R : oneA xs m.pc = (⟨10, d, s, mm⟩, k)) (hd : 0 ≤ d) (hd' : d ≤ 7) (hs : 0 ≤ s) (hs' : s ≤ 7) (hm : wd mm) (hk1 : 1 ≤ k) (hk2 : k ≤ 2) (hn : n < 2000000) :
    Calls Try.prog 31 #[.pointer (some ⟨p, 0, none⟩)] w fun e w' => SRet w0 p q n vc vm vi ms xs bs 0 ({ m.become d (orI (m.reg d) (m.reg s)) false with pc := lw (m.pc + k) }) e w' := by
  obtain ⟨r, hr, SM0, HE0⟩ : ∃ r, wd r ∧ (∀ W, Calls Try.prog 48 #[.int .i64 10, .int .i64 (m.reg d), .int .i64 (m.reg s)] W fun e w' => e = .returned (.int .i64 r) ∧ Below W.heap.size W w') ∧ orI (m.reg d) (m.reg s) = r := ⟨_, nb_wd _, fun W => logic10_any (m.reg d) (m.reg s) W (h.fine.reg hd hd') (h.fine.reg hs hs'), (nb_or (h.fine.reg hd hd') (h.fine.reg hs hs')).symm⟩
  have SM := hide SM0
  have HE := hide HE0
  clear SM0 HE0
  have ON := hide (fun W hW => rOne_any xs vc m.pc W hW)
  rw [R] at ON
  unfold agg at ON
  have HI := hide (fun (W : World) (k : Below w.heap.size w W) => h.code.step (h.low.trans (k.mono h.low.size)))
  have HB := hide h
  have HQ := hide (fun (W : World) (k : Below w.heap.size w W) => (show W.cell? ⟨p, 0, none⟩ = some vc ∧ W.cell? ⟨p, 13, none⟩ = some (.int .i64 m.pc) from ⟨cell_keep k h.pw h.at.1, cell_keep k h.pw h.at.2.2.2.2.2.1⟩))
  have hp := h.pw
  have hqw := h.qw
  have hpc := h.fine.pc
  have hrd := h.fine.reg hd hd'
  have hrs := h.fine.reg hs hs'
  have hc0 := h.at.1
  have hc13 := h.at.2.2.2.2.2.1
  clear h R
  go_enter Try.func31, Try.ntmps31
  go_upto_region 1 with fail
  refine reg_start (fun W => W.cell? ⟨p, 0, none⟩ = some vc ∧ W.cell? ⟨p, 13, none⟩ = some (.int .i64 m.pc)) (by kernel_rfl) ?_
  have T := hide (OneS.start w)
  clear hc0 hc13
  generalize w.drew = W at *
  refine reg_seg 0 9 7 (by kernel_rfl) (by decide) (by kernel_rfl) (by kernel_rfl) (fun _ _ _ _ _ h => h) ?_
  simp only [List.take_succ_cons, List.take_zero, List.drop_succ_cons, List.drop_zero]
  repeat (refine wpSteady_step (fun K hK => ?_); go_simp; first | (refine steady_of ?_ (fun W hW => ?_) (hK _ ?_); rotate_left; (obtain ⟨ca, cb⟩ := hW; go_simp; first | done | rfl); clear hK K) | (refine hK _ ?_; clear hK K))
  refine wpSteady_nil ?_
  apply reg_meet1 (R := fun pi W => OneS w true pi W)
  · intro hm
    refine reg_two 9 13 6 (by kernel_rfl) (by kernel_rfl) (unhide HQ W (unhide T).kw) ?_ ?_
    · skip
      simp only [List.take_succ_cons, List.take_zero, List.drop_succ_cons, List.drop_zero]
      go_wp2_with fail
      refine (unhide ON W (unhide HI W (unhide T).kw)).mono ?_
      rintro e wn ⟨rfl, kn⟩
      have T' := hide ((unhide T).call kn)
      have T := T'
      clear kn T'
      generalize wn = W at *
      go_wp2_with fail
      first | refine next_nil ?_ | refine next_go ?_
      refine reg_seg 10 3 3 (by kernel_rfl) (by decide) (by kernel_rfl) (by kernel_rfl) (fun _ _ _ _ _ h => h) ?_
      simp only [List.take_succ_cons, List.take_zero, List.drop_succ_cons, List.drop_zero]
      repeat (refine wpSteady_step (fun K hK => ?_); go_simp; first | (refine steady_of ?_ (fun W hW => ?_) (hK _ ?_); rotate_left; (obtain ⟨ca, cb⟩ := hW; go_simp; first | done | rfl); clear hK K) | (refine hK _ ?_; clear hK K))
      refine wpSteady_nil ?_
      refine reg_one 13 2 (by kernel_rfl) (by kernel_rfl) (unhide HQ W (unhide T).kw) ?_
      simp only [List.take_succ_cons, List.take_zero, List.drop_succ_cons, List.drop_zero]
      go_wp2_with fail
      have T' := hide ((unhide T).al (T := 49))
      have T := T'
      clear T'
      generalize W.alloc (.cells #[.int .i64 0, .int .i64 0, .int .i64 0, .int .i64 0] 49) = W' at *
      generalize W.heap.size = pi at *
      generalize W' = W at *
      first | refine next_nil ?_ | refine next_go ?_
      refine reg_said #[true, true, true, true, true, true, true, true, true, true, true, true, true, true, false, false] (by kernel_rfl) ?_
      exact hm pi W (unhide T)
    · skip
      simp only [List.take_succ_cons, List.take_zero, List.drop_succ_cons, List.drop_zero]
      go_wp2_with fail
      have T' := hide ((unhide T).al (T := 49))
      have T := T'
      clear T'
      generalize W.alloc (.cells #[.int .i64 0, .int .i64 0, .int .i64 0, .int .i64 0] 49) = W' at *
      generalize W.heap.size = pi at *
      generalize W' = W at *
      first | refine next_nil ?_ | refine next_go ?_
      refine reg_one 9 5 (by kernel_rfl) (by kernel_rfl) (unhide HQ W (unhide T).kw) ?_
      simp only [List.take_succ_cons, List.take_zero, List.drop_succ_cons, List.drop_zero]
      go_wp2_with fail
      refine (unhide ON W (unhide HI W (unhide T).kw)).mono ?_
      rintro e wn ⟨rfl, kn⟩
      have T' := hide ((unhide T).call kn)
      have T := T'
      clear kn T'
      generalize wn = W at *
      go_wp2_with fail
      first | refine next_nil ?_ | refine next_go ?_
      refine reg_seg 10 3 2 (by kernel_rfl) (by decide) (by kernel_rfl) (by kernel_rfl) (fun _ _ _ _ _ h => h) ?_
      simp only [List.take_succ_cons, List.take_zero, List.drop_succ_cons, List.drop_zero]
      repeat (refine wpSteady_step (fun K hK => ?_); go_simp; first | (refine steady_of ?_ (fun W hW => ?_) (hK _ ?_); rotate_left; (obtain ⟨ca, cb⟩ := hW; go_simp; first | done | rfl); clear hK K) | (refine hK _ ?_; clear hK K))
      refine wpSteady_nil ?_
      refine reg_said #[true, true, true, true, true, true, true, true, true, true, true, true, true, true, false, false] (by kernel_rfl) ?_
      exact hm pi W (unhide T)
  · intro pi W T0
    have T := hide T0
    clear T0
    obtain ⟨G5, lpi⟩ := (unhide T).bx rfl
    have H5 := hide G5
    obtain ⟨x0, x1, x2, x3⟩ := G5.at4
    have x4 := G5.2.2
    clear G5
    refine reg_one 14 1 (by kernel_rfl) (by kernel_rfl) (unhide HQ W (unhide T).kw) ?_
    simp only [List.take_succ_cons, List.take_zero, List.drop_succ_cons, List.drop_zero]
    go_wp2_with fail
    first | refine next_nil ?_ | refine next_go ?_
    have K2 := hide (below_4 (unhide T).kw lpi (.int .i64 10) (.int .i64 d) (.int .i64 s) (.int .i64 mm))
    have I2 := hide ((unhide H5).four (.int .i64 10) (.int .i64 d) (.int .i64 s) (.int .i64 mm))
    clear x0 x1 x2 x3 x4 H5 T
    generalize (((W.setCell ⟨pi, 0, none⟩ (.int .i64 10)).setCell ⟨pi, 1, none⟩ (.int .i64 d)).setCell ⟨pi, 2, none⟩ (.int .i64 s)).setCell ⟨pi, 3, none⟩ (.int .i64 mm) = w2 at *
    refine reg_seg 15 1 0 (by kernel_rfl) (by decide) (by kernel_rfl) (by kernel_rfl) (fun _ _ _ _ _ h => h) ?_
    simp only [List.take_succ_cons, List.take_zero, List.drop_succ_cons, List.drop_zero]
    repeat (refine wpSteady_step (fun K hK => ?_); go_simp; first | (refine steady_of ?_ (fun W hW => ?_) (hK _ ?_); rotate_left; (obtain ⟨ca, cb⟩ := hW; go_simp; first | done | rfl); clear hK K) | (refine hK _ ?_; clear hK K))
    refine wpSteady_nil ?_
    refine reg_end (by kernel_rfl) (unhide HQ w2 (unhide K2)) ?_
    have B2 := hide ((unhide HB).step (unhide K2))
    have sz2 := (unhide K2).size
    have lp2 := (unhide I2).1
    obtain ⟨-, c9, c10, c11, c12, c13, -, -, -, -, -, -, -⟩ := (unhide B2).at
    have hk0 : (k == 0) = false := beq_eq_false_iff_ne.2 (by omega)
    have hpc' := hpc
    unfold wd at hpc'
    have hwr2 := wrap_ok (x := m.pc + k) (by omega) (by omega)
    have tl2 := tm_lw (x := m.pc + k) (by omega)
    have hl2 := lw_b (m.pc + k)
    generalize hnx : lw (m.pc + k) = nx at *
    have HNX := hide hnx
    clear hnx
    have S3 := hide (SX.mk (w := w) ((unhide B2).new (.cells #[.bool m.c, .bool m.z, .bool m.n, .bool m.v] 25)) ((unhide I2).step (below_a _ _)) (Box.new w2 #[.bool m.c, .bool m.z, .bool m.n, .bool m.v] 25) lpi sz2 hp hqw)
    clear HB HQ HI ON
    go_wp2_with fail
    generalize w2.alloc (.cells #[.bool m.c, .bool m.z, .bool m.n, .bool m.v] 25) = w3 at *
    generalize w2.heap.size = pf at *
    clear B2 I2 K2 c9 c10 c11 c12 c13
    obtain ⟨y0, y1, y2, y3⟩ := (unhide S3).I.at4
    obtain ⟨z0, z1, z2, z3⟩ := (unhide S3).F.at4
    have cd := (unhide S3).bx.reg hd hd'
    have cs := (unhide S3).bx.reg hs hs'
    have fz := (unhide S3).bx.flat
    have hd8 : d < 8 := by omega
    have hs8 : s < 8 := by omega
    have hp3 := (unhide S3).bx.pw
    go_quiet (fail)
    have S4 := hide ((unhide S3).step (show Below w3.heap.size w3 (w3.drewN nq) from ⟨rfl, rfl, rfl, Nat.le_refl _, fun _ _ => rfl⟩))
    clear S3 y0 y1 y2 y3 z0 z1 z2 z3 cd cs fz hp3
    generalize w3.drewN nq = w4 at *
    obtain ⟨y0, y1, y2, y3⟩ := (unhide S4).I.at4
    obtain ⟨z0, z1, z2, z3⟩ := (unhide S4).F.at4
    have cd := (unhide S4).bx.reg hd hd'
    have cs := (unhide S4).bx.reg hs hs'
    have fz := (unhide S4).bx.flat
    have hp4 := (unhide S4).bx.pw
    go_wp2_with fail
    refine reg_start (fun W => W.cell? ⟨pi, 0, none⟩ = some (.int .i64 10) ∧ W.cell? ⟨pi, 1, none⟩ = some (.int .i64 d)) (by kernel_rfl) ?_
    have S5 := hide ((unhide S4).step (Below.refl _ _).drew)
    clear S4 cd cs fz hp4 y0 y1 y2 y3 z0 z1 z2 z3
    generalize w4.drew = W at *
    refine reg_seg 0 8 7 (by kernel_rfl) (by decide) (by kernel_rfl) (by kernel_rfl) (fun _ _ _ _ _ h => h) ?_
    simp only [List.take_succ_cons, List.take_zero, List.drop_succ_cons, List.drop_zero]
    repeat (refine wpSteady_step (fun K hK => ?_); go_simp; first | (refine steady_of ?_ (fun W hW => ?_) (hK _ ?_); rotate_left; (obtain ⟨hc9, hc8⟩ := hW; go_simp; first | done | rfl); clear hK K) | (refine hK _ ?_; clear hK K))
    refine wpSteady_nil ?_
    refine reg_seg 10 3 4 (by kernel_rfl) (by decide) (by kernel_rfl) (by kernel_rfl) (fun _ _ _ _ _ h => h) ?_
    simp only [List.take_succ_cons, List.take_zero, List.drop_succ_cons, List.drop_zero]
    repeat (refine wpSteady_step (fun K hK => ?_); go_simp; first | (refine steady_of ?_ (fun W hW => ?_) (hK _ ?_); rotate_left; (obtain ⟨hc9, hc8⟩ := hW; go_simp; first | done | rfl); clear hK K) | (refine hK _ ?_; clear hK K))
    refine wpSteady_nil ?_
    refine reg_one 8 3 (by kernel_rfl) (by kernel_rfl) ⟨(unhide S5).I.at4.1, (unhide S5).I.at4.2.1⟩ ?_
    simp only [List.take_succ_cons, List.take_zero, List.drop_succ_cons, List.drop_zero]
    go_wp2_with fail
    refine (unhide SM W).mono ?_
    rintro e w5 ⟨rfl, k5⟩
    have S6 := hide ((unhide S5).step k5)
    clear k5 S5
    go_wp2_with fail
    first | refine next_nil ?_ | refine next_go ?_
    refine reg_one 9 2 (by kernel_rfl) (by kernel_rfl) ⟨(unhide S6).I.at4.1, (unhide S6).I.at4.2.1⟩ ?_
    simp only [List.take_succ_cons, List.take_zero, List.drop_succ_cons, List.drop_zero]
    go_wp2_with fail
    refine (plain3_any (unhide S6).bx r false hr).mono ?_
    rintro e w6 ⟨rfl, b6, k6⟩
    have S7 := hide ((unhide S6).kept k6 b6)
    clear b6 k6 S6
    go_wp2_with fail
    first | refine next_nil ?_ | refine next_go ?_
    refine reg_seg 13 1 1 (by kernel_rfl) (by decide) (by kernel_rfl) (by kernel_rfl) (fun _ _ _ _ _ h => h) ?_
    simp only [List.take_succ_cons, List.take_zero, List.drop_succ_cons, List.drop_zero]
    repeat (refine wpSteady_step (fun K hK => ?_); go_simp; first | (refine steady_of ?_ (fun W hW => ?_) (hK _ ?_); rotate_left; (obtain ⟨hc9, hc8⟩ := hW; go_simp; first | done | rfl); clear hK K) | (refine hK _ ?_; clear hK K))
    refine wpSteady_nil ?_
    have cd := (unhide S7).bx.reg hd hd'
    have fz := (unhide S7).bx.flat
    have hp6 := (unhide S7).bx.pw
    refine reg_one 14 0 (by kernel_rfl) (by kernel_rfl) ⟨(unhide S7).I.at4.1, (unhide S7).I.at4.2.1⟩ ?_
    simp only [List.take_succ_cons, List.take_zero, List.drop_succ_cons, List.drop_zero]
    go_wp2_with fail
    first | refine next_nil ?_ | refine next_go ?_
    have S8 := hide ((unhide S7).kept ((Kept.refl w6 p q).set (b := p) (j := 1 + d.toNat) (x := .int .i64 r) (.inl rfl)) ((unhide S7).bx.sreg d r hd hd' hr))
    clear cd fz hp6 S7
    generalize w6.setCell ⟨p, 1 + d.toNat, none⟩ (.int .i64 r) = w7 at *
    refine reg_end (by kernel_rfl) ⟨(unhide S8).I.at4.1, (unhide S8).I.at4.2.1⟩ ?_
    have B5 := hide (unhide S8).bx
    clear S8
    have c13 := (unhide B5).at.2.2.2.2.2.1
    have fz5 := (unhide B5).flat
    have hp5 := (unhide B5).pw
    have B6 := hide ((unhide B5).put (m' := ({ (Ma.setR { m with c := false, z := r == 0, n := r / 32768 == 1, v := false } d r : Ma) with pc := nx } : Ma)) 13 (.int .i64 nx) (by decide) rfl rfl rfl { (unhide B5).fine with pc := hl2 })
    go_wp2_with fail
    go_ret
    unfold SRet
    refine ⟨_, _, rfl, ?_, by first | exact unhide B6 | (rw [unhide HNX, unhide HE]; exact unhide B6)⟩
    omega
set_option maxRecDepth 100000 in
set_option maxHeartbeats 4000000 in
theorem sx11 {w0 w : World} {p q n : Nat} {vc vm vi vo : Value} {m : Ma} {ms xs bs : List Int} (h : BX w0 w p q n vc vm vi vo m ms xs bs) (d s mm k : Int) (R : oneA xs m.pc = (⟨11, d, s, mm⟩, k)) (hd : 0 ≤ d) (hd' : d ≤ 7) (hs : 0 ≤ s) (hs' : s ≤ 7) (hm : wd mm) (hk1 : 1 ≤ k) (hk2 : k ≤ 2) (hn : n < 2000000) :
    Calls Try.prog 31 #[.pointer (some ⟨p, 0, none⟩)] w fun e w' => SRet w0 p q n vc vm vi ms xs bs 0 ({ m.become d (xorI (m.reg d) (m.reg s)) false with pc := lw (m.pc + k) }) e w' := by
  obtain ⟨r, hr, SM0, HE0⟩ : ∃ r, wd r ∧ (∀ W, Calls Try.prog 48 #[.int .i64 11, .int .i64 (m.reg d), .int .i64 (m.reg s)] W fun e w' => e = .returned (.int .i64 r) ∧ Below W.heap.size W w') ∧ xorI (m.reg d) (m.reg s) = r := ⟨_, nb_wd _, fun W => logic11_any (m.reg d) (m.reg s) W (h.fine.reg hd hd') (h.fine.reg hs hs'), (nb_xor (h.fine.reg hd hd') (h.fine.reg hs hs')).symm⟩
  have SM := hide SM0
  have HE := hide HE0
  clear SM0 HE0
  have ON := hide (fun W hW => rOne_any xs vc m.pc W hW)
  rw [R] at ON
  unfold agg at ON
  have HI := hide (fun (W : World) (k : Below w.heap.size w W) => h.code.step (h.low.trans (k.mono h.low.size)))
  have HB := hide h
  have HQ := hide (fun (W : World) (k : Below w.heap.size w W) => (show W.cell? ⟨p, 0, none⟩ = some vc ∧ W.cell? ⟨p, 13, none⟩ = some (.int .i64 m.pc) from ⟨cell_keep k h.pw h.at.1, cell_keep k h.pw h.at.2.2.2.2.2.1⟩))
  have hp := h.pw
  have hqw := h.qw
  have hpc := h.fine.pc
  have hrd := h.fine.reg hd hd'
  have hrs := h.fine.reg hs hs'
  have hc0 := h.at.1
  have hc13 := h.at.2.2.2.2.2.1
  clear h R
  go_enter Try.func31, Try.ntmps31
  go_upto_region 1 with fail
  refine reg_start (fun W => W.cell? ⟨p, 0, none⟩ = some vc ∧ W.cell? ⟨p, 13, none⟩ = some (.int .i64 m.pc)) (by kernel_rfl) ?_
  have T := hide (OneS.start w)
  clear hc0 hc13
  generalize w.drew = W at *
  refine reg_seg 0 9 7 (by kernel_rfl) (by decide) (by kernel_rfl) (by kernel_rfl) (fun _ _ _ _ _ h => h) ?_
  simp only [List.take_succ_cons, List.take_zero, List.drop_succ_cons, List.drop_zero]
  repeat (refine wpSteady_step (fun K hK => ?_); go_simp; first | (refine steady_of ?_ (fun W hW => ?_) (hK _ ?_); rotate_left; (obtain ⟨ca, cb⟩ := hW; go_simp; first | done | rfl); clear hK K) | (refine hK _ ?_; clear hK K))
  refine wpSteady_nil ?_
  apply reg_meet1 (R := fun pi W => OneS w true pi W)
  · intro hm
    refine reg_two 9 13 6 (by kernel_rfl) (by kernel_rfl) (unhide HQ W (unhide T).kw) ?_ ?_
    · skip
      simp only [List.take_succ_cons, List.take_zero, List.drop_succ_cons, List.drop_zero]
      go_wp2_with fail
      refine (unhide ON W (unhide HI W (unhide T).kw)).mono ?_
      rintro e wn ⟨rfl, kn⟩
      have T' := hide ((unhide T).call kn)
      have T := T'
      clear kn T'
      generalize wn = W at *
      go_wp2_with fail
      first | refine next_nil ?_ | refine next_go ?_
      refine reg_seg 10 3 3 (by kernel_rfl) (by decide) (by kernel_rfl) (by kernel_rfl) (fun _ _ _ _ _ h => h) ?_
      simp only [List.take_succ_cons, List.take_zero, List.drop_succ_cons, List.drop_zero]
      repeat (refine wpSteady_step (fun K hK => ?_); go_simp; first | (refine steady_of ?_ (fun W hW => ?_) (hK _ ?_); rotate_left; (obtain ⟨ca, cb⟩ := hW; go_simp; first | done | rfl); clear hK K) | (refine hK _ ?_; clear hK K))
      refine wpSteady_nil ?_
      refine reg_one 13 2 (by kernel_rfl) (by kernel_rfl) (unhide HQ W (unhide T).kw) ?_
      simp only [List.take_succ_cons, List.take_zero, List.drop_succ_cons, List.drop_zero]
      go_wp2_with fail
      have T' := hide ((unhide T).al (T := 49))
      have T := T'
      clear T'
      generalize W.alloc (.cells #[.int .i64 0, .int .i64 0, .int .i64 0, .int .i64 0] 49) = W' at *
      generalize W.heap.size = pi at *
      generalize W' = W at *
      first | refine next_nil ?_ | refine next_go ?_
      refine reg_said #[true, true, true, true, true, true, true, true, true, true, true, true, true, true, false, false] (by kernel_rfl) ?_
      exact hm pi W (unhide T)
    · skip
      simp only [List.take_succ_cons, List.take_zero, List.drop_succ_cons, List.drop_zero]
      go_wp2_with fail
      have T' := hide ((unhide T).al (T := 49))
      have T := T'
      clear T'
      generalize W.alloc (.cells #[.int .i64 0, .int .i64 0, .int .i64 0, .int .i64 0] 49) = W' at *
      generalize W.heap.size = pi at *
      generalize W' = W at *
      first | refine next_nil ?_ | refine next_go ?_
      refine reg_one 9 5 (by kernel_rfl) (by kernel_rfl) (unhide HQ W (unhide T).kw) ?_
      simp only [List.take_succ_cons, List.take_zero, List.drop_succ_cons, List.drop_zero]
      go_wp2_with fail
      refine (unhide ON W (unhide HI W (unhide T).kw)).mono ?_
      rintro e wn ⟨rfl, kn⟩
      have T' := hide ((unhide T).call kn)
      have T := T'
      clear kn T'
      generalize wn = W at *
      go_wp2_with fail
      first | refine next_nil ?_ | refine next_go ?_
      refine reg_seg 10 3 2 (by kernel_rfl) (by decide) (by kernel_rfl) (by kernel_rfl) (fun _ _ _ _ _ h => h) ?_
      simp only [List.take_succ_cons, List.take_zero, List.drop_succ_cons, List.drop_zero]
      repeat (refine wpSteady_step (fun K hK => ?_); go_simp; first | (refine steady_of ?_ (fun W hW => ?_) (hK _ ?_); rotate_left; (obtain ⟨ca, cb⟩ := hW; go_simp; first | done | rfl); clear hK K) | (refine hK _ ?_; clear hK K))
      refine wpSteady_nil ?_
      refine reg_said #[true, true, true, true, true, true, true, true, true, true, true, true, true, true, false, false] (by kernel_rfl) ?_
      exact hm pi W (unhide T)
  · intro pi W T0
    have T := hide T0
    clear T0
    obtain ⟨G5, lpi⟩ := (unhide T).bx rfl
    have H5 := hide G5
    obtain ⟨x0, x1, x2, x3⟩ := G5.at4
    have x4 := G5.2.2
    clear G5
    refine reg_one 14 1 (by kernel_rfl) (by kernel_rfl) (unhide HQ W (unhide T).kw) ?_
    simp only [List.take_succ_cons, List.take_zero, List.drop_succ_cons, List.drop_zero]
    go_wp2_with fail
    first | refine next_nil ?_ | refine next_go ?_
    have K2 := hide (below_4 (unhide T).kw lpi (.int .i64 11) (.int .i64 d) (.int .i64 s) (.int .i64 mm))
    have I2 := hide ((unhide H5).four (.int .i64 11) (.int .i64 d) (.int .i64 s) (.int .i64 mm))
    clear x0 x1 x2 x3 x4 H5 T
    generalize (((W.setCell ⟨pi, 0, none⟩ (.int .i64 11)).setCell ⟨pi, 1, none⟩ (.int .i64 d)).setCell ⟨pi, 2, none⟩ (.int .i64 s)).setCell ⟨pi, 3, none⟩ (.int .i64 mm) = w2 at *
    refine reg_seg 15 1 0 (by kernel_rfl) (by decide) (by kernel_rfl) (by kernel_rfl) (fun _ _ _ _ _ h => h) ?_
    simp only [List.take_succ_cons, List.take_zero, List.drop_succ_cons, List.drop_zero]
    repeat (refine wpSteady_step (fun K hK => ?_); go_simp; first | (refine steady_of ?_ (fun W hW => ?_) (hK _ ?_); rotate_left; (obtain ⟨ca, cb⟩ := hW; go_simp; first | done | rfl); clear hK K) | (refine hK _ ?_; clear hK K))
    refine wpSteady_nil ?_
    refine reg_end (by kernel_rfl) (unhide HQ w2 (unhide K2)) ?_
    have B2 := hide ((unhide HB).step (unhide K2))
    have sz2 := (unhide K2).size
    have lp2 := (unhide I2).1
    obtain ⟨-, c9, c10, c11, c12, c13, -, -, -, -, -, -, -⟩ := (unhide B2).at
    have hk0 : (k == 0) = false := beq_eq_false_iff_ne.2 (by omega)
    have hpc' := hpc
    unfold wd at hpc'
    have hwr2 := wrap_ok (x := m.pc + k) (by omega) (by omega)
    have tl2 := tm_lw (x := m.pc + k) (by omega)
    have hl2 := lw_b (m.pc + k)
    generalize hnx : lw (m.pc + k) = nx at *
    have HNX := hide hnx
    clear hnx
    have S3 := hide (SX.mk (w := w) ((unhide B2).new (.cells #[.bool m.c, .bool m.z, .bool m.n, .bool m.v] 25)) ((unhide I2).step (below_a _ _)) (Box.new w2 #[.bool m.c, .bool m.z, .bool m.n, .bool m.v] 25) lpi sz2 hp hqw)
    clear HB HQ HI ON
    go_wp2_with fail
    generalize w2.alloc (.cells #[.bool m.c, .bool m.z, .bool m.n, .bool m.v] 25) = w3 at *
    generalize w2.heap.size = pf at *
    clear B2 I2 K2 c9 c10 c11 c12 c13
    obtain ⟨y0, y1, y2, y3⟩ := (unhide S3).I.at4
    obtain ⟨z0, z1, z2, z3⟩ := (unhide S3).F.at4
    have cd := (unhide S3).bx.reg hd hd'
    have cs := (unhide S3).bx.reg hs hs'
    have fz := (unhide S3).bx.flat
    have hd8 : d < 8 := by omega
    have hs8 : s < 8 := by omega
    have hp3 := (unhide S3).bx.pw
    go_quiet (fail)
    have S4 := hide ((unhide S3).step (show Below w3.heap.size w3 (w3.drewN nq) from ⟨rfl, rfl, rfl, Nat.le_refl _, fun _ _ => rfl⟩))
    clear S3 y0 y1 y2 y3 z0 z1 z2 z3 cd cs fz hp3
    generalize w3.drewN nq = w4 at *
    obtain ⟨y0, y1, y2, y3⟩ := (unhide S4).I.at4
    obtain ⟨z0, z1, z2, z3⟩ := (unhide S4).F.at4
    have cd := (unhide S4).bx.reg hd hd'
    have cs := (unhide S4).bx.reg hs hs'
    have fz := (unhide S4).bx.flat
    have hp4 := (unhide S4).bx.pw
    go_wp2_with fail
    refine reg_start (fun W => W.cell? ⟨pi, 0, none⟩ = some (.int .i64 11) ∧ W.cell? ⟨pi, 1, none⟩ = some (.int .i64 d)) (by kernel_rfl) ?_
    have S5 := hide ((unhide S4).step (Below.refl _ _).drew)
    clear S4 cd cs fz hp4 y0 y1 y2 y3 z0 z1 z2 z3
    generalize w4.drew = W at *
    refine reg_seg 0 8 7 (by kernel_rfl) (by decide) (by kernel_rfl) (by kernel_rfl) (fun _ _ _ _ _ h => h) ?_
    simp only [List.take_succ_cons, List.take_zero, List.drop_succ_cons, List.drop_zero]
    repeat (refine wpSteady_step (fun K hK => ?_); go_simp; first | (refine steady_of ?_ (fun W hW => ?_) (hK _ ?_); rotate_left; (obtain ⟨hc9, hc8⟩ := hW; go_simp; first | done | rfl); clear hK K) | (refine hK _ ?_; clear hK K))
    refine wpSteady_nil ?_
    refine reg_seg 10 3 4 (by kernel_rfl) (by decide) (by kernel_rfl) (by kernel_rfl) (fun _ _ _ _ _ h => h) ?_
    simp only [List.take_succ_cons, List.take_zero, List.drop_succ_cons, List.drop_zero]
    repeat (refine wpSteady_step (fun K hK => ?_); go_simp; first | (refine steady_of ?_ (fun W hW => ?_) (hK _ ?_); rotate_left; (obtain ⟨hc9, hc8⟩ := hW; go_simp; first | done | rfl); clear hK K) | (refine hK _ ?_; clear hK K))
    refine wpSteady_nil ?_
    refine reg_one 8 3 (by kernel_rfl) (by kernel_rfl) ⟨(unhide S5).I.at4.1, (unhide S5).I.at4.2.1⟩ ?_
    simp only [List.take_succ_cons, List.take_zero, List.drop_succ_cons, List.drop_zero]
    go_wp2_with fail
    refine (unhide SM W).mono ?_
    rintro e w5 ⟨rfl, k5⟩
    have S6 := hide ((unhide S5).step k5)
    clear k5 S5
    go_wp2_with fail
    first | refine next_nil ?_ | refine next_go ?_
    refine reg_one 9 2 (by kernel_rfl) (by kernel_rfl) ⟨(unhide S6).I.at4.1, (unhide S6).I.at4.2.1⟩ ?_
    simp only [List.take_succ_cons, List.take_zero, List.drop_succ_cons, List.drop_zero]
    go_wp2_with fail
    refine (plain3_any (unhide S6).bx r false hr).mono ?_
    rintro e w6 ⟨rfl, b6, k6⟩
    have S7 := hide ((unhide S6).kept k6 b6)
    clear b6 k6 S6
    go_wp2_with fail
    first | refine next_nil ?_ | refine next_go ?_
    refine reg_seg 13 1 1 (by kernel_rfl) (by decide) (by kernel_rfl) (by kernel_rfl) (fun _ _ _ _ _ h => h) ?_
    simp only [List.take_succ_cons, List.take_zero, List.drop_succ_cons, List.drop_zero]
    repeat (refine wpSteady_step (fun K hK => ?_); go_simp; first | (refine steady_of ?_ (fun W hW => ?_) (hK _ ?_); rotate_left; (obtain ⟨hc9, hc8⟩ := hW; go_simp; first | done | rfl); clear hK K) | (refine hK _ ?_; clear hK K))
    refine wpSteady_nil ?_
    have cd := (unhide S7).bx.reg hd hd'
    have fz := (unhide S7).bx.flat
    have hp6 := (unhide S7).bx.pw
    refine reg_one 14 0 (by kernel_rfl) (by kernel_rfl) ⟨(unhide S7).I.at4.1, (unhide S7).I.at4.2.1⟩ ?_
    simp only [List.take_succ_cons, List.take_zero, List.drop_succ_cons, List.drop_zero]
    go_wp2_with fail
    first | refine next_nil ?_ | refine next_go ?_
    have S8 := hide ((unhide S7).kept ((Kept.refl w6 p q).set (b := p) (j := 1 + d.toNat) (x := .int .i64 r) (.inl rfl)) ((unhide S7).bx.sreg d r hd hd' hr))
    clear cd fz hp6 S7
    generalize w6.setCell ⟨p, 1 + d.toNat, none⟩ (.int .i64 r) = w7 at *
    refine reg_end (by kernel_rfl) ⟨(unhide S8).I.at4.1, (unhide S8).I.at4.2.1⟩ ?_
    have B5 := hide (unhide S8).bx
    clear S8
    have c13 := (unhide B5).at.2.2.2.2.2.1
    have fz5 := (unhide B5).flat
    have hp5 := (unhide B5).pw
    have B6 := hide ((unhide B5).put (m' := ({ (Ma.setR { m with c := false, z := r == 0, n := r / 32768 == 1, v := false } d r : Ma) with pc := nx } : Ma)) 13 (.int .i64 nx) (by decide) rfl rfl rfl { (unhide B5).fine with pc := hl2 })
    go_wp2_with fail
    go_ret
    unfold SRet
    refine ⟨_, _, rfl, ?_, by first | exact unhide B6 | (rw [unhide HNX, unhide HE]; exact unhide B6)⟩
    omega
set_option maxRecDepth 100000 in
set_option maxHeartbeats 4000000 in
theorem sx30f {w0 w : World} {p q n : Nat} {vc vm vi vo : Value} {m : Ma} {ms xs bs : List Int} (h : BX w0 w p q n vc vm vi vo m ms xs bs) (d s mm k : Int) (R : oneA xs m.pc = (⟨30, d, s, mm⟩, k)) (hd : 0 ≤ d) (hd' : d ≤ 7) (hs : 0 ≤ s) (hs' : s ≤ 7) (hm : wd mm) (hk1 : 1 ≤ k) (hk2 : k ≤ 2) (hn : n < 2000000) (hfull : m.out.length = 65536) :
    Calls Try.prog 31 #[.pointer (some ⟨p, 0, none⟩)] w fun e w' => SRet w0 p q n vc vm vi ms xs bs 5 (m) e w' := by
  have HU := hide hfull
  clear hfull
  obtain ⟨ao, cap, rfl⟩ := own_slc h.own
  have ON := hide (fun W hW => rOne_any xs vc m.pc W hW)
  rw [R] at ON
  unfold agg at ON
  have HI := hide (fun (W : World) (k : Below w.heap.size w W) => h.code.step (h.low.trans (k.mono h.low.size)))
  have HB := hide h
  have HQ := hide (fun (W : World) (k : Below w.heap.size w W) => (show W.cell? ⟨p, 0, none⟩ = some vc ∧ W.cell? ⟨p, 13, none⟩ = some (.int .i64 m.pc) from ⟨cell_keep k h.pw h.at.1, cell_keep k h.pw h.at.2.2.2.2.2.1⟩))
  have hp := h.pw
  have hqw := h.qw
  have hpc := h.fine.pc
  have hrd := h.fine.reg hd hd'
  have hrs := h.fine.reg hs hs'
  have hc0 := h.at.1
  have hc13 := h.at.2.2.2.2.2.1
  clear h R
  go_enter Try.func31, Try.ntmps31
  go_upto_region 1 with fail
  refine reg_start (fun W => W.cell? ⟨p, 0, none⟩ = some vc ∧ W.cell? ⟨p, 13, none⟩ = some (.int .i64 m.pc)) (by kernel_rfl) ?_
  have T := hide (OneS.start w)
  clear hc0 hc13
  generalize w.drew = W at *
  refine reg_seg 0 9 7 (by kernel_rfl) (by decide) (by kernel_rfl) (by kernel_rfl) (fun _ _ _ _ _ h => h) ?_
  simp only [List.take_succ_cons, List.take_zero, List.drop_succ_cons, List.drop_zero]
  repeat (refine wpSteady_step (fun K hK => ?_); go_simp; first | (refine steady_of ?_ (fun W hW => ?_) (hK _ ?_); rotate_left; (obtain ⟨ca, cb⟩ := hW; go_simp; first | done | rfl); clear hK K) | (refine hK _ ?_; clear hK K))
  refine wpSteady_nil ?_
  apply reg_meet1 (R := fun pi W => OneS w true pi W)
  · intro hm
    refine reg_two 9 13 6 (by kernel_rfl) (by kernel_rfl) (unhide HQ W (unhide T).kw) ?_ ?_
    · skip
      simp only [List.take_succ_cons, List.take_zero, List.drop_succ_cons, List.drop_zero]
      go_wp2_with fail
      refine (unhide ON W (unhide HI W (unhide T).kw)).mono ?_
      rintro e wn ⟨rfl, kn⟩
      have T' := hide ((unhide T).call kn)
      have T := T'
      clear kn T'
      generalize wn = W at *
      go_wp2_with fail
      first | refine next_nil ?_ | refine next_go ?_
      refine reg_seg 10 3 3 (by kernel_rfl) (by decide) (by kernel_rfl) (by kernel_rfl) (fun _ _ _ _ _ h => h) ?_
      simp only [List.take_succ_cons, List.take_zero, List.drop_succ_cons, List.drop_zero]
      repeat (refine wpSteady_step (fun K hK => ?_); go_simp; first | (refine steady_of ?_ (fun W hW => ?_) (hK _ ?_); rotate_left; (obtain ⟨ca, cb⟩ := hW; go_simp; first | done | rfl); clear hK K) | (refine hK _ ?_; clear hK K))
      refine wpSteady_nil ?_
      refine reg_one 13 2 (by kernel_rfl) (by kernel_rfl) (unhide HQ W (unhide T).kw) ?_
      simp only [List.take_succ_cons, List.take_zero, List.drop_succ_cons, List.drop_zero]
      go_wp2_with fail
      have T' := hide ((unhide T).al (T := 49))
      have T := T'
      clear T'
      generalize W.alloc (.cells #[.int .i64 0, .int .i64 0, .int .i64 0, .int .i64 0] 49) = W' at *
      generalize W.heap.size = pi at *
      generalize W' = W at *
      first | refine next_nil ?_ | refine next_go ?_
      refine reg_said #[true, true, true, true, true, true, true, true, true, true, true, true, true, true, false, false] (by kernel_rfl) ?_
      exact hm pi W (unhide T)
    · skip
      simp only [List.take_succ_cons, List.take_zero, List.drop_succ_cons, List.drop_zero]
      go_wp2_with fail
      have T' := hide ((unhide T).al (T := 49))
      have T := T'
      clear T'
      generalize W.alloc (.cells #[.int .i64 0, .int .i64 0, .int .i64 0, .int .i64 0] 49) = W' at *
      generalize W.heap.size = pi at *
      generalize W' = W at *
      first | refine next_nil ?_ | refine next_go ?_
      refine reg_one 9 5 (by kernel_rfl) (by kernel_rfl) (unhide HQ W (unhide T).kw) ?_
      simp only [List.take_succ_cons, List.take_zero, List.drop_succ_cons, List.drop_zero]
      go_wp2_with fail
      refine (unhide ON W (unhide HI W (unhide T).kw)).mono ?_
      rintro e wn ⟨rfl, kn⟩
      have T' := hide ((unhide T).call kn)
      have T := T'
      clear kn T'
      generalize wn = W at *
      go_wp2_with fail
      first | refine next_nil ?_ | refine next_go ?_
      refine reg_seg 10 3 2 (by kernel_rfl) (by decide) (by kernel_rfl) (by kernel_rfl) (fun _ _ _ _ _ h => h) ?_
      simp only [List.take_succ_cons, List.take_zero, List.drop_succ_cons, List.drop_zero]
      repeat (refine wpSteady_step (fun K hK => ?_); go_simp; first | (refine steady_of ?_ (fun W hW => ?_) (hK _ ?_); rotate_left; (obtain ⟨ca, cb⟩ := hW; go_simp; first | done | rfl); clear hK K) | (refine hK _ ?_; clear hK K))
      refine wpSteady_nil ?_
      refine reg_said #[true, true, true, true, true, true, true, true, true, true, true, true, true, true, false, false] (by kernel_rfl) ?_
      exact hm pi W (unhide T)
  · intro pi W T0
    have T := hide T0
    clear T0
    obtain ⟨G5, lpi⟩ := (unhide T).bx rfl
    have H5 := hide G5
    obtain ⟨x0, x1, x2, x3⟩ := G5.at4
    have x4 := G5.2.2
    clear G5
    refine reg_one 14 1 (by kernel_rfl) (by kernel_rfl) (unhide HQ W (unhide T).kw) ?_
    simp only [List.take_succ_cons, List.take_zero, List.drop_succ_cons, List.drop_zero]
    go_wp2_with fail
    first | refine next_nil ?_ | refine next_go ?_
    have K2 := hide (below_4 (unhide T).kw lpi (.int .i64 30) (.int .i64 d) (.int .i64 s) (.int .i64 mm))
    have I2 := hide ((unhide H5).four (.int .i64 30) (.int .i64 d) (.int .i64 s) (.int .i64 mm))
    clear x0 x1 x2 x3 x4 H5 T
    generalize (((W.setCell ⟨pi, 0, none⟩ (.int .i64 30)).setCell ⟨pi, 1, none⟩ (.int .i64 d)).setCell ⟨pi, 2, none⟩ (.int .i64 s)).setCell ⟨pi, 3, none⟩ (.int .i64 mm) = w2 at *
    refine reg_seg 15 1 0 (by kernel_rfl) (by decide) (by kernel_rfl) (by kernel_rfl) (fun _ _ _ _ _ h => h) ?_
    simp only [List.take_succ_cons, List.take_zero, List.drop_succ_cons, List.drop_zero]
    repeat (refine wpSteady_step (fun K hK => ?_); go_simp; first | (refine steady_of ?_ (fun W hW => ?_) (hK _ ?_); rotate_left; (obtain ⟨ca, cb⟩ := hW; go_simp; first | done | rfl); clear hK K) | (refine hK _ ?_; clear hK K))
    refine wpSteady_nil ?_
    refine reg_end (by kernel_rfl) (unhide HQ w2 (unhide K2)) ?_
    have B2 := hide ((unhide HB).step (unhide K2))
    have sz2 := (unhide K2).size
    have lp2 := (unhide I2).1
    obtain ⟨-, c9, c10, c11, c12, c13, -, -, -, -, -, -, -⟩ := (unhide B2).at
    have hk0 : (k == 0) = false := beq_eq_false_iff_ne.2 (by omega)
    have hpc' := hpc
    unfold wd at hpc'
    have hwr2 := wrap_ok (x := m.pc + k) (by omega) (by omega)
    have tl2 := tm_lw (x := m.pc + k) (by omega)
    have hl2 := lw_b (m.pc + k)
    generalize hnx : lw (m.pc + k) = nx at *
    have HNX := hide hnx
    clear hnx
    have S3 := hide (SX.mk (w := w) ((unhide B2).new (.cells #[.bool m.c, .bool m.z, .bool m.n, .bool m.v] 25)) ((unhide I2).step (below_a _ _)) (Box.new w2 #[.bool m.c, .bool m.z, .bool m.n, .bool m.v] 25) lpi sz2 hp hqw)
    clear HB HQ HI ON
    go_wp2_with fail
    generalize w2.alloc (.cells #[.bool m.c, .bool m.z, .bool m.n, .bool m.v] 25) = w3 at *
    generalize w2.heap.size = pf at *
    clear B2 I2 K2 c9 c10 c11 c12 c13
    obtain ⟨y0, y1, y2, y3⟩ := (unhide S3).I.at4
    obtain ⟨z0, z1, z2, z3⟩ := (unhide S3).F.at4
    have cd := (unhide S3).bx.reg hd hd'
    have cs := (unhide S3).bx.reg hs hs'
    have fz := (unhide S3).bx.flat
    have hd8 : d < 8 := by omega
    have hs8 : s < 8 := by omega
    have hp3 := (unhide S3).bx.pw
    go_quiet (fail)
    have S4 := hide ((unhide S3).step (show Below w3.heap.size w3 (w3.drewN nq) from ⟨rfl, rfl, rfl, Nat.le_refl _, fun _ _ => rfl⟩))
    clear S3 y0 y1 y2 y3 z0 z1 z2 z3 cd cs fz hp3
    generalize w3.drewN nq = w4 at *
    obtain ⟨y0, y1, y2, y3⟩ := (unhide S4).I.at4
    obtain ⟨z0, z1, z2, z3⟩ := (unhide S4).F.at4
    have cd := (unhide S4).bx.reg hd hd'
    have cs := (unhide S4).bx.reg hs hs'
    have fz := (unhide S4).bx.flat
    have hp4 := (unhide S4).bx.pw
    have c18 := (unhide S4).bx.at.2.2.2.2.2.2.2.2.2.2.1
    have he : ((m.out.length : Int) == 65536) = true := by rw [show m.out.length = 65536 from unhide HU]; rfl
    go_wp2_with fail
    go_ret
    unfold SRet
    refine ⟨_, _, rfl, ?_, (unhide S4).bx⟩
    omega
set_option maxRecDepth 100000 in
set_option maxHeartbeats 4000000 in
theorem sx30n {w0 w : World} {p q n : Nat} {vc vm vi vo : Value} {m : Ma} {ms xs bs : List Int} (h : BX w0 w p q n vc vm vi vo m ms xs bs) (d s mm k : Int) (R : oneA xs m.pc = (⟨30, d, s, mm⟩, k)) (hd : 0 ≤ d) (hd' : d ≤ 7) (hs : 0 ≤ s) (hs' : s ≤ 7) (hm : wd mm) (hk1 : 1 ≤ k) (hk2 : k ≤ 2) (hn : n < 2000000) (hfull : m.out.length < 65536) :
    Calls Try.prog 31 #[.pointer (some ⟨p, 0, none⟩)] w fun e w' => SRet w0 p q n vc vm vi ms xs bs 0 ({ m with out := m.out ++ [m.reg s % 256], pc := lw (m.pc + k) }) e w' := by
  have HU := hide hfull
  clear hfull
  obtain ⟨ao, cap, rfl⟩ := own_slc h.own
  obtain ⟨i0, hi, hz0, hz1, hz2⟩ := info_parts Try.infoByte
  have ON := hide (fun W hW => rOne_any xs vc m.pc W hW)
  rw [R] at ON
  unfold agg at ON
  have HI := hide (fun (W : World) (k : Below w.heap.size w W) => h.code.step (h.low.trans (k.mono h.low.size)))
  have HB := hide h
  have HQ := hide (fun (W : World) (k : Below w.heap.size w W) => (show W.cell? ⟨p, 0, none⟩ = some vc ∧ W.cell? ⟨p, 13, none⟩ = some (.int .i64 m.pc) from ⟨cell_keep k h.pw h.at.1, cell_keep k h.pw h.at.2.2.2.2.2.1⟩))
  have hp := h.pw
  have hqw := h.qw
  have hpc := h.fine.pc
  have hrd := h.fine.reg hd hd'
  have hrs := h.fine.reg hs hs'
  have hc0 := h.at.1
  have hc13 := h.at.2.2.2.2.2.1
  clear h R
  go_enter Try.func31, Try.ntmps31
  go_upto_region 1 with fail
  refine reg_start (fun W => W.cell? ⟨p, 0, none⟩ = some vc ∧ W.cell? ⟨p, 13, none⟩ = some (.int .i64 m.pc)) (by kernel_rfl) ?_
  have T := hide (OneS.start w)
  clear hc0 hc13
  generalize w.drew = W at *
  refine reg_seg 0 9 7 (by kernel_rfl) (by decide) (by kernel_rfl) (by kernel_rfl) (fun _ _ _ _ _ h => h) ?_
  simp only [List.take_succ_cons, List.take_zero, List.drop_succ_cons, List.drop_zero]
  repeat (refine wpSteady_step (fun K hK => ?_); go_simp; first | (refine steady_of ?_ (fun W hW => ?_) (hK _ ?_); rotate_left; (obtain ⟨ca, cb⟩ := hW; go_simp; first | done | rfl); clear hK K) | (refine hK _ ?_; clear hK K))
  refine wpSteady_nil ?_
  apply reg_meet1 (R := fun pi W => OneS w true pi W)
  · intro hm
    refine reg_two 9 13 6 (by kernel_rfl) (by kernel_rfl) (unhide HQ W (unhide T).kw) ?_ ?_
    · skip
      simp only [List.take_succ_cons, List.take_zero, List.drop_succ_cons, List.drop_zero]
      go_wp2_with fail
      refine (unhide ON W (unhide HI W (unhide T).kw)).mono ?_
      rintro e wn ⟨rfl, kn⟩
      have T' := hide ((unhide T).call kn)
      have T := T'
      clear kn T'
      generalize wn = W at *
      go_wp2_with fail
      first | refine next_nil ?_ | refine next_go ?_
      refine reg_seg 10 3 3 (by kernel_rfl) (by decide) (by kernel_rfl) (by kernel_rfl) (fun _ _ _ _ _ h => h) ?_
      simp only [List.take_succ_cons, List.take_zero, List.drop_succ_cons, List.drop_zero]
      repeat (refine wpSteady_step (fun K hK => ?_); go_simp; first | (refine steady_of ?_ (fun W hW => ?_) (hK _ ?_); rotate_left; (obtain ⟨ca, cb⟩ := hW; go_simp; first | done | rfl); clear hK K) | (refine hK _ ?_; clear hK K))
      refine wpSteady_nil ?_
      refine reg_one 13 2 (by kernel_rfl) (by kernel_rfl) (unhide HQ W (unhide T).kw) ?_
      simp only [List.take_succ_cons, List.take_zero, List.drop_succ_cons, List.drop_zero]
      go_wp2_with fail
      have T' := hide ((unhide T).al (T := 49))
      have T := T'
      clear T'
      generalize W.alloc (.cells #[.int .i64 0, .int .i64 0, .int .i64 0, .int .i64 0] 49) = W' at *
      generalize W.heap.size = pi at *
      generalize W' = W at *
      first | refine next_nil ?_ | refine next_go ?_
      refine reg_said #[true, true, true, true, true, true, true, true, true, true, true, true, true, true, false, false] (by kernel_rfl) ?_
      exact hm pi W (unhide T)
    · skip
      simp only [List.take_succ_cons, List.take_zero, List.drop_succ_cons, List.drop_zero]
      go_wp2_with fail
      have T' := hide ((unhide T).al (T := 49))
      have T := T'
      clear T'
      generalize W.alloc (.cells #[.int .i64 0, .int .i64 0, .int .i64 0, .int .i64 0] 49) = W' at *
      generalize W.heap.size = pi at *
      generalize W' = W at *
      first | refine next_nil ?_ | refine next_go ?_
      refine reg_one 9 5 (by kernel_rfl) (by kernel_rfl) (unhide HQ W (unhide T).kw) ?_
      simp only [List.take_succ_cons, List.take_zero, List.drop_succ_cons, List.drop_zero]
      go_wp2_with fail
      refine (unhide ON W (unhide HI W (unhide T).kw)).mono ?_
      rintro e wn ⟨rfl, kn⟩
      have T' := hide ((unhide T).call kn)
      have T := T'
      clear kn T'
      generalize wn = W at *
      go_wp2_with fail
      first | refine next_nil ?_ | refine next_go ?_
      refine reg_seg 10 3 2 (by kernel_rfl) (by decide) (by kernel_rfl) (by kernel_rfl) (fun _ _ _ _ _ h => h) ?_
      simp only [List.take_succ_cons, List.take_zero, List.drop_succ_cons, List.drop_zero]
      repeat (refine wpSteady_step (fun K hK => ?_); go_simp; first | (refine steady_of ?_ (fun W hW => ?_) (hK _ ?_); rotate_left; (obtain ⟨ca, cb⟩ := hW; go_simp; first | done | rfl); clear hK K) | (refine hK _ ?_; clear hK K))
      refine wpSteady_nil ?_
      refine reg_said #[true, true, true, true, true, true, true, true, true, true, true, true, true, true, false, false] (by kernel_rfl) ?_
      exact hm pi W (unhide T)
  · intro pi W T0
    have T := hide T0
    clear T0
    obtain ⟨G5, lpi⟩ := (unhide T).bx rfl
    have H5 := hide G5
    obtain ⟨x0, x1, x2, x3⟩ := G5.at4
    have x4 := G5.2.2
    clear G5
    refine reg_one 14 1 (by kernel_rfl) (by kernel_rfl) (unhide HQ W (unhide T).kw) ?_
    simp only [List.take_succ_cons, List.take_zero, List.drop_succ_cons, List.drop_zero]
    go_wp2_with fail
    first | refine next_nil ?_ | refine next_go ?_
    have K2 := hide (below_4 (unhide T).kw lpi (.int .i64 30) (.int .i64 d) (.int .i64 s) (.int .i64 mm))
    have I2 := hide ((unhide H5).four (.int .i64 30) (.int .i64 d) (.int .i64 s) (.int .i64 mm))
    clear x0 x1 x2 x3 x4 H5 T
    generalize (((W.setCell ⟨pi, 0, none⟩ (.int .i64 30)).setCell ⟨pi, 1, none⟩ (.int .i64 d)).setCell ⟨pi, 2, none⟩ (.int .i64 s)).setCell ⟨pi, 3, none⟩ (.int .i64 mm) = w2 at *
    refine reg_seg 15 1 0 (by kernel_rfl) (by decide) (by kernel_rfl) (by kernel_rfl) (fun _ _ _ _ _ h => h) ?_
    simp only [List.take_succ_cons, List.take_zero, List.drop_succ_cons, List.drop_zero]
    repeat (refine wpSteady_step (fun K hK => ?_); go_simp; first | (refine steady_of ?_ (fun W hW => ?_) (hK _ ?_); rotate_left; (obtain ⟨ca, cb⟩ := hW; go_simp; first | done | rfl); clear hK K) | (refine hK _ ?_; clear hK K))
    refine wpSteady_nil ?_
    refine reg_end (by kernel_rfl) (unhide HQ w2 (unhide K2)) ?_
    have B2 := hide ((unhide HB).step (unhide K2))
    have sz2 := (unhide K2).size
    have lp2 := (unhide I2).1
    obtain ⟨-, c9, c10, c11, c12, c13, -, -, -, -, -, -, -⟩ := (unhide B2).at
    have hk0 : (k == 0) = false := beq_eq_false_iff_ne.2 (by omega)
    have hpc' := hpc
    unfold wd at hpc'
    have hwr2 := wrap_ok (x := m.pc + k) (by omega) (by omega)
    have tl2 := tm_lw (x := m.pc + k) (by omega)
    have hl2 := lw_b (m.pc + k)
    generalize hnx : lw (m.pc + k) = nx at *
    have HNX := hide hnx
    clear hnx
    have S3 := hide (SX.mk (w := w) ((unhide B2).new (.cells #[.bool m.c, .bool m.z, .bool m.n, .bool m.v] 25)) ((unhide I2).step (below_a _ _)) (Box.new w2 #[.bool m.c, .bool m.z, .bool m.n, .bool m.v] 25) lpi sz2 hp hqw)
    clear HB HQ HI ON
    go_wp2_with fail
    generalize w2.alloc (.cells #[.bool m.c, .bool m.z, .bool m.n, .bool m.v] 25) = w3 at *
    generalize w2.heap.size = pf at *
    clear B2 I2 K2 c9 c10 c11 c12 c13
    obtain ⟨y0, y1, y2, y3⟩ := (unhide S3).I.at4
    obtain ⟨z0, z1, z2, z3⟩ := (unhide S3).F.at4
    have cd := (unhide S3).bx.reg hd hd'
    have cs := (unhide S3).bx.reg hs hs'
    have fz := (unhide S3).bx.flat
    have hd8 : d < 8 := by omega
    have hs8 : s < 8 := by omega
    have hp3 := (unhide S3).bx.pw
    go_quiet (fail)
    have S4 := hide ((unhide S3).step (show Below w3.heap.size w3 (w3.drewN nq) from ⟨rfl, rfl, rfl, Nat.le_refl _, fun _ _ => rfl⟩))
    clear S3 y0 y1 y2 y3 z0 z1 z2 z3 cd cs fz hp3
    generalize w3.drewN nq = w4 at *
    obtain ⟨y0, y1, y2, y3⟩ := (unhide S4).I.at4
    obtain ⟨z0, z1, z2, z3⟩ := (unhide S4).F.at4
    have cd := (unhide S4).bx.reg hd hd'
    have cs := (unhide S4).bx.reg hs hs'
    have fz := (unhide S4).bx.flat
    have hp4 := (unhide S4).bx.pw
    have c18 := (unhide S4).bx.at.2.2.2.2.2.2.2.2.2.2.1
    have hln : m.out.length < 65536 := unhide HU
    have he : ((m.out.length : Int) == 65536) = false := beq_eq_false_iff_ne.2 (by omega)
    have HO := hide (unhide S4).bx.own
    have HP := hide (unhide S4).bx.ho
    have hB := (unhide S4).bx.low.size
    unfold wd at hrs
    have t256 : (m.reg s).tmod 256 = m.reg s % 256 := Int.tmod_eq_emod_of_nonneg hrs.1
    have hx : 0 ≤ m.reg s % 256 ∧ m.reg s % 256 ≤ 255 := by omega
    generalize hyy : m.reg s % 256 = y at *
    have HYY := hide hyy
    clear hyy
    have h8 : IntKind.u8.wrap y = y := by rw [u8_wrap]; omega
    obtain ⟨hx0, hx1⟩ := hx
    clear cd cs z0 z1 z2 z3
    go_wp2_with (at_builtin; (refine wpList_append_own_at _ rfl (.tmp 425) (.tmp 429) 28 rfl w0.heap.size 5 i0 (.int .u8 0) 1 1 Try.underlying28 hi hz0 hz1 hz2 rfl (by decide) (.slice ao m.out.length cap) m.out.length (m.out.map byte1) rfl ((unhide HO).alloc _) ⟨_, 0, none⟩ 1 1 [.int .u8 y] rfl rfl (one_c1 _ _ _) (one_c2 _ _) (by unfold maxLen; omega) (by omega) (by simp; omega) ?_; intro v3 w5 own3 grow3 _ hat; obtain ⟨a3, c3, rfl⟩ := own_slc own3; have MG := hide (((unhide S4).bx.new _).grow own3 grow3 hat ⟨hx0, hx1⟩ (by omega)); have B6 := hide ((unhide MG).put (m' := ({ m with out := m.out ++ [y], pc := nx } : Ma)) 13 (.int .i64 nx) (by decide) rfl rfl rfl { (unhide MG).fine with pc := hl2 }); have gb := grow3.block p (by simp; omega) (fun e => ((unhide HP) p e.symm).1 rfl); have fp : ∀ j, w5.frozen? ⟨p, j, none⟩ = false := (fun j => by rw [World.frozen?_of_block (a := ⟨p, j, none⟩) gb]; exact ((unhide S4).bx.new _).flat j); have cp : w5.cell? ⟨p, 18, none⟩ = some (.slice ao m.out.length cap) := (by rw [World.cell?_of_block (a := ⟨p, 18, none⟩) gb]; exact ((unhide S4).bx.new _).at.2.2.2.2.2.2.2.2.2.2.1); have cq : w5.cell? ⟨p, 13, none⟩ = some (.int .i64 m.pc) := (by rw [World.cell?_of_block (a := ⟨p, 13, none⟩) gb]; exact ((unhide S4).bx.new _).at.2.2.2.2.2.1); clear own3 grow3 hat gb fz c18))
    go_ret
    unfold SRet
    refine ⟨_, _, rfl, ?_, by rw [unhide HNX, unhide HYY]; exact unhide B6⟩
    omega
set_option maxRecDepth 100000 in
set_option maxHeartbeats 4000000 in
theorem sx31e {w0 w : World} {p q n : Nat} {vc vm vi vo : Value} {m : Ma} {ms xs bs : List Int} (h : BX w0 w p q n vc vm vi vo m ms xs bs) (d s mm k : Int) (R : oneA xs m.pc = (⟨31, d, s, mm⟩, k)) (hd : 0 ≤ d) (hd' : d ≤ 7) (hs : 0 ≤ s) (hs' : s ≤ 7) (hm : wd mm) (hk1 : 1 ≤ k) (hk2 : k ≤ 2) (hn : n < 2000000) (hend : m.rd = bs.length) :
    Calls Try.prog 31 #[.pointer (some ⟨p, 0, none⟩)] w fun e w' => SRet w0 p q n vc vm vi ms xs bs 0 ({ Ma.setR { m with c := true } d 0 with pc := lw (m.pc + k) }) e w' := by
  have HU := hide hend
  clear hend
  obtain ⟨ai, ci, rfl, -, -⟩ := Byts.at h.inp
  have ON := hide (fun W hW => rOne_any xs vc m.pc W hW)
  rw [R] at ON
  unfold agg at ON
  have HI := hide (fun (W : World) (k : Below w.heap.size w W) => h.code.step (h.low.trans (k.mono h.low.size)))
  have HB := hide h
  have HQ := hide (fun (W : World) (k : Below w.heap.size w W) => (show W.cell? ⟨p, 0, none⟩ = some vc ∧ W.cell? ⟨p, 13, none⟩ = some (.int .i64 m.pc) from ⟨cell_keep k h.pw h.at.1, cell_keep k h.pw h.at.2.2.2.2.2.1⟩))
  have hp := h.pw
  have hqw := h.qw
  have hpc := h.fine.pc
  have hrd := h.fine.reg hd hd'
  have hrs := h.fine.reg hs hs'
  have hc0 := h.at.1
  have hc13 := h.at.2.2.2.2.2.1
  clear h R
  go_enter Try.func31, Try.ntmps31
  go_upto_region 1 with fail
  refine reg_start (fun W => W.cell? ⟨p, 0, none⟩ = some vc ∧ W.cell? ⟨p, 13, none⟩ = some (.int .i64 m.pc)) (by kernel_rfl) ?_
  have T := hide (OneS.start w)
  clear hc0 hc13
  generalize w.drew = W at *
  refine reg_seg 0 9 7 (by kernel_rfl) (by decide) (by kernel_rfl) (by kernel_rfl) (fun _ _ _ _ _ h => h) ?_
  simp only [List.take_succ_cons, List.take_zero, List.drop_succ_cons, List.drop_zero]
  repeat (refine wpSteady_step (fun K hK => ?_); go_simp; first | (refine steady_of ?_ (fun W hW => ?_) (hK _ ?_); rotate_left; (obtain ⟨ca, cb⟩ := hW; go_simp; first | done | rfl); clear hK K) | (refine hK _ ?_; clear hK K))
  refine wpSteady_nil ?_
  apply reg_meet1 (R := fun pi W => OneS w true pi W)
  · intro hm
    refine reg_two 9 13 6 (by kernel_rfl) (by kernel_rfl) (unhide HQ W (unhide T).kw) ?_ ?_
    · skip
      simp only [List.take_succ_cons, List.take_zero, List.drop_succ_cons, List.drop_zero]
      go_wp2_with fail
      refine (unhide ON W (unhide HI W (unhide T).kw)).mono ?_
      rintro e wn ⟨rfl, kn⟩
      have T' := hide ((unhide T).call kn)
      have T := T'
      clear kn T'
      generalize wn = W at *
      go_wp2_with fail
      first | refine next_nil ?_ | refine next_go ?_
      refine reg_seg 10 3 3 (by kernel_rfl) (by decide) (by kernel_rfl) (by kernel_rfl) (fun _ _ _ _ _ h => h) ?_
      simp only [List.take_succ_cons, List.take_zero, List.drop_succ_cons, List.drop_zero]
      repeat (refine wpSteady_step (fun K hK => ?_); go_simp; first | (refine steady_of ?_ (fun W hW => ?_) (hK _ ?_); rotate_left; (obtain ⟨ca, cb⟩ := hW; go_simp; first | done | rfl); clear hK K) | (refine hK _ ?_; clear hK K))
      refine wpSteady_nil ?_
      refine reg_one 13 2 (by kernel_rfl) (by kernel_rfl) (unhide HQ W (unhide T).kw) ?_
      simp only [List.take_succ_cons, List.take_zero, List.drop_succ_cons, List.drop_zero]
      go_wp2_with fail
      have T' := hide ((unhide T).al (T := 49))
      have T := T'
      clear T'
      generalize W.alloc (.cells #[.int .i64 0, .int .i64 0, .int .i64 0, .int .i64 0] 49) = W' at *
      generalize W.heap.size = pi at *
      generalize W' = W at *
      first | refine next_nil ?_ | refine next_go ?_
      refine reg_said #[true, true, true, true, true, true, true, true, true, true, true, true, true, true, false, false] (by kernel_rfl) ?_
      exact hm pi W (unhide T)
    · skip
      simp only [List.take_succ_cons, List.take_zero, List.drop_succ_cons, List.drop_zero]
      go_wp2_with fail
      have T' := hide ((unhide T).al (T := 49))
      have T := T'
      clear T'
      generalize W.alloc (.cells #[.int .i64 0, .int .i64 0, .int .i64 0, .int .i64 0] 49) = W' at *
      generalize W.heap.size = pi at *
      generalize W' = W at *
      first | refine next_nil ?_ | refine next_go ?_
      refine reg_one 9 5 (by kernel_rfl) (by kernel_rfl) (unhide HQ W (unhide T).kw) ?_
      simp only [List.take_succ_cons, List.take_zero, List.drop_succ_cons, List.drop_zero]
      go_wp2_with fail
      refine (unhide ON W (unhide HI W (unhide T).kw)).mono ?_
      rintro e wn ⟨rfl, kn⟩
      have T' := hide ((unhide T).call kn)
      have T := T'
      clear kn T'
      generalize wn = W at *
      go_wp2_with fail
      first | refine next_nil ?_ | refine next_go ?_
      refine reg_seg 10 3 2 (by kernel_rfl) (by decide) (by kernel_rfl) (by kernel_rfl) (fun _ _ _ _ _ h => h) ?_
      simp only [List.take_succ_cons, List.take_zero, List.drop_succ_cons, List.drop_zero]
      repeat (refine wpSteady_step (fun K hK => ?_); go_simp; first | (refine steady_of ?_ (fun W hW => ?_) (hK _ ?_); rotate_left; (obtain ⟨ca, cb⟩ := hW; go_simp; first | done | rfl); clear hK K) | (refine hK _ ?_; clear hK K))
      refine wpSteady_nil ?_
      refine reg_said #[true, true, true, true, true, true, true, true, true, true, true, true, true, true, false, false] (by kernel_rfl) ?_
      exact hm pi W (unhide T)
  · intro pi W T0
    have T := hide T0
    clear T0
    obtain ⟨G5, lpi⟩ := (unhide T).bx rfl
    have H5 := hide G5
    obtain ⟨x0, x1, x2, x3⟩ := G5.at4
    have x4 := G5.2.2
    clear G5
    refine reg_one 14 1 (by kernel_rfl) (by kernel_rfl) (unhide HQ W (unhide T).kw) ?_
    simp only [List.take_succ_cons, List.take_zero, List.drop_succ_cons, List.drop_zero]
    go_wp2_with fail
    first | refine next_nil ?_ | refine next_go ?_
    have K2 := hide (below_4 (unhide T).kw lpi (.int .i64 31) (.int .i64 d) (.int .i64 s) (.int .i64 mm))
    have I2 := hide ((unhide H5).four (.int .i64 31) (.int .i64 d) (.int .i64 s) (.int .i64 mm))
    clear x0 x1 x2 x3 x4 H5 T
    generalize (((W.setCell ⟨pi, 0, none⟩ (.int .i64 31)).setCell ⟨pi, 1, none⟩ (.int .i64 d)).setCell ⟨pi, 2, none⟩ (.int .i64 s)).setCell ⟨pi, 3, none⟩ (.int .i64 mm) = w2 at *
    refine reg_seg 15 1 0 (by kernel_rfl) (by decide) (by kernel_rfl) (by kernel_rfl) (fun _ _ _ _ _ h => h) ?_
    simp only [List.take_succ_cons, List.take_zero, List.drop_succ_cons, List.drop_zero]
    repeat (refine wpSteady_step (fun K hK => ?_); go_simp; first | (refine steady_of ?_ (fun W hW => ?_) (hK _ ?_); rotate_left; (obtain ⟨ca, cb⟩ := hW; go_simp; first | done | rfl); clear hK K) | (refine hK _ ?_; clear hK K))
    refine wpSteady_nil ?_
    refine reg_end (by kernel_rfl) (unhide HQ w2 (unhide K2)) ?_
    have B2 := hide ((unhide HB).step (unhide K2))
    have sz2 := (unhide K2).size
    have lp2 := (unhide I2).1
    obtain ⟨-, c9, c10, c11, c12, c13, -, -, -, -, -, -, -⟩ := (unhide B2).at
    have hk0 : (k == 0) = false := beq_eq_false_iff_ne.2 (by omega)
    have hpc' := hpc
    unfold wd at hpc'
    have hwr2 := wrap_ok (x := m.pc + k) (by omega) (by omega)
    have tl2 := tm_lw (x := m.pc + k) (by omega)
    have hl2 := lw_b (m.pc + k)
    generalize hnx : lw (m.pc + k) = nx at *
    have HNX := hide hnx
    clear hnx
    have S3 := hide (SX.mk (w := w) ((unhide B2).new (.cells #[.bool m.c, .bool m.z, .bool m.n, .bool m.v] 25)) ((unhide I2).step (below_a _ _)) (Box.new w2 #[.bool m.c, .bool m.z, .bool m.n, .bool m.v] 25) lpi sz2 hp hqw)
    clear HB HQ HI ON
    go_wp2_with fail
    generalize w2.alloc (.cells #[.bool m.c, .bool m.z, .bool m.n, .bool m.v] 25) = w3 at *
    generalize w2.heap.size = pf at *
    clear B2 I2 K2 c9 c10 c11 c12 c13
    obtain ⟨y0, y1, y2, y3⟩ := (unhide S3).I.at4
    obtain ⟨z0, z1, z2, z3⟩ := (unhide S3).F.at4
    have cd := (unhide S3).bx.reg hd hd'
    have cs := (unhide S3).bx.reg hs hs'
    have fz := (unhide S3).bx.flat
    have hd8 : d < 8 := by omega
    have hs8 : s < 8 := by omega
    have hp3 := (unhide S3).bx.pw
    go_quiet (fail)
    have S4 := hide ((unhide S3).step (show Below w3.heap.size w3 (w3.drewN nq) from ⟨rfl, rfl, rfl, Nat.le_refl _, fun _ _ => rfl⟩))
    clear S3 y0 y1 y2 y3 z0 z1 z2 z3 cd cs fz hp3
    generalize w3.drewN nq = w4 at *
    obtain ⟨y0, y1, y2, y3⟩ := (unhide S4).I.at4
    obtain ⟨z0, z1, z2, z3⟩ := (unhide S4).F.at4
    have cd := (unhide S4).bx.reg hd hd'
    have cs := (unhide S4).bx.reg hs hs'
    have fz := (unhide S4).bx.flat
    have hp4 := (unhide S4).bx.pw
    obtain ⟨-, -, -, -, -, -, -, -, c16, c17, -, -, -⟩ := (unhide S4).bx.at
    have he : ((m.rd : Int) == (bs.length : Int)) = true := by rw [show m.rd = bs.length from unhide HU]; exact beq_self_eq_true _
    go_wp2_with fail
    go_quiet (fail)
    have S5 := hide ((unhide S4).step (show Below w4.heap.size w4 (w4.drewN nq) from ⟨rfl, rfl, rfl, Nat.le_refl _, fun _ _ => rfl⟩))
    clear S4 y0 y1 y2 y3 z0 z1 z2 z3 cd cs fz hp4 c16 c17
    generalize w4.drewN nq = w5 at *
    obtain ⟨y0, y1, y2, y3⟩ := (unhide S5).I.at4
    have cd := (unhide S5).bx.reg hd hd'
    have fz := (unhide S5).bx.flat
    have hp5 := (unhide S5).bx.pw
    obtain ⟨-, c9, -, -, -, c13, -, -, c16, c17, -, -, -⟩ := (unhide S5).bx.at
    have z9 : wd 0 := by unfold wd; omega
    have B6 := hide (((((unhide S5).bx.sreg d 0 hd hd' z9).put (m' := ({ m.setR d 0 with c := true } : Ma)) 9 (.bool true) (by decide) rfl rfl rfl { ((unhide S5).bx.sreg d 0 hd hd' z9).fine with }).put (m' := ({ m.setR d 0 with c := true, pc := nx } : Ma)) 13 (.int .i64 nx) (by decide) rfl rfl rfl { ((unhide S5).bx.sreg d 0 hd hd' z9).fine with pc := hl2 }).drew)
    go_wp2_with fail
    refine wp_region_head 7 (by kernel_rfl) (by kernel_rfl) ?_
    simp only [List.take_succ_cons, List.take_zero, List.drop_succ_cons, List.drop_zero]
    repeat (first | still_step)
    refine wpStill_nil ?_
    go_wp2_with fail
    go_ret
    unfold SRet
    refine ⟨_, _, rfl, ?_, by first | exact unhide B6 | (rw [unhide HNX]; exact unhide B6)⟩
    omega
set_option maxRecDepth 100000 in
set_option maxHeartbeats 4000000 in
theorem sx31n {w0 w : World} {p q n : Nat} {vc vm vi vo : Value} {m : Ma} {ms xs bs : List Int} (h : BX w0 w p q n vc vm vi vo m ms xs bs) (d s mm k : Int) (R : oneA xs m.pc = (⟨31, d, s, mm⟩, k)) (hd : 0 ≤ d) (hd' : d ≤ 7) (hs : 0 ≤ s) (hs' : s ≤ 7) (hm : wd mm) (hk1 : 1 ≤ k) (hk2 : k ≤ 2) (hn : n < 2000000) (hend : m.rd < bs.length) :
    Calls Try.prog 31 #[.pointer (some ⟨p, 0, none⟩)] w fun e w' => SRet w0 p q n vc vm vi ms xs bs 0 ({ Ma.setR { m with c := false, rd := m.rd + 1 } d (bs.getD m.rd 0) with pc := lw (m.pc + k) }) e w' := by
  obtain ⟨ai, ci, rfl, hmx, hat⟩ := Byts.at h.inp
  have hne : bs ≠ [] := by intro h; rw [h] at hend; simp at hend
  obtain ⟨bb, off, rfl, hbw, hcc⟩ := hat hne
  have hbb := h.fine.inp bs[m.rd] (List.getElem_mem hend)
  have HX := hide (fun (W : World) (k : Below w0.heap.size w0 W) => (show W.cell? ⟨bb, off + m.rd, none⟩ = some (.int .u8 bs[m.rd]) by rw [k.cell (p := ⟨bb, off + m.rd, none⟩) hbw]; exact hcc _ hend))
  have hbp : bb ≠ p := by have := h.hp; omega
  unfold maxLen at hmx
  clear hcc hat
  have hxx : bs.getD m.rd 0 = bs[m.rd] := by rw [List.getD_eq_getElem?_getD, List.getElem?_eq_getElem hend]; rfl
  generalize bs[m.rd] = x at *
  have HXX := hide hxx
  have HU := hide hend
  clear hxx hend
  have ON := hide (fun W hW => rOne_any xs vc m.pc W hW)
  rw [R] at ON
  unfold agg at ON
  have HI := hide (fun (W : World) (k : Below w.heap.size w W) => h.code.step (h.low.trans (k.mono h.low.size)))
  have HB := hide h
  have HQ := hide (fun (W : World) (k : Below w.heap.size w W) => (show W.cell? ⟨p, 0, none⟩ = some vc ∧ W.cell? ⟨p, 13, none⟩ = some (.int .i64 m.pc) from ⟨cell_keep k h.pw h.at.1, cell_keep k h.pw h.at.2.2.2.2.2.1⟩))
  have hp := h.pw
  have hqw := h.qw
  have hpc := h.fine.pc
  have hrd := h.fine.reg hd hd'
  have hrs := h.fine.reg hs hs'
  have hc0 := h.at.1
  have hc13 := h.at.2.2.2.2.2.1
  clear h R
  go_enter Try.func31, Try.ntmps31
  go_upto_region 1 with fail
  refine reg_start (fun W => W.cell? ⟨p, 0, none⟩ = some vc ∧ W.cell? ⟨p, 13, none⟩ = some (.int .i64 m.pc)) (by kernel_rfl) ?_
  have T := hide (OneS.start w)
  clear hc0 hc13
  generalize w.drew = W at *
  refine reg_seg 0 9 7 (by kernel_rfl) (by decide) (by kernel_rfl) (by kernel_rfl) (fun _ _ _ _ _ h => h) ?_
  simp only [List.take_succ_cons, List.take_zero, List.drop_succ_cons, List.drop_zero]
  repeat (refine wpSteady_step (fun K hK => ?_); go_simp; first | (refine steady_of ?_ (fun W hW => ?_) (hK _ ?_); rotate_left; (obtain ⟨ca, cb⟩ := hW; go_simp; first | done | rfl); clear hK K) | (refine hK _ ?_; clear hK K))
  refine wpSteady_nil ?_
  apply reg_meet1 (R := fun pi W => OneS w true pi W)
  · intro hm
    refine reg_two 9 13 6 (by kernel_rfl) (by kernel_rfl) (unhide HQ W (unhide T).kw) ?_ ?_
    · skip
      simp only [List.take_succ_cons, List.take_zero, List.drop_succ_cons, List.drop_zero]
      go_wp2_with fail
      refine (unhide ON W (unhide HI W (unhide T).kw)).mono ?_
      rintro e wn ⟨rfl, kn⟩
      have T' := hide ((unhide T).call kn)
      have T := T'
      clear kn T'
      generalize wn = W at *
      go_wp2_with fail
      first | refine next_nil ?_ | refine next_go ?_
      refine reg_seg 10 3 3 (by kernel_rfl) (by decide) (by kernel_rfl) (by kernel_rfl) (fun _ _ _ _ _ h => h) ?_
      simp only [List.take_succ_cons, List.take_zero, List.drop_succ_cons, List.drop_zero]
      repeat (refine wpSteady_step (fun K hK => ?_); go_simp; first | (refine steady_of ?_ (fun W hW => ?_) (hK _ ?_); rotate_left; (obtain ⟨ca, cb⟩ := hW; go_simp; first | done | rfl); clear hK K) | (refine hK _ ?_; clear hK K))
      refine wpSteady_nil ?_
      refine reg_one 13 2 (by kernel_rfl) (by kernel_rfl) (unhide HQ W (unhide T).kw) ?_
      simp only [List.take_succ_cons, List.take_zero, List.drop_succ_cons, List.drop_zero]
      go_wp2_with fail
      have T' := hide ((unhide T).al (T := 49))
      have T := T'
      clear T'
      generalize W.alloc (.cells #[.int .i64 0, .int .i64 0, .int .i64 0, .int .i64 0] 49) = W' at *
      generalize W.heap.size = pi at *
      generalize W' = W at *
      first | refine next_nil ?_ | refine next_go ?_
      refine reg_said #[true, true, true, true, true, true, true, true, true, true, true, true, true, true, false, false] (by kernel_rfl) ?_
      exact hm pi W (unhide T)
    · skip
      simp only [List.take_succ_cons, List.take_zero, List.drop_succ_cons, List.drop_zero]
      go_wp2_with fail
      have T' := hide ((unhide T).al (T := 49))
      have T := T'
      clear T'
      generalize W.alloc (.cells #[.int .i64 0, .int .i64 0, .int .i64 0, .int .i64 0] 49) = W' at *
      generalize W.heap.size = pi at *
      generalize W' = W at *
      first | refine next_nil ?_ | refine next_go ?_
      refine reg_one 9 5 (by kernel_rfl) (by kernel_rfl) (unhide HQ W (unhide T).kw) ?_
      simp only [List.take_succ_cons, List.take_zero, List.drop_succ_cons, List.drop_zero]
      go_wp2_with fail
      refine (unhide ON W (unhide HI W (unhide T).kw)).mono ?_
      rintro e wn ⟨rfl, kn⟩
      have T' := hide ((unhide T).call kn)
      have T := T'
      clear kn T'
      generalize wn = W at *
      go_wp2_with fail
      first | refine next_nil ?_ | refine next_go ?_
      refine reg_seg 10 3 2 (by kernel_rfl) (by decide) (by kernel_rfl) (by kernel_rfl) (fun _ _ _ _ _ h => h) ?_
      simp only [List.take_succ_cons, List.take_zero, List.drop_succ_cons, List.drop_zero]
      repeat (refine wpSteady_step (fun K hK => ?_); go_simp; first | (refine steady_of ?_ (fun W hW => ?_) (hK _ ?_); rotate_left; (obtain ⟨ca, cb⟩ := hW; go_simp; first | done | rfl); clear hK K) | (refine hK _ ?_; clear hK K))
      refine wpSteady_nil ?_
      refine reg_said #[true, true, true, true, true, true, true, true, true, true, true, true, true, true, false, false] (by kernel_rfl) ?_
      exact hm pi W (unhide T)
  · intro pi W T0
    have T := hide T0
    clear T0
    obtain ⟨G5, lpi⟩ := (unhide T).bx rfl
    have H5 := hide G5
    obtain ⟨x0, x1, x2, x3⟩ := G5.at4
    have x4 := G5.2.2
    clear G5
    refine reg_one 14 1 (by kernel_rfl) (by kernel_rfl) (unhide HQ W (unhide T).kw) ?_
    simp only [List.take_succ_cons, List.take_zero, List.drop_succ_cons, List.drop_zero]
    go_wp2_with fail
    first | refine next_nil ?_ | refine next_go ?_
    have K2 := hide (below_4 (unhide T).kw lpi (.int .i64 31) (.int .i64 d) (.int .i64 s) (.int .i64 mm))
    have I2 := hide ((unhide H5).four (.int .i64 31) (.int .i64 d) (.int .i64 s) (.int .i64 mm))
    clear x0 x1 x2 x3 x4 H5 T
    generalize (((W.setCell ⟨pi, 0, none⟩ (.int .i64 31)).setCell ⟨pi, 1, none⟩ (.int .i64 d)).setCell ⟨pi, 2, none⟩ (.int .i64 s)).setCell ⟨pi, 3, none⟩ (.int .i64 mm) = w2 at *
    refine reg_seg 15 1 0 (by kernel_rfl) (by decide) (by kernel_rfl) (by kernel_rfl) (fun _ _ _ _ _ h => h) ?_
    simp only [List.take_succ_cons, List.take_zero, List.drop_succ_cons, List.drop_zero]
    repeat (refine wpSteady_step (fun K hK => ?_); go_simp; first | (refine steady_of ?_ (fun W hW => ?_) (hK _ ?_); rotate_left; (obtain ⟨ca, cb⟩ := hW; go_simp; first | done | rfl); clear hK K) | (refine hK _ ?_; clear hK K))
    refine wpSteady_nil ?_
    refine reg_end (by kernel_rfl) (unhide HQ w2 (unhide K2)) ?_
    have B2 := hide ((unhide HB).step (unhide K2))
    have sz2 := (unhide K2).size
    have lp2 := (unhide I2).1
    obtain ⟨-, c9, c10, c11, c12, c13, -, -, -, -, -, -, -⟩ := (unhide B2).at
    have hk0 : (k == 0) = false := beq_eq_false_iff_ne.2 (by omega)
    have hpc' := hpc
    unfold wd at hpc'
    have hwr2 := wrap_ok (x := m.pc + k) (by omega) (by omega)
    have tl2 := tm_lw (x := m.pc + k) (by omega)
    have hl2 := lw_b (m.pc + k)
    generalize hnx : lw (m.pc + k) = nx at *
    have HNX := hide hnx
    clear hnx
    have S3 := hide (SX.mk (w := w) ((unhide B2).new (.cells #[.bool m.c, .bool m.z, .bool m.n, .bool m.v] 25)) ((unhide I2).step (below_a _ _)) (Box.new w2 #[.bool m.c, .bool m.z, .bool m.n, .bool m.v] 25) lpi sz2 hp hqw)
    clear HB HQ HI ON
    go_wp2_with fail
    generalize w2.alloc (.cells #[.bool m.c, .bool m.z, .bool m.n, .bool m.v] 25) = w3 at *
    generalize w2.heap.size = pf at *
    clear B2 I2 K2 c9 c10 c11 c12 c13
    obtain ⟨y0, y1, y2, y3⟩ := (unhide S3).I.at4
    obtain ⟨z0, z1, z2, z3⟩ := (unhide S3).F.at4
    have cd := (unhide S3).bx.reg hd hd'
    have cs := (unhide S3).bx.reg hs hs'
    have fz := (unhide S3).bx.flat
    have hd8 : d < 8 := by omega
    have hs8 : s < 8 := by omega
    have hp3 := (unhide S3).bx.pw
    go_quiet (fail)
    have S4 := hide ((unhide S3).step (show Below w3.heap.size w3 (w3.drewN nq) from ⟨rfl, rfl, rfl, Nat.le_refl _, fun _ _ => rfl⟩))
    clear S3 y0 y1 y2 y3 z0 z1 z2 z3 cd cs fz hp3
    generalize w3.drewN nq = w4 at *
    obtain ⟨y0, y1, y2, y3⟩ := (unhide S4).I.at4
    obtain ⟨z0, z1, z2, z3⟩ := (unhide S4).F.at4
    have cd := (unhide S4).bx.reg hd hd'
    have cs := (unhide S4).bx.reg hs hs'
    have fz := (unhide S4).bx.flat
    have hp4 := (unhide S4).bx.pw
    obtain ⟨-, -, -, -, -, -, -, -, c16, c17, -, -, -⟩ := (unhide S4).bx.at
    have hlt : m.rd < bs.length := unhide HU
    have he : ((m.rd : Int) == (bs.length : Int)) = false := beq_eq_false_iff_ne.2 (by omega)
    have hlt2 : (m.rd : Int) < (bs.length : Int) := by omega
    have hlt0 : (0 : Int) ≤ (m.rd : Int) := by omega
    go_wp2_with fail
    go_quiet (fail)
    have S5 := hide ((unhide S4).step (show Below w4.heap.size w4 (w4.drewN nq) from ⟨rfl, rfl, rfl, Nat.le_refl _, fun _ _ => rfl⟩))
    clear S4 y0 y1 y2 y3 z0 z1 z2 z3 cd cs fz hp4 c16 c17
    generalize w4.drewN nq = w5 at *
    obtain ⟨y0, y1, y2, y3⟩ := (unhide S5).I.at4
    have cd := (unhide S5).bx.reg hd hd'
    have fz := (unhide S5).bx.flat
    have hp5 := (unhide S5).bx.pw
    obtain ⟨-, c9, -, -, -, c13, -, -, c16, c17, -, -, -⟩ := (unhide S5).bx.at
    have hcx := unhide HX w5 (unhide S5).bx.low
    have z9 : wd x := by unfold wd; omega
    have B6 := hide ((((((unhide S5).bx.sreg d x hd hd' z9).put (m' := ({ m.setR d x with c := false } : Ma)) 9 (.bool false) (by decide) rfl rfl rfl { ((unhide S5).bx.sreg d x hd hd' z9).fine with }).put (m' := ({ m.setR d x with c := false, rd := m.rd + 1 } : Ma)) 17 (.int .i64 ((m.rd : Int) + 1)) (by decide) rfl rfl rfl { ((unhide S5).bx.sreg d x hd hd' z9).fine with rd := (show m.rd + 1 ≤ bs.length by omega) }).put (m' := ({ m.setR d x with c := false, rd := m.rd + 1, pc := nx } : Ma)) 13 (.int .i64 nx) (by decide) rfl rfl rfl { ((unhide S5).bx.sreg d x hd hd' z9).fine with rd := (show m.rd + 1 ≤ bs.length by omega), pc := hl2 }).drew)
    go_wp2_with fail
    refine wp_region_head 18 (by kernel_rfl) (by kernel_rfl) ?_
    simp only [List.take_succ_cons, List.take_zero, List.drop_succ_cons, List.drop_zero]
    repeat (first | still_step)
    refine wpStill_nil ?_
    go_wp2_with fail
    go_ret
    unfold SRet
    refine ⟨_, _, rfl, ?_, by rw [unhide HNX, unhide HXX]; exact unhide B6⟩
    omega
set_option maxRecDepth 100000 in
set_option maxHeartbeats 4000000 in
theorem sxbad {w0 w : World} {p q n : Nat} {vc vm vi vo : Value} {m : Ma} {ms xs bs : List Int} (h : BX w0 w p q n vc vm vi vo m ms xs bs) (o d s mm : Int) (R : oneA xs m.pc = (⟨o, d, s, mm⟩, 0)) :
    Calls Try.prog 31 #[.pointer (some ⟨p, 0, none⟩)] w fun e w' => SRet w0 p q n vc vm vi ms xs bs 4 (m) e w' := by
  have ON := hide (fun W hW => rOne_any xs vc m.pc W hW)
  rw [R] at ON
  unfold agg at ON
  have HI := hide (fun (W : World) (k : Below w.heap.size w W) => h.code.step (h.low.trans (k.mono h.low.size)))
  have HB := hide h
  have HQ := hide (fun (W : World) (k : Below w.heap.size w W) => (show W.cell? ⟨p, 0, none⟩ = some vc ∧ W.cell? ⟨p, 13, none⟩ = some (.int .i64 m.pc) from ⟨cell_keep k h.pw h.at.1, cell_keep k h.pw h.at.2.2.2.2.2.1⟩))
  have hp := h.pw
  have hqw := h.qw
  have hpc := h.fine.pc
  have hc0 := h.at.1
  have hc13 := h.at.2.2.2.2.2.1
  clear h R
  go_enter Try.func31, Try.ntmps31
  go_upto_region 1 with fail
  refine reg_start (fun W => W.cell? ⟨p, 0, none⟩ = some vc ∧ W.cell? ⟨p, 13, none⟩ = some (.int .i64 m.pc)) (by kernel_rfl) ?_
  have T := hide (OneS.start w)
  clear hc0 hc13
  generalize w.drew = W at *
  refine reg_seg 0 9 7 (by kernel_rfl) (by decide) (by kernel_rfl) (by kernel_rfl) (fun _ _ _ _ _ h => h) ?_
  simp only [List.take_succ_cons, List.take_zero, List.drop_succ_cons, List.drop_zero]
  repeat (refine wpSteady_step (fun K hK => ?_); go_simp; first | (refine steady_of ?_ (fun W hW => ?_) (hK _ ?_); rotate_left; (obtain ⟨ca, cb⟩ := hW; go_simp; first | done | rfl); clear hK K) | (refine hK _ ?_; clear hK K))
  refine wpSteady_nil ?_
  apply reg_meet1 (R := fun pi W => OneS w true pi W)
  · intro hm
    refine reg_two 9 13 6 (by kernel_rfl) (by kernel_rfl) (unhide HQ W (unhide T).kw) ?_ ?_
    · skip
      simp only [List.take_succ_cons, List.take_zero, List.drop_succ_cons, List.drop_zero]
      go_wp2_with fail
      refine (unhide ON W (unhide HI W (unhide T).kw)).mono ?_
      rintro e wn ⟨rfl, kn⟩
      have T' := hide ((unhide T).call kn)
      have T := T'
      clear kn T'
      generalize wn = W at *
      go_wp2_with fail
      first | refine next_nil ?_ | refine next_go ?_
      refine reg_seg 10 3 3 (by kernel_rfl) (by decide) (by kernel_rfl) (by kernel_rfl) (fun _ _ _ _ _ h => h) ?_
      simp only [List.take_succ_cons, List.take_zero, List.drop_succ_cons, List.drop_zero]
      repeat (refine wpSteady_step (fun K hK => ?_); go_simp; first | (refine steady_of ?_ (fun W hW => ?_) (hK _ ?_); rotate_left; (obtain ⟨ca, cb⟩ := hW; go_simp; first | done | rfl); clear hK K) | (refine hK _ ?_; clear hK K))
      refine wpSteady_nil ?_
      refine reg_one 13 2 (by kernel_rfl) (by kernel_rfl) (unhide HQ W (unhide T).kw) ?_
      simp only [List.take_succ_cons, List.take_zero, List.drop_succ_cons, List.drop_zero]
      go_wp2_with fail
      have T' := hide ((unhide T).al (T := 49))
      have T := T'
      clear T'
      generalize W.alloc (.cells #[.int .i64 0, .int .i64 0, .int .i64 0, .int .i64 0] 49) = W' at *
      generalize W.heap.size = pi at *
      generalize W' = W at *
      first | refine next_nil ?_ | refine next_go ?_
      refine reg_said #[true, true, true, true, true, true, true, true, true, true, true, true, true, true, false, false] (by kernel_rfl) ?_
      exact hm pi W (unhide T)
    · skip
      simp only [List.take_succ_cons, List.take_zero, List.drop_succ_cons, List.drop_zero]
      go_wp2_with fail
      have T' := hide ((unhide T).al (T := 49))
      have T := T'
      clear T'
      generalize W.alloc (.cells #[.int .i64 0, .int .i64 0, .int .i64 0, .int .i64 0] 49) = W' at *
      generalize W.heap.size = pi at *
      generalize W' = W at *
      first | refine next_nil ?_ | refine next_go ?_
      refine reg_one 9 5 (by kernel_rfl) (by kernel_rfl) (unhide HQ W (unhide T).kw) ?_
      simp only [List.take_succ_cons, List.take_zero, List.drop_succ_cons, List.drop_zero]
      go_wp2_with fail
      refine (unhide ON W (unhide HI W (unhide T).kw)).mono ?_
      rintro e wn ⟨rfl, kn⟩
      have T' := hide ((unhide T).call kn)
      have T := T'
      clear kn T'
      generalize wn = W at *
      go_wp2_with fail
      first | refine next_nil ?_ | refine next_go ?_
      refine reg_seg 10 3 2 (by kernel_rfl) (by decide) (by kernel_rfl) (by kernel_rfl) (fun _ _ _ _ _ h => h) ?_
      simp only [List.take_succ_cons, List.take_zero, List.drop_succ_cons, List.drop_zero]
      repeat (refine wpSteady_step (fun K hK => ?_); go_simp; first | (refine steady_of ?_ (fun W hW => ?_) (hK _ ?_); rotate_left; (obtain ⟨ca, cb⟩ := hW; go_simp; first | done | rfl); clear hK K) | (refine hK _ ?_; clear hK K))
      refine wpSteady_nil ?_
      refine reg_said #[true, true, true, true, true, true, true, true, true, true, true, true, true, true, false, false] (by kernel_rfl) ?_
      exact hm pi W (unhide T)
  · intro pi W T0
    have T := hide T0
    clear T0
    obtain ⟨G5, lpi⟩ := (unhide T).bx rfl
    have H5 := hide G5
    obtain ⟨x0, x1, x2, x3⟩ := G5.at4
    have x4 := G5.2.2
    clear G5
    refine reg_one 14 1 (by kernel_rfl) (by kernel_rfl) (unhide HQ W (unhide T).kw) ?_
    simp only [List.take_succ_cons, List.take_zero, List.drop_succ_cons, List.drop_zero]
    go_wp2_with fail
    first | refine next_nil ?_ | refine next_go ?_
    have K2 := hide (below_4 (unhide T).kw lpi (.int .i64 o) (.int .i64 d) (.int .i64 s) (.int .i64 mm))
    have I2 := hide ((unhide H5).four (.int .i64 o) (.int .i64 d) (.int .i64 s) (.int .i64 mm))
    clear x0 x1 x2 x3 x4 H5 T
    generalize (((W.setCell ⟨pi, 0, none⟩ (.int .i64 o)).setCell ⟨pi, 1, none⟩ (.int .i64 d)).setCell ⟨pi, 2, none⟩ (.int .i64 s)).setCell ⟨pi, 3, none⟩ (.int .i64 mm) = w2 at *
    refine reg_seg 15 1 0 (by kernel_rfl) (by decide) (by kernel_rfl) (by kernel_rfl) (fun _ _ _ _ _ h => h) ?_
    simp only [List.take_succ_cons, List.take_zero, List.drop_succ_cons, List.drop_zero]
    repeat (refine wpSteady_step (fun K hK => ?_); go_simp; first | (refine steady_of ?_ (fun W hW => ?_) (hK _ ?_); rotate_left; (obtain ⟨ca, cb⟩ := hW; go_simp; first | done | rfl); clear hK K) | (refine hK _ ?_; clear hK K))
    refine wpSteady_nil ?_
    refine reg_end (by kernel_rfl) (unhide HQ w2 (unhide K2)) ?_
    have B2 := hide ((unhide HB).step (unhide K2))
    have sz2 := (unhide K2).size
    have lp2 := (unhide I2).1
    obtain ⟨-, c9, c10, c11, c12, c13, -, -, -, -, -, -, -⟩ := (unhide B2).at
    clear HB HQ HI ON
    go_wp2_with fail
    go_ret
    unfold SRet
    refine ⟨_, _, rfl, ?_, unhide B2⟩
    omega
end Go.Proofs.Ytjlbenbfmookoaa

/-
  The document's machine: steps (16, 17, 18).
-/
namespace Go.Proofs.Ytjlbenbfmookoaa
open Go.RowKit
set_option linter.unusedSimpArgs false
set_option linter.unusedVariables false

set_option maxRecDepth 100000 in
set_option maxHeartbeats 4000000 in
theorem sx16 {w0 w : World} {p q n : Nat} {vc vm vi vo : Value} {m : Ma} {ms xs bs : List Int} (h : BX w0 w p q n vc vm vi vo m ms xs bs) (d s mm k : Int) (R : oneA xs m.pc = (⟨16, d, s, mm⟩, k)) (hd : 0 ≤ d) (hd' : d ≤ 7) (hs : 0 ≤ s) (hs' : s ≤ 7) (hm : wd mm) (hk1 : 1 ≤ k) (hk2 : k ≤ 2) (hn : n < 2000000) :
    Calls Try.prog 31 #[.pointer (some ⟨p, 0, none⟩)] w fun e w' => SRet w0 p q n vc vm vi ms xs bs 0 ({ m.become d (dnb (m.reg d) 0) (m.reg d % 2 == 1) with pc := lw (m.pc + k) }) e w' := by
  have hrd0 := h.fine.reg hd hd'
  obtain ⟨F, hF⟩ : ∃ F, updB (fun j => if j < 15 then bq (m.reg d) (j + 1) else bq (m.reg d) j) 15 (false) = F := ⟨_, rfl⟩
  obtain ⟨r, hr, NM0, HE0⟩ : ∃ r, wd r ∧ (∀ W, Calls Try.prog 50 #[.agg (bA F)] W fun e w' => e = .returned (.int .i64 r) ∧ Below W.heap.size W w') ∧ dnb (m.reg d) (oi (false)) = r := ⟨_, nb_wd F, fun W => number_any F W, by rw [← hF]; exact (nb_dn hrd0 (false) (by simp [updB]) (fun j hj => by unfold updB; rw [if_neg (by omega)]; dsimp only; rw [if_pos (by omega)])).symm⟩
  have NM := hide NM0
  have HE : Hid (dnb (m.reg d) 0 = r) := by exact HE0
  have HF := hide hF
  have HT := hide (bq_0 (m.reg d))
  clear NM0 HE0 hF hrd0
  have ON := hide (fun W hW => rOne_any xs vc m.pc W hW)
  rw [R] at ON
  unfold agg at ON
  have HI := hide (fun (W : World) (k : Below w.heap.size w W) => h.code.step (h.low.trans (k.mono h.low.size)))
  have HB := hide h
  have HQ := hide (fun (W : World) (k : Below w.heap.size w W) => (show W.cell? ⟨p, 0, none⟩ = some vc ∧ W.cell? ⟨p, 13, none⟩ = some (.int .i64 m.pc) from ⟨cell_keep k h.pw h.at.1, cell_keep k h.pw h.at.2.2.2.2.2.1⟩))
  have hp := h.pw
  have hqw := h.qw
  have hpc := h.fine.pc
  have hrd := h.fine.reg hd hd'
  have hrs := h.fine.reg hs hs'
  have hc0 := h.at.1
  have hc13 := h.at.2.2.2.2.2.1
  clear h R
  go_enter Try.func31, Try.ntmps31
  go_upto_region 1 with fail
  refine reg_start (fun W => W.cell? ⟨p, 0, none⟩ = some vc ∧ W.cell? ⟨p, 13, none⟩ = some (.int .i64 m.pc)) (by kernel_rfl) ?_
  have T := hide (OneS.start w)
  clear hc0 hc13
  generalize w.drew = W at *
  refine reg_seg 0 9 7 (by kernel_rfl) (by decide) (by kernel_rfl) (by kernel_rfl) (fun _ _ _ _ _ h => h) ?_
  simp only [List.take_succ_cons, List.take_zero, List.drop_succ_cons, List.drop_zero]
  repeat (refine wpSteady_step (fun K hK => ?_); go_simp; first | (refine steady_of ?_ (fun W hW => ?_) (hK _ ?_); rotate_left; (obtain ⟨ca, cb⟩ := hW; go_simp; first | done | rfl); clear hK K) | (refine hK _ ?_; clear hK K))
  refine wpSteady_nil ?_
  apply reg_meet1 (R := fun pi W => OneS w true pi W)
  · intro hm
    refine reg_two 9 13 6 (by kernel_rfl) (by kernel_rfl) (unhide HQ W (unhide T).kw) ?_ ?_
    · skip
      simp only [List.take_succ_cons, List.take_zero, List.drop_succ_cons, List.drop_zero]
      go_wp2_with fail
      refine (unhide ON W (unhide HI W (unhide T).kw)).mono ?_
      rintro e wn ⟨rfl, kn⟩
      have T' := hide ((unhide T).call kn)
      have T := T'
      clear kn T'
      generalize wn = W at *
      go_wp2_with fail
      first | refine next_nil ?_ | refine next_go ?_
      refine reg_seg 10 3 3 (by kernel_rfl) (by decide) (by kernel_rfl) (by kernel_rfl) (fun _ _ _ _ _ h => h) ?_
      simp only [List.take_succ_cons, List.take_zero, List.drop_succ_cons, List.drop_zero]
      repeat (refine wpSteady_step (fun K hK => ?_); go_simp; first | (refine steady_of ?_ (fun W hW => ?_) (hK _ ?_); rotate_left; (obtain ⟨ca, cb⟩ := hW; go_simp; first | done | rfl); clear hK K) | (refine hK _ ?_; clear hK K))
      refine wpSteady_nil ?_
      refine reg_one 13 2 (by kernel_rfl) (by kernel_rfl) (unhide HQ W (unhide T).kw) ?_
      simp only [List.take_succ_cons, List.take_zero, List.drop_succ_cons, List.drop_zero]
      go_wp2_with fail
      have T' := hide ((unhide T).al (T := 49))
      have T := T'
      clear T'
      generalize W.alloc (.cells #[.int .i64 0, .int .i64 0, .int .i64 0, .int .i64 0] 49) = W' at *
      generalize W.heap.size = pi at *
      generalize W' = W at *
      first | refine next_nil ?_ | refine next_go ?_
      refine reg_said #[true, true, true, true, true, true, true, true, true, true, true, true, true, true, false, false] (by kernel_rfl) ?_
      exact hm pi W (unhide T)
    · skip
      simp only [List.take_succ_cons, List.take_zero, List.drop_succ_cons, List.drop_zero]
      go_wp2_with fail
      have T' := hide ((unhide T).al (T := 49))
      have T := T'
      clear T'
      generalize W.alloc (.cells #[.int .i64 0, .int .i64 0, .int .i64 0, .int .i64 0] 49) = W' at *
      generalize W.heap.size = pi at *
      generalize W' = W at *
      first | refine next_nil ?_ | refine next_go ?_
      refine reg_one 9 5 (by kernel_rfl) (by kernel_rfl) (unhide HQ W (unhide T).kw) ?_
      simp only [List.take_succ_cons, List.take_zero, List.drop_succ_cons, List.drop_zero]
      go_wp2_with fail
      refine (unhide ON W (unhide HI W (unhide T).kw)).mono ?_
      rintro e wn ⟨rfl, kn⟩
      have T' := hide ((unhide T).call kn)
      have T := T'
      clear kn T'
      generalize wn = W at *
      go_wp2_with fail
      first | refine next_nil ?_ | refine next_go ?_
      refine reg_seg 10 3 2 (by kernel_rfl) (by decide) (by kernel_rfl) (by kernel_rfl) (fun _ _ _ _ _ h => h) ?_
      simp only [List.take_succ_cons, List.take_zero, List.drop_succ_cons, List.drop_zero]
      repeat (refine wpSteady_step (fun K hK => ?_); go_simp; first | (refine steady_of ?_ (fun W hW => ?_) (hK _ ?_); rotate_left; (obtain ⟨ca, cb⟩ := hW; go_simp; first | done | rfl); clear hK K) | (refine hK _ ?_; clear hK K))
      refine wpSteady_nil ?_
      refine reg_said #[true, true, true, true, true, true, true, true, true, true, true, true, true, true, false, false] (by kernel_rfl) ?_
      exact hm pi W (unhide T)
  · intro pi W T0
    have T := hide T0
    clear T0
    obtain ⟨G5, lpi⟩ := (unhide T).bx rfl
    have H5 := hide G5
    obtain ⟨x0, x1, x2, x3⟩ := G5.at4
    have x4 := G5.2.2
    clear G5
    refine reg_one 14 1 (by kernel_rfl) (by kernel_rfl) (unhide HQ W (unhide T).kw) ?_
    simp only [List.take_succ_cons, List.take_zero, List.drop_succ_cons, List.drop_zero]
    go_wp2_with fail
    first | refine next_nil ?_ | refine next_go ?_
    have K2 := hide (below_4 (unhide T).kw lpi (.int .i64 16) (.int .i64 d) (.int .i64 s) (.int .i64 mm))
    have I2 := hide ((unhide H5).four (.int .i64 16) (.int .i64 d) (.int .i64 s) (.int .i64 mm))
    clear x0 x1 x2 x3 x4 H5 T
    generalize (((W.setCell ⟨pi, 0, none⟩ (.int .i64 16)).setCell ⟨pi, 1, none⟩ (.int .i64 d)).setCell ⟨pi, 2, none⟩ (.int .i64 s)).setCell ⟨pi, 3, none⟩ (.int .i64 mm) = w2 at *
    refine reg_seg 15 1 0 (by kernel_rfl) (by decide) (by kernel_rfl) (by kernel_rfl) (fun _ _ _ _ _ h => h) ?_
    simp only [List.take_succ_cons, List.take_zero, List.drop_succ_cons, List.drop_zero]
    repeat (refine wpSteady_step (fun K hK => ?_); go_simp; first | (refine steady_of ?_ (fun W hW => ?_) (hK _ ?_); rotate_left; (obtain ⟨ca, cb⟩ := hW; go_simp; first | done | rfl); clear hK K) | (refine hK _ ?_; clear hK K))
    refine wpSteady_nil ?_
    refine reg_end (by kernel_rfl) (unhide HQ w2 (unhide K2)) ?_
    have B2 := hide ((unhide HB).step (unhide K2))
    have sz2 := (unhide K2).size
    have lp2 := (unhide I2).1
    obtain ⟨-, c9, c10, c11, c12, c13, -, -, -, -, -, -, -⟩ := (unhide B2).at
    have hk0 : (k == 0) = false := beq_eq_false_iff_ne.2 (by omega)
    have hpc' := hpc
    unfold wd at hpc'
    have hwr2 := wrap_ok (x := m.pc + k) (by omega) (by omega)
    have tl2 := tm_lw (x := m.pc + k) (by omega)
    have hl2 := lw_b (m.pc + k)
    generalize hnx : lw (m.pc + k) = nx at *
    have HNX := hide hnx
    clear hnx
    have S3 := hide (SX.mk (w := w) ((unhide B2).new (.cells #[.bool m.c, .bool m.z, .bool m.n, .bool m.v] 25)) ((unhide I2).step (below_a _ _)) (Box.new w2 #[.bool m.c, .bool m.z, .bool m.n, .bool m.v] 25) lpi sz2 hp hqw)
    clear HB HQ HI ON
    go_wp2_with fail
    generalize w2.alloc (.cells #[.bool m.c, .bool m.z, .bool m.n, .bool m.v] 25) = w3 at *
    generalize w2.heap.size = pf at *
    clear B2 I2 K2 c9 c10 c11 c12 c13
    obtain ⟨y0, y1, y2, y3⟩ := (unhide S3).I.at4
    obtain ⟨z0, z1, z2, z3⟩ := (unhide S3).F.at4
    have cd := (unhide S3).bx.reg hd hd'
    have cs := (unhide S3).bx.reg hs hs'
    have fz := (unhide S3).bx.flat
    have hd8 : d < 8 := by omega
    have hs8 : s < 8 := by omega
    have hp3 := (unhide S3).bx.pw
    go_quiet (fail)
    have S4 := hide ((unhide S3).step (show Below w3.heap.size w3 (w3.drewN nq) from ⟨rfl, rfl, rfl, Nat.le_refl _, fun _ _ => rfl⟩))
    clear S3 y0 y1 y2 y3 z0 z1 z2 z3 cd cs fz hp3
    generalize w3.drewN nq = w4 at *
    obtain ⟨y0, y1, y2, y3⟩ := (unhide S4).I.at4
    obtain ⟨z0, z1, z2, z3⟩ := (unhide S4).F.at4
    have cd := (unhide S4).bx.reg hd hd'
    have cs := (unhide S4).bx.reg hs hs'
    have fz := (unhide S4).bx.flat
    have hp4 := (unhide S4).bx.pw
    go_wp2_with fail
    refine (bits_any (m.reg d) w4 hrd).mono ?_
    rintro e w5 ⟨rfl, k5⟩
    have S5 := hide ((unhide S4).step k5)
    clear k5 S4 cd cs fz hp4 y0 y1 y2 y3 z0 z1 z2 z3
    have Z6 := hide (show Bits (w5.alloc (.cells #[.bool false, .bool false, .bool false, .bool false, .bool false, .bool false, .bool false, .bool false, .bool false, .bool false, .bool false, .bool false, .bool false, .bool false, .bool false, .bool false] 96)) w5.heap.size (fun _ => false) from bits_new w5 (fun _ => false))
    have X6 := hide (Bits.row (g := bq (m.reg d)) (unhide Z6))
    have K6 := hide (Below.row (below_a w5 (.cells #[.bool false, .bool false, .bool false, .bool false, .bool false, .bool false, .bool false, .bool false, .bool false, .bool false, .bool false, .bool false, .bool false, .bool false, .bool false, .bool false] 96)) (Nat.le_refl _) (bA (bq (m.reg d))))
    have c15 := (unhide X6).at 15 (by decide)
    have c00 := (unhide X6).at 0 (by decide)
    go_wp2_with (refine wpList_store_row rfl 96 (.tmp 12) (.tmp 294) rfl w5.heap.size (bA (bq (m.reg d))) rfl rfl 96 _ (unhide Z6) Try.sizeBits rfl (bA_one _) ?_)
    clear Z6
    generalize (w5.alloc (.cells #[.bool false, .bool false, .bool false, .bool false, .bool false, .bool false, .bool false, .bool false, .bool false, .bool false, .bool false, .bool false, .bool false, .bool false, .bool false, .bool false] 96)).setRow w5.heap.size (bA (bq (m.reg d))) = w6 at *
    go_quiet (fail)
    have X7 := hide (Bits.step (unhide X6) (show Below w6.heap.size w6 (w6.drewN nq) from ⟨rfl, rfl, rfl, Nat.le_refl _, fun _ _ => rfl⟩))
    have K7 := hide ((unhide K6).trans (show Below w5.heap.size w6 (w6.drewN nq) from ⟨rfl, rfl, rfl, Nat.le_refl _, fun _ _ => rfl⟩))
    clear X6 K6 c15 c00
    generalize w6.drewN nq = w7 at *
    go_wp2_with fail
    generalize hbb : w5.heap.size = b at *
    have lb5 := (unhide X7).lt
    have S5b : w5.heap.size ≤ b := by omega
    clear hbb
    go_loopg [15] 15 (fun g t wr => ∃ i : Nat, i ≤ 15 ∧ g = 15 - i ∧ t = .int .i64 (i : Int) ∧ Hid (Bits wr b (fun j => if j < i then bq (m.reg d) (j + 1) else bq (m.reg d) j)) ∧ Hid (Below b w5 wr))
    case atStart => exact ⟨0, Nat.zero_le _, rfl, rfl, hide ((unhide X7).congr (fun j hj => by rw [if_neg (by omega)])), K7⟩
    case round =>
      obtain ⟨i, hi, hg, rfl, hX, hK⟩ := hrel
      clear X7 K7
      by_cases hlt : i < 15
      · have ca := (unhide hX).at (i + 1) (by omega)
        rw [if_neg (by omega)] at ca
        have cb := (unhide hX).at i (by omega)
        have fz := (unhide hX).frz
        have en : ((i : Int) + 1).toNat = i + 1 := by omega
        have h0k : (i : Int) < 15 := by omega
        have h0j : (0 : Int) ≤ (i : Int) := by omega
        have h15 : (i : Int) < 16 := by omega
        have h16 : (i : Int) + 1 < 16 := by omega
        have h17 : (0 : Int) ≤ (i : Int) + 1 := by omega
        have X1 := hide (((unhide hX).set i (by omega) (bq (m.reg d) (i + 1))).congr (g := fun j => if j < i + 1 then bq (m.reg d) (j + 1) else bq (m.reg d) j) (fun j hj => by
          unfold updB
          by_cases e : j = i
          · subst e; rw [if_pos rfl, if_pos (by omega)]
          · rw [if_neg e]
            dsimp only
            by_cases e2 : j < i
            · rw [if_pos e2, if_pos (by omega)]
            · rw [if_neg e2, if_neg (by omega)]))
        have K1 := hide ((unhide hK).setCell (p := ⟨b, i, none⟩) (Nat.le_refl _) (.bool (bq (m.reg d) (i + 1))))
        clear hX hK
        generalize bq (m.reg d) (i + 1) = u at *
        go_wp2_with fail
        go_roundg (15 - (i + 1))
        case measure => omega
        case rel => exact ⟨i + 1, by omega, rfl, by go_num, X1, K1⟩
      · obtain rfl : i = 15 := by omega
        have S7 := hide ((unhide S5).step ((unhide hK).mono S5b))
        obtain ⟨y0, y1, y2, y3⟩ := (unhide S7).I.at4
        obtain ⟨z0, z1, z2, z3⟩ := (unhide S7).F.at4
        have ce := (unhide hX).at 15 (by decide)
        have fzb := (unhide hX).frz
        have X8 := hide (show Bits (wr.setCell ⟨b, 15, none⟩ (.bool (false))) b F by have := (unhide hX).set 15 (by decide) (false); rw [show updB (fun j => if j < 15 then bq (m.reg d) (j + 1) else bq (m.reg d) j) 15 (false) = F from unhide HF] at this; exact this)
        have S8 := hide ((unhide S5).step (((unhide hK).setCell (p := ⟨b, 15, none⟩) (Nat.le_refl _) (.bool (false))).mono S5b))
        have hpi := (unhide S5).I.1
        have hbp : b ≠ p := by have := (unhide S5).li; have := (unhide S5).lp; omega
        have hbq : b ≠ q := by have := (unhide S5).li; have := (unhide S5).lq; omega
        clear hX hK S5 S7
        go_wp2_with fail
        clear y0 y1 y2 y3 z0 z1 z2 z3 ce fzb
        generalize wr.setCell ⟨b, 15, none⟩ (.bool false) = w8 at *
        refine reg_start (fun W => W.cell? ⟨pi, 1, none⟩ = some (.int .i64 d) ∧ W.heap[b]? = some (.cells (bA F) 96 (0, 0))) (by kernel_rfl) ?_
        have S9 := hide ((unhide S8).step (Below.refl _ _).drew)
        have X9 := hide (Bits.step (unhide X8) (Below.refl _ _).drew)
        clear S8 X8
        generalize w8.drew = W at *
        refine reg_seg 0 4 9 (by kernel_rfl) (by decide) (by kernel_rfl) (by kernel_rfl) (fun _ _ _ _ _ h => h) ?_
        simp only [List.take_succ_cons, List.take_zero, List.drop_succ_cons, List.drop_zero]
        repeat (refine wpSteady_step (fun K hK => ?_); go_simp; first | (refine steady_of ?_ (fun W hW => ?_) (hK _ ?_); rotate_left; (obtain ⟨hc9, hc8⟩ := hW; go_simp; first | done | rfl); clear hK K) | (refine hK _ ?_; clear hK K))
        refine wpSteady_nil ?_
        refine reg_seg 4 1 8 (by kernel_rfl) (by decide) (by kernel_rfl) (by kernel_rfl) (fun _ _ _ _ _ h => h) ?_
        simp only [List.take_succ_cons, List.take_zero, List.drop_succ_cons, List.drop_zero]
        refine steady_load_row rfl 96 (.tmp 12) rfl b rfl 96 (bA F) (0, 0) _ (fun W hW => hW.2) Try.underlying96 rfl Try.sizeBits ?_
        refine wpSteady_nil ?_
        refine reg_seg 6 1 7 (by kernel_rfl) (by decide) (by kernel_rfl) (by kernel_rfl) (fun _ _ _ _ _ h => h) ?_
        simp only [List.take_succ_cons, List.take_zero, List.drop_succ_cons, List.drop_zero]
        repeat (refine wpSteady_step (fun K hK => ?_); go_simp; first | (refine steady_of ?_ (fun W hW => ?_) (hK _ ?_); rotate_left; (obtain ⟨hc9, hc8⟩ := hW; go_simp; first | done | rfl); clear hK K) | (refine hK _ ?_; clear hK K))
        refine wpSteady_nil ?_
        refine reg_seg 8 3 4 (by kernel_rfl) (by decide) (by kernel_rfl) (by kernel_rfl) (fun _ _ _ _ _ h => h) ?_
        simp only [List.take_succ_cons, List.take_zero, List.drop_succ_cons, List.drop_zero]
        repeat (refine wpSteady_step (fun K hK => ?_); go_simp; first | (refine steady_of ?_ (fun W hW => ?_) (hK _ ?_); rotate_left; (obtain ⟨hc9, hc8⟩ := hW; go_simp; first | done | rfl); clear hK K) | (refine hK _ ?_; clear hK K))
        refine wpSteady_nil ?_
        refine reg_one 5 3 (by kernel_rfl) (by kernel_rfl) ⟨(unhide S9).I.at4.2.1, unhide X9⟩ ?_
        simp only [List.take_succ_cons, List.take_zero, List.drop_succ_cons, List.drop_zero]
        go_wp2_with fail
        refine (unhide NM W).mono ?_
        rintro e wa ⟨rfl, ka⟩
        have S6 := hide ((unhide S9).step ka)
        have X6 := hide (Bits.step (unhide X9) ka)
        clear ka S9 X9
        go_wp2_with fail
        first | refine next_nil ?_ | refine next_go ?_
        refine reg_one 7 2 (by kernel_rfl) (by kernel_rfl) ⟨(unhide S6).I.at4.2.1, unhide X6⟩ ?_
        simp only [List.take_succ_cons, List.take_zero, List.drop_succ_cons, List.drop_zero]
        go_wp2_with fail
        refine (plain3_any (unhide S6).bx r (bq (m.reg d) 0) hr).mono ?_
        rintro e wb ⟨rfl, b6, k6⟩
        have S7 := hide ((unhide S6).kept k6 b6)
        have X7 := hide (Bits.kept (unhide X6) k6 hbp hbq)
        clear b6 k6 S6 X6
        go_wp2_with fail
        first | refine next_nil ?_ | refine next_go ?_
        refine reg_seg 11 1 1 (by kernel_rfl) (by decide) (by kernel_rfl) (by kernel_rfl) (fun _ _ _ _ _ h => h) ?_
        simp only [List.take_succ_cons, List.take_zero, List.drop_succ_cons, List.drop_zero]
        repeat (refine wpSteady_step (fun K hK => ?_); go_simp; first | (refine steady_of ?_ (fun W hW => ?_) (hK _ ?_); rotate_left; (obtain ⟨hc9, hc8⟩ := hW; go_simp; first | done | rfl); clear hK K) | (refine hK _ ?_; clear hK K))
        refine wpSteady_nil ?_
        have cd := (unhide S7).bx.reg hd hd'
        have fz := (unhide S7).bx.flat
        have hp6 := (unhide S7).bx.pw
        refine reg_one 12 0 (by kernel_rfl) (by kernel_rfl) ⟨(unhide S7).I.at4.2.1, unhide X7⟩ ?_
        simp only [List.take_succ_cons, List.take_zero, List.drop_succ_cons, List.drop_zero]
        go_wp2_with fail
        first | refine next_nil ?_ | refine next_go ?_
        have S8 := hide ((unhide S7).kept ((Kept.refl wb p q).set (b := p) (j := 1 + d.toNat) (x := .int .i64 r) (.inl rfl)) ((unhide S7).bx.sreg d r hd hd' hr))
        have X8 := hide (Bits.other (p := p) (j := 1 + d.toNat) (u := .int .i64 r) (unhide X7) hbp)
        clear cd fz hp6 S7 X7
        generalize wb.setCell ⟨p, 1 + d.toNat, none⟩ (.int .i64 r) = wc at *
        refine reg_end (by kernel_rfl) ⟨(unhide S8).I.at4.2.1, unhide X8⟩ ?_
        have B5 := hide (unhide S8).bx
        clear S8 X8
        have c13 := (unhide B5).at.2.2.2.2.2.1
        have fz5 := (unhide B5).flat
        have hp5 := (unhide B5).pw
        have B6 := hide ((unhide B5).put (m' := ({ (Ma.setR { m with c := (bq (m.reg d) 0), z := r == 0, n := r / 32768 == 1, v := false } d r : Ma) with pc := nx } : Ma)) 13 (.int .i64 nx) (by decide) rfl rfl rfl { (unhide B5).fine with pc := hl2 })
        go_wp2_with fail
        go_ret
        unfold SRet
        refine ⟨_, _, rfl, ?_, by rw [unhide HNX, unhide HE, ← unhide HT]; exact unhide B6⟩
        omega
set_option maxRecDepth 100000 in
set_option maxHeartbeats 4000000 in
theorem sx17 {w0 w : World} {p q n : Nat} {vc vm vi vo : Value} {m : Ma} {ms xs bs : List Int} (h : BX w0 w p q n vc vm vi vo m ms xs bs) (d s mm k : Int) (R : oneA xs m.pc = (⟨17, d, s, mm⟩, k)) (hd : 0 ≤ d) (hd' : d ≤ 7) (hs : 0 ≤ s) (hs' : s ≤ 7) (hm : wd mm) (hk1 : 1 ≤ k) (hk2 : k ≤ 2) (hn : n < 2000000) :
    Calls Try.prog 31 #[.pointer (some ⟨p, 0, none⟩)] w fun e w' => SRet w0 p q n vc vm vi ms xs bs 0 ({ m.become d (dnb (m.reg d) (m.reg d / 32768)) (m.reg d % 2 == 1) with pc := lw (m.pc + k) }) e w' := by
  have hrd0 := h.fine.reg hd hd'
  obtain ⟨F, hF⟩ : ∃ F, updB (fun j => if j < 15 then bq (m.reg d) (j + 1) else bq (m.reg d) j) 15 (bq (m.reg d) 15) = F := ⟨_, rfl⟩
  obtain ⟨r, hr, NM0, HE0⟩ : ∃ r, wd r ∧ (∀ W, Calls Try.prog 50 #[.agg (bA F)] W fun e w' => e = .returned (.int .i64 r) ∧ Below W.heap.size W w') ∧ dnb (m.reg d) (oi (bq (m.reg d) 15)) = r := ⟨_, nb_wd F, fun W => number_any F W, by rw [← hF]; exact (nb_dn hrd0 (bq (m.reg d) 15) (by simp [updB]) (fun j hj => by unfold updB; rw [if_neg (by omega)]; dsimp only; rw [if_pos (by omega)])).symm⟩
  have NM := hide NM0
  have HE : Hid (dnb (m.reg d) (m.reg d / 32768) = r) := by rw [(bq_15 hrd0).2] at HE0; exact HE0
  have HF := hide hF
  have HT := hide (bq_0 (m.reg d))
  clear NM0 HE0 hF hrd0
  have ON := hide (fun W hW => rOne_any xs vc m.pc W hW)
  rw [R] at ON
  unfold agg at ON
  have HI := hide (fun (W : World) (k : Below w.heap.size w W) => h.code.step (h.low.trans (k.mono h.low.size)))
  have HB := hide h
  have HQ := hide (fun (W : World) (k : Below w.heap.size w W) => (show W.cell? ⟨p, 0, none⟩ = some vc ∧ W.cell? ⟨p, 13, none⟩ = some (.int .i64 m.pc) from ⟨cell_keep k h.pw h.at.1, cell_keep k h.pw h.at.2.2.2.2.2.1⟩))
  have hp := h.pw
  have hqw := h.qw
  have hpc := h.fine.pc
  have hrd := h.fine.reg hd hd'
  have hrs := h.fine.reg hs hs'
  have hc0 := h.at.1
  have hc13 := h.at.2.2.2.2.2.1
  clear h R
  go_enter Try.func31, Try.ntmps31
  go_upto_region 1 with fail
  refine reg_start (fun W => W.cell? ⟨p, 0, none⟩ = some vc ∧ W.cell? ⟨p, 13, none⟩ = some (.int .i64 m.pc)) (by kernel_rfl) ?_
  have T := hide (OneS.start w)
  clear hc0 hc13
  generalize w.drew = W at *
  refine reg_seg 0 9 7 (by kernel_rfl) (by decide) (by kernel_rfl) (by kernel_rfl) (fun _ _ _ _ _ h => h) ?_
  simp only [List.take_succ_cons, List.take_zero, List.drop_succ_cons, List.drop_zero]
  repeat (refine wpSteady_step (fun K hK => ?_); go_simp; first | (refine steady_of ?_ (fun W hW => ?_) (hK _ ?_); rotate_left; (obtain ⟨ca, cb⟩ := hW; go_simp; first | done | rfl); clear hK K) | (refine hK _ ?_; clear hK K))
  refine wpSteady_nil ?_
  apply reg_meet1 (R := fun pi W => OneS w true pi W)
  · intro hm
    refine reg_two 9 13 6 (by kernel_rfl) (by kernel_rfl) (unhide HQ W (unhide T).kw) ?_ ?_
    · skip
      simp only [List.take_succ_cons, List.take_zero, List.drop_succ_cons, List.drop_zero]
      go_wp2_with fail
      refine (unhide ON W (unhide HI W (unhide T).kw)).mono ?_
      rintro e wn ⟨rfl, kn⟩
      have T' := hide ((unhide T).call kn)
      have T := T'
      clear kn T'
      generalize wn = W at *
      go_wp2_with fail
      first | refine next_nil ?_ | refine next_go ?_
      refine reg_seg 10 3 3 (by kernel_rfl) (by decide) (by kernel_rfl) (by kernel_rfl) (fun _ _ _ _ _ h => h) ?_
      simp only [List.take_succ_cons, List.take_zero, List.drop_succ_cons, List.drop_zero]
      repeat (refine wpSteady_step (fun K hK => ?_); go_simp; first | (refine steady_of ?_ (fun W hW => ?_) (hK _ ?_); rotate_left; (obtain ⟨ca, cb⟩ := hW; go_simp; first | done | rfl); clear hK K) | (refine hK _ ?_; clear hK K))
      refine wpSteady_nil ?_
      refine reg_one 13 2 (by kernel_rfl) (by kernel_rfl) (unhide HQ W (unhide T).kw) ?_
      simp only [List.take_succ_cons, List.take_zero, List.drop_succ_cons, List.drop_zero]
      go_wp2_with fail
      have T' := hide ((unhide T).al (T := 49))
      have T := T'
      clear T'
      generalize W.alloc (.cells #[.int .i64 0, .int .i64 0, .int .i64 0, .int .i64 0] 49) = W' at *
      generalize W.heap.size = pi at *
      generalize W' = W at *
      first | refine next_nil ?_ | refine next_go ?_
      refine reg_said #[true, true, true, true, true, true, true, true, true, true, true, true, true, true, false, false] (by kernel_rfl) ?_
      exact hm pi W (unhide T)
    · skip
      simp only [List.take_succ_cons, List.take_zero, List.drop_succ_cons, List.drop_zero]
      go_wp2_with fail
      have T' := hide ((unhide T).al (T := 49))
      have T := T'
      clear T'
      generalize W.alloc (.cells #[.int .i64 0, .int .i64 0, .int .i64 0, .int .i64 0] 49) = W' at *
      generalize W.heap.size = pi at *
      generalize W' = W at *
      first | refine next_nil ?_ | refine next_go ?_
      refine reg_one 9 5 (by kernel_rfl) (by kernel_rfl) (unhide HQ W (unhide T).kw) ?_
      simp only [List.take_succ_cons, List.take_zero, List.drop_succ_cons, List.drop_zero]
      go_wp2_with fail
      refine (unhide ON W (unhide HI W (unhide T).kw)).mono ?_
      rintro e wn ⟨rfl, kn⟩
      have T' := hide ((unhide T).call kn)
      have T := T'
      clear kn T'
      generalize wn = W at *
      go_wp2_with fail
      first | refine next_nil ?_ | refine next_go ?_
      refine reg_seg 10 3 2 (by kernel_rfl) (by decide) (by kernel_rfl) (by kernel_rfl) (fun _ _ _ _ _ h => h) ?_
      simp only [List.take_succ_cons, List.take_zero, List.drop_succ_cons, List.drop_zero]
      repeat (refine wpSteady_step (fun K hK => ?_); go_simp; first | (refine steady_of ?_ (fun W hW => ?_) (hK _ ?_); rotate_left; (obtain ⟨ca, cb⟩ := hW; go_simp; first | done | rfl); clear hK K) | (refine hK _ ?_; clear hK K))
      refine wpSteady_nil ?_
      refine reg_said #[true, true, true, true, true, true, true, true, true, true, true, true, true, true, false, false] (by kernel_rfl) ?_
      exact hm pi W (unhide T)
  · intro pi W T0
    have T := hide T0
    clear T0
    obtain ⟨G5, lpi⟩ := (unhide T).bx rfl
    have H5 := hide G5
    obtain ⟨x0, x1, x2, x3⟩ := G5.at4
    have x4 := G5.2.2
    clear G5
    refine reg_one 14 1 (by kernel_rfl) (by kernel_rfl) (unhide HQ W (unhide T).kw) ?_
    simp only [List.take_succ_cons, List.take_zero, List.drop_succ_cons, List.drop_zero]
    go_wp2_with fail
    first | refine next_nil ?_ | refine next_go ?_
    have K2 := hide (below_4 (unhide T).kw lpi (.int .i64 17) (.int .i64 d) (.int .i64 s) (.int .i64 mm))
    have I2 := hide ((unhide H5).four (.int .i64 17) (.int .i64 d) (.int .i64 s) (.int .i64 mm))
    clear x0 x1 x2 x3 x4 H5 T
    generalize (((W.setCell ⟨pi, 0, none⟩ (.int .i64 17)).setCell ⟨pi, 1, none⟩ (.int .i64 d)).setCell ⟨pi, 2, none⟩ (.int .i64 s)).setCell ⟨pi, 3, none⟩ (.int .i64 mm) = w2 at *
    refine reg_seg 15 1 0 (by kernel_rfl) (by decide) (by kernel_rfl) (by kernel_rfl) (fun _ _ _ _ _ h => h) ?_
    simp only [List.take_succ_cons, List.take_zero, List.drop_succ_cons, List.drop_zero]
    repeat (refine wpSteady_step (fun K hK => ?_); go_simp; first | (refine steady_of ?_ (fun W hW => ?_) (hK _ ?_); rotate_left; (obtain ⟨ca, cb⟩ := hW; go_simp; first | done | rfl); clear hK K) | (refine hK _ ?_; clear hK K))
    refine wpSteady_nil ?_
    refine reg_end (by kernel_rfl) (unhide HQ w2 (unhide K2)) ?_
    have B2 := hide ((unhide HB).step (unhide K2))
    have sz2 := (unhide K2).size
    have lp2 := (unhide I2).1
    obtain ⟨-, c9, c10, c11, c12, c13, -, -, -, -, -, -, -⟩ := (unhide B2).at
    have hk0 : (k == 0) = false := beq_eq_false_iff_ne.2 (by omega)
    have hpc' := hpc
    unfold wd at hpc'
    have hwr2 := wrap_ok (x := m.pc + k) (by omega) (by omega)
    have tl2 := tm_lw (x := m.pc + k) (by omega)
    have hl2 := lw_b (m.pc + k)
    generalize hnx : lw (m.pc + k) = nx at *
    have HNX := hide hnx
    clear hnx
    have S3 := hide (SX.mk (w := w) ((unhide B2).new (.cells #[.bool m.c, .bool m.z, .bool m.n, .bool m.v] 25)) ((unhide I2).step (below_a _ _)) (Box.new w2 #[.bool m.c, .bool m.z, .bool m.n, .bool m.v] 25) lpi sz2 hp hqw)
    clear HB HQ HI ON
    go_wp2_with fail
    generalize w2.alloc (.cells #[.bool m.c, .bool m.z, .bool m.n, .bool m.v] 25) = w3 at *
    generalize w2.heap.size = pf at *
    clear B2 I2 K2 c9 c10 c11 c12 c13
    obtain ⟨y0, y1, y2, y3⟩ := (unhide S3).I.at4
    obtain ⟨z0, z1, z2, z3⟩ := (unhide S3).F.at4
    have cd := (unhide S3).bx.reg hd hd'
    have cs := (unhide S3).bx.reg hs hs'
    have fz := (unhide S3).bx.flat
    have hd8 : d < 8 := by omega
    have hs8 : s < 8 := by omega
    have hp3 := (unhide S3).bx.pw
    go_quiet (fail)
    have S4 := hide ((unhide S3).step (show Below w3.heap.size w3 (w3.drewN nq) from ⟨rfl, rfl, rfl, Nat.le_refl _, fun _ _ => rfl⟩))
    clear S3 y0 y1 y2 y3 z0 z1 z2 z3 cd cs fz hp3
    generalize w3.drewN nq = w4 at *
    obtain ⟨y0, y1, y2, y3⟩ := (unhide S4).I.at4
    obtain ⟨z0, z1, z2, z3⟩ := (unhide S4).F.at4
    have cd := (unhide S4).bx.reg hd hd'
    have cs := (unhide S4).bx.reg hs hs'
    have fz := (unhide S4).bx.flat
    have hp4 := (unhide S4).bx.pw
    go_wp2_with fail
    refine (bits_any (m.reg d) w4 hrd).mono ?_
    rintro e w5 ⟨rfl, k5⟩
    have S5 := hide ((unhide S4).step k5)
    clear k5 S4 cd cs fz hp4 y0 y1 y2 y3 z0 z1 z2 z3
    have Z6 := hide (show Bits (w5.alloc (.cells #[.bool false, .bool false, .bool false, .bool false, .bool false, .bool false, .bool false, .bool false, .bool false, .bool false, .bool false, .bool false, .bool false, .bool false, .bool false, .bool false] 96)) w5.heap.size (fun _ => false) from bits_new w5 (fun _ => false))
    have X6 := hide (Bits.row (g := bq (m.reg d)) (unhide Z6))
    have K6 := hide (Below.row (below_a w5 (.cells #[.bool false, .bool false, .bool false, .bool false, .bool false, .bool false, .bool false, .bool false, .bool false, .bool false, .bool false, .bool false, .bool false, .bool false, .bool false, .bool false] 96)) (Nat.le_refl _) (bA (bq (m.reg d))))
    have c15 := (unhide X6).at 15 (by decide)
    have c00 := (unhide X6).at 0 (by decide)
    go_wp2_with (refine wpList_store_row rfl 96 (.tmp 12) (.tmp 294) rfl w5.heap.size (bA (bq (m.reg d))) rfl rfl 96 _ (unhide Z6) Try.sizeBits rfl (bA_one _) ?_)
    clear Z6
    generalize (w5.alloc (.cells #[.bool false, .bool false, .bool false, .bool false, .bool false, .bool false, .bool false, .bool false, .bool false, .bool false, .bool false, .bool false, .bool false, .bool false, .bool false, .bool false] 96)).setRow w5.heap.size (bA (bq (m.reg d))) = w6 at *
    go_quiet (fail)
    have X7 := hide (Bits.step (unhide X6) (show Below w6.heap.size w6 (w6.drewN nq) from ⟨rfl, rfl, rfl, Nat.le_refl _, fun _ _ => rfl⟩))
    have K7 := hide ((unhide K6).trans (show Below w5.heap.size w6 (w6.drewN nq) from ⟨rfl, rfl, rfl, Nat.le_refl _, fun _ _ => rfl⟩))
    clear X6 K6 c15 c00
    generalize w6.drewN nq = w7 at *
    go_wp2_with fail
    generalize hbb : w5.heap.size = b at *
    have lb5 := (unhide X7).lt
    have S5b : w5.heap.size ≤ b := by omega
    clear hbb
    go_loopg [15] 15 (fun g t wr => ∃ i : Nat, i ≤ 15 ∧ g = 15 - i ∧ t = .int .i64 (i : Int) ∧ Hid (Bits wr b (fun j => if j < i then bq (m.reg d) (j + 1) else bq (m.reg d) j)) ∧ Hid (Below b w5 wr))
    case atStart => exact ⟨0, Nat.zero_le _, rfl, rfl, hide ((unhide X7).congr (fun j hj => by rw [if_neg (by omega)])), K7⟩
    case round =>
      obtain ⟨i, hi, hg, rfl, hX, hK⟩ := hrel
      clear X7 K7
      by_cases hlt : i < 15
      · have ca := (unhide hX).at (i + 1) (by omega)
        rw [if_neg (by omega)] at ca
        have cb := (unhide hX).at i (by omega)
        have fz := (unhide hX).frz
        have en : ((i : Int) + 1).toNat = i + 1 := by omega
        have h0k : (i : Int) < 15 := by omega
        have h0j : (0 : Int) ≤ (i : Int) := by omega
        have h15 : (i : Int) < 16 := by omega
        have h16 : (i : Int) + 1 < 16 := by omega
        have h17 : (0 : Int) ≤ (i : Int) + 1 := by omega
        have X1 := hide (((unhide hX).set i (by omega) (bq (m.reg d) (i + 1))).congr (g := fun j => if j < i + 1 then bq (m.reg d) (j + 1) else bq (m.reg d) j) (fun j hj => by
          unfold updB
          by_cases e : j = i
          · subst e; rw [if_pos rfl, if_pos (by omega)]
          · rw [if_neg e]
            dsimp only
            by_cases e2 : j < i
            · rw [if_pos e2, if_pos (by omega)]
            · rw [if_neg e2, if_neg (by omega)]))
        have K1 := hide ((unhide hK).setCell (p := ⟨b, i, none⟩) (Nat.le_refl _) (.bool (bq (m.reg d) (i + 1))))
        clear hX hK
        generalize bq (m.reg d) (i + 1) = u at *
        go_wp2_with fail
        go_roundg (15 - (i + 1))
        case measure => omega
        case rel => exact ⟨i + 1, by omega, rfl, by go_num, X1, K1⟩
      · obtain rfl : i = 15 := by omega
        rcases Bool.eq_false_or_eq_true (bq (m.reg d) 15) with htp | htp
        · skip
          have S7 := hide ((unhide S5).step ((unhide hK).mono S5b))
          obtain ⟨y0, y1, y2, y3⟩ := (unhide S7).I.at4
          obtain ⟨z0, z1, z2, z3⟩ := (unhide S7).F.at4
          have ce := (unhide hX).at 15 (by decide)
          have fzb := (unhide hX).frz
          have X8 := hide (show Bits (wr.setCell ⟨b, 15, none⟩ (.bool (bq (m.reg d) 15))) b F by have := (unhide hX).set 15 (by decide) (bq (m.reg d) 15); rw [show updB (fun j => if j < 15 then bq (m.reg d) (j + 1) else bq (m.reg d) j) 15 (bq (m.reg d) 15) = F from unhide HF] at this; exact this)
          have S8 := hide ((unhide S5).step (((unhide hK).setCell (p := ⟨b, 15, none⟩) (Nat.le_refl _) (.bool (bq (m.reg d) 15))).mono S5b))
          have hpi := (unhide S5).I.1
          have hbp : b ≠ p := by have := (unhide S5).li; have := (unhide S5).lp; omega
          have hbq : b ≠ q := by have := (unhide S5).li; have := (unhide S5).lq; omega
          rw [htp] at X8 S8
          clear hX hK S5 S7
          go_wp2_with fail
          clear y0 y1 y2 y3 z0 z1 z2 z3 ce fzb
          generalize wr.setCell ⟨b, 15, none⟩ (.bool true) = w8 at *
          refine reg_start (fun W => W.cell? ⟨pi, 1, none⟩ = some (.int .i64 d) ∧ W.heap[b]? = some (.cells (bA F) 96 (0, 0))) (by kernel_rfl) ?_
          have S9 := hide ((unhide S8).step (Below.refl _ _).drew)
          have X9 := hide (Bits.step (unhide X8) (Below.refl _ _).drew)
          clear S8 X8
          generalize w8.drew = W at *
          refine reg_seg 0 4 9 (by kernel_rfl) (by decide) (by kernel_rfl) (by kernel_rfl) (fun _ _ _ _ _ h => h) ?_
          simp only [List.take_succ_cons, List.take_zero, List.drop_succ_cons, List.drop_zero]
          repeat (refine wpSteady_step (fun K hK => ?_); go_simp; first | (refine steady_of ?_ (fun W hW => ?_) (hK _ ?_); rotate_left; (obtain ⟨hc9, hc8⟩ := hW; go_simp; first | done | rfl); clear hK K) | (refine hK _ ?_; clear hK K))
          refine wpSteady_nil ?_
          refine reg_seg 4 1 8 (by kernel_rfl) (by decide) (by kernel_rfl) (by kernel_rfl) (fun _ _ _ _ _ h => h) ?_
          simp only [List.take_succ_cons, List.take_zero, List.drop_succ_cons, List.drop_zero]
          refine steady_load_row rfl 96 (.tmp 12) rfl b rfl 96 (bA F) (0, 0) _ (fun W hW => hW.2) Try.underlying96 rfl Try.sizeBits ?_
          refine wpSteady_nil ?_
          refine reg_seg 6 1 7 (by kernel_rfl) (by decide) (by kernel_rfl) (by kernel_rfl) (fun _ _ _ _ _ h => h) ?_
          simp only [List.take_succ_cons, List.take_zero, List.drop_succ_cons, List.drop_zero]
          repeat (refine wpSteady_step (fun K hK => ?_); go_simp; first | (refine steady_of ?_ (fun W hW => ?_) (hK _ ?_); rotate_left; (obtain ⟨hc9, hc8⟩ := hW; go_simp; first | done | rfl); clear hK K) | (refine hK _ ?_; clear hK K))
          refine wpSteady_nil ?_
          refine reg_seg 8 3 4 (by kernel_rfl) (by decide) (by kernel_rfl) (by kernel_rfl) (fun _ _ _ _ _ h => h) ?_
          simp only [List.take_succ_cons, List.take_zero, List.drop_succ_cons, List.drop_zero]
          repeat (refine wpSteady_step (fun K hK => ?_); go_simp; first | (refine steady_of ?_ (fun W hW => ?_) (hK _ ?_); rotate_left; (obtain ⟨hc9, hc8⟩ := hW; go_simp; first | done | rfl); clear hK K) | (refine hK _ ?_; clear hK K))
          refine wpSteady_nil ?_
          refine reg_one 5 3 (by kernel_rfl) (by kernel_rfl) ⟨(unhide S9).I.at4.2.1, unhide X9⟩ ?_
          simp only [List.take_succ_cons, List.take_zero, List.drop_succ_cons, List.drop_zero]
          go_wp2_with fail
          refine (unhide NM W).mono ?_
          rintro e wa ⟨rfl, ka⟩
          have S6 := hide ((unhide S9).step ka)
          have X6 := hide (Bits.step (unhide X9) ka)
          clear ka S9 X9
          go_wp2_with fail
          first | refine next_nil ?_ | refine next_go ?_
          refine reg_one 7 2 (by kernel_rfl) (by kernel_rfl) ⟨(unhide S6).I.at4.2.1, unhide X6⟩ ?_
          simp only [List.take_succ_cons, List.take_zero, List.drop_succ_cons, List.drop_zero]
          go_wp2_with fail
          refine (plain3_any (unhide S6).bx r (bq (m.reg d) 0) hr).mono ?_
          rintro e wb ⟨rfl, b6, k6⟩
          have S7 := hide ((unhide S6).kept k6 b6)
          have X7 := hide (Bits.kept (unhide X6) k6 hbp hbq)
          clear b6 k6 S6 X6
          go_wp2_with fail
          first | refine next_nil ?_ | refine next_go ?_
          refine reg_seg 11 1 1 (by kernel_rfl) (by decide) (by kernel_rfl) (by kernel_rfl) (fun _ _ _ _ _ h => h) ?_
          simp only [List.take_succ_cons, List.take_zero, List.drop_succ_cons, List.drop_zero]
          repeat (refine wpSteady_step (fun K hK => ?_); go_simp; first | (refine steady_of ?_ (fun W hW => ?_) (hK _ ?_); rotate_left; (obtain ⟨hc9, hc8⟩ := hW; go_simp; first | done | rfl); clear hK K) | (refine hK _ ?_; clear hK K))
          refine wpSteady_nil ?_
          have cd := (unhide S7).bx.reg hd hd'
          have fz := (unhide S7).bx.flat
          have hp6 := (unhide S7).bx.pw
          refine reg_one 12 0 (by kernel_rfl) (by kernel_rfl) ⟨(unhide S7).I.at4.2.1, unhide X7⟩ ?_
          simp only [List.take_succ_cons, List.take_zero, List.drop_succ_cons, List.drop_zero]
          go_wp2_with fail
          first | refine next_nil ?_ | refine next_go ?_
          have S8 := hide ((unhide S7).kept ((Kept.refl wb p q).set (b := p) (j := 1 + d.toNat) (x := .int .i64 r) (.inl rfl)) ((unhide S7).bx.sreg d r hd hd' hr))
          have X8 := hide (Bits.other (p := p) (j := 1 + d.toNat) (u := .int .i64 r) (unhide X7) hbp)
          clear cd fz hp6 S7 X7
          generalize wb.setCell ⟨p, 1 + d.toNat, none⟩ (.int .i64 r) = wc at *
          refine reg_end (by kernel_rfl) ⟨(unhide S8).I.at4.2.1, unhide X8⟩ ?_
          have B5 := hide (unhide S8).bx
          clear S8 X8
          have c13 := (unhide B5).at.2.2.2.2.2.1
          have fz5 := (unhide B5).flat
          have hp5 := (unhide B5).pw
          have B6 := hide ((unhide B5).put (m' := ({ (Ma.setR { m with c := (bq (m.reg d) 0), z := r == 0, n := r / 32768 == 1, v := false } d r : Ma) with pc := nx } : Ma)) 13 (.int .i64 nx) (by decide) rfl rfl rfl { (unhide B5).fine with pc := hl2 })
          go_wp2_with fail
          go_ret
          unfold SRet
          refine ⟨_, _, rfl, ?_, by rw [unhide HNX, unhide HE, ← unhide HT]; exact unhide B6⟩
          omega
        · skip
          have S7 := hide ((unhide S5).step ((unhide hK).mono S5b))
          obtain ⟨y0, y1, y2, y3⟩ := (unhide S7).I.at4
          obtain ⟨z0, z1, z2, z3⟩ := (unhide S7).F.at4
          have ce := (unhide hX).at 15 (by decide)
          have fzb := (unhide hX).frz
          have X8 := hide (show Bits (wr.setCell ⟨b, 15, none⟩ (.bool (bq (m.reg d) 15))) b F by have := (unhide hX).set 15 (by decide) (bq (m.reg d) 15); rw [show updB (fun j => if j < 15 then bq (m.reg d) (j + 1) else bq (m.reg d) j) 15 (bq (m.reg d) 15) = F from unhide HF] at this; exact this)
          have S8 := hide ((unhide S5).step (((unhide hK).setCell (p := ⟨b, 15, none⟩) (Nat.le_refl _) (.bool (bq (m.reg d) 15))).mono S5b))
          have hpi := (unhide S5).I.1
          have hbp : b ≠ p := by have := (unhide S5).li; have := (unhide S5).lp; omega
          have hbq : b ≠ q := by have := (unhide S5).li; have := (unhide S5).lq; omega
          rw [htp] at X8 S8
          clear hX hK S5 S7
          go_wp2_with fail
          clear y0 y1 y2 y3 z0 z1 z2 z3 ce fzb
          generalize wr.setCell ⟨b, 15, none⟩ (.bool false) = w8 at *
          refine reg_start (fun W => W.cell? ⟨pi, 1, none⟩ = some (.int .i64 d) ∧ W.heap[b]? = some (.cells (bA F) 96 (0, 0))) (by kernel_rfl) ?_
          have S9 := hide ((unhide S8).step (Below.refl _ _).drew)
          have X9 := hide (Bits.step (unhide X8) (Below.refl _ _).drew)
          clear S8 X8
          generalize w8.drew = W at *
          refine reg_seg 0 4 9 (by kernel_rfl) (by decide) (by kernel_rfl) (by kernel_rfl) (fun _ _ _ _ _ h => h) ?_
          simp only [List.take_succ_cons, List.take_zero, List.drop_succ_cons, List.drop_zero]
          repeat (refine wpSteady_step (fun K hK => ?_); go_simp; first | (refine steady_of ?_ (fun W hW => ?_) (hK _ ?_); rotate_left; (obtain ⟨hc9, hc8⟩ := hW; go_simp; first | done | rfl); clear hK K) | (refine hK _ ?_; clear hK K))
          refine wpSteady_nil ?_
          refine reg_seg 4 1 8 (by kernel_rfl) (by decide) (by kernel_rfl) (by kernel_rfl) (fun _ _ _ _ _ h => h) ?_
          simp only [List.take_succ_cons, List.take_zero, List.drop_succ_cons, List.drop_zero]
          refine steady_load_row rfl 96 (.tmp 12) rfl b rfl 96 (bA F) (0, 0) _ (fun W hW => hW.2) Try.underlying96 rfl Try.sizeBits ?_
          refine wpSteady_nil ?_
          refine reg_seg 6 1 7 (by kernel_rfl) (by decide) (by kernel_rfl) (by kernel_rfl) (fun _ _ _ _ _ h => h) ?_
          simp only [List.take_succ_cons, List.take_zero, List.drop_succ_cons, List.drop_zero]
          repeat (refine wpSteady_step (fun K hK => ?_); go_simp; first | (refine steady_of ?_ (fun W hW => ?_) (hK _ ?_); rotate_left; (obtain ⟨hc9, hc8⟩ := hW; go_simp; first | done | rfl); clear hK K) | (refine hK _ ?_; clear hK K))
          refine wpSteady_nil ?_
          refine reg_seg 8 3 4 (by kernel_rfl) (by decide) (by kernel_rfl) (by kernel_rfl) (fun _ _ _ _ _ h => h) ?_
          simp only [List.take_succ_cons, List.take_zero, List.drop_succ_cons, List.drop_zero]
          repeat (refine wpSteady_step (fun K hK => ?_); go_simp; first | (refine steady_of ?_ (fun W hW => ?_) (hK _ ?_); rotate_left; (obtain ⟨hc9, hc8⟩ := hW; go_simp; first | done | rfl); clear hK K) | (refine hK _ ?_; clear hK K))
          refine wpSteady_nil ?_
          refine reg_one 5 3 (by kernel_rfl) (by kernel_rfl) ⟨(unhide S9).I.at4.2.1, unhide X9⟩ ?_
          simp only [List.take_succ_cons, List.take_zero, List.drop_succ_cons, List.drop_zero]
          go_wp2_with fail
          refine (unhide NM W).mono ?_
          rintro e wa ⟨rfl, ka⟩
          have S6 := hide ((unhide S9).step ka)
          have X6 := hide (Bits.step (unhide X9) ka)
          clear ka S9 X9
          go_wp2_with fail
          first | refine next_nil ?_ | refine next_go ?_
          refine reg_one 7 2 (by kernel_rfl) (by kernel_rfl) ⟨(unhide S6).I.at4.2.1, unhide X6⟩ ?_
          simp only [List.take_succ_cons, List.take_zero, List.drop_succ_cons, List.drop_zero]
          go_wp2_with fail
          refine (plain3_any (unhide S6).bx r (bq (m.reg d) 0) hr).mono ?_
          rintro e wb ⟨rfl, b6, k6⟩
          have S7 := hide ((unhide S6).kept k6 b6)
          have X7 := hide (Bits.kept (unhide X6) k6 hbp hbq)
          clear b6 k6 S6 X6
          go_wp2_with fail
          first | refine next_nil ?_ | refine next_go ?_
          refine reg_seg 11 1 1 (by kernel_rfl) (by decide) (by kernel_rfl) (by kernel_rfl) (fun _ _ _ _ _ h => h) ?_
          simp only [List.take_succ_cons, List.take_zero, List.drop_succ_cons, List.drop_zero]
          repeat (refine wpSteady_step (fun K hK => ?_); go_simp; first | (refine steady_of ?_ (fun W hW => ?_) (hK _ ?_); rotate_left; (obtain ⟨hc9, hc8⟩ := hW; go_simp; first | done | rfl); clear hK K) | (refine hK _ ?_; clear hK K))
          refine wpSteady_nil ?_
          have cd := (unhide S7).bx.reg hd hd'
          have fz := (unhide S7).bx.flat
          have hp6 := (unhide S7).bx.pw
          refine reg_one 12 0 (by kernel_rfl) (by kernel_rfl) ⟨(unhide S7).I.at4.2.1, unhide X7⟩ ?_
          simp only [List.take_succ_cons, List.take_zero, List.drop_succ_cons, List.drop_zero]
          go_wp2_with fail
          first | refine next_nil ?_ | refine next_go ?_
          have S8 := hide ((unhide S7).kept ((Kept.refl wb p q).set (b := p) (j := 1 + d.toNat) (x := .int .i64 r) (.inl rfl)) ((unhide S7).bx.sreg d r hd hd' hr))
          have X8 := hide (Bits.other (p := p) (j := 1 + d.toNat) (u := .int .i64 r) (unhide X7) hbp)
          clear cd fz hp6 S7 X7
          generalize wb.setCell ⟨p, 1 + d.toNat, none⟩ (.int .i64 r) = wc at *
          refine reg_end (by kernel_rfl) ⟨(unhide S8).I.at4.2.1, unhide X8⟩ ?_
          have B5 := hide (unhide S8).bx
          clear S8 X8
          have c13 := (unhide B5).at.2.2.2.2.2.1
          have fz5 := (unhide B5).flat
          have hp5 := (unhide B5).pw
          have B6 := hide ((unhide B5).put (m' := ({ (Ma.setR { m with c := (bq (m.reg d) 0), z := r == 0, n := r / 32768 == 1, v := false } d r : Ma) with pc := nx } : Ma)) 13 (.int .i64 nx) (by decide) rfl rfl rfl { (unhide B5).fine with pc := hl2 })
          go_wp2_with fail
          go_ret
          unfold SRet
          refine ⟨_, _, rfl, ?_, by rw [unhide HNX, unhide HE, ← unhide HT]; exact unhide B6⟩
          omega
set_option maxRecDepth 100000 in
set_option maxHeartbeats 4000000 in
theorem sx18 {w0 w : World} {p q n : Nat} {vc vm vi vo : Value} {m : Ma} {ms xs bs : List Int} (h : BX w0 w p q n vc vm vi vo m ms xs bs) (d s mm k : Int) (R : oneA xs m.pc = (⟨18, d, s, mm⟩, k)) (hd : 0 ≤ d) (hd' : d ≤ 7) (hs : 0 ≤ s) (hs' : s ≤ 7) (hm : wd mm) (hk1 : 1 ≤ k) (hk2 : k ≤ 2) (hn : n < 2000000) :
    Calls Try.prog 31 #[.pointer (some ⟨p, 0, none⟩)] w fun e w' => SRet w0 p q n vc vm vi ms xs bs 0 ({ m.become d (dnb (m.reg d) (oi m.c)) (m.reg d % 2 == 1) with pc := lw (m.pc + k) }) e w' := by
  have hrd0 := h.fine.reg hd hd'
  obtain ⟨F, hF⟩ : ∃ F, updB (fun j => if j < 15 then bq (m.reg d) (j + 1) else bq (m.reg d) j) 15 (m.c) = F := ⟨_, rfl⟩
  obtain ⟨r, hr, NM0, HE0⟩ : ∃ r, wd r ∧ (∀ W, Calls Try.prog 50 #[.agg (bA F)] W fun e w' => e = .returned (.int .i64 r) ∧ Below W.heap.size W w') ∧ dnb (m.reg d) (oi (m.c)) = r := ⟨_, nb_wd F, fun W => number_any F W, by rw [← hF]; exact (nb_dn hrd0 (m.c) (by simp [updB]) (fun j hj => by unfold updB; rw [if_neg (by omega)]; dsimp only; rw [if_pos (by omega)])).symm⟩
  have NM := hide NM0
  have HE : Hid (dnb (m.reg d) (oi m.c) = r) := by exact HE0
  have HF := hide hF
  have HT := hide (bq_0 (m.reg d))
  clear NM0 HE0 hF hrd0
  have ON := hide (fun W hW => rOne_any xs vc m.pc W hW)
  rw [R] at ON
  unfold agg at ON
  have HI := hide (fun (W : World) (k : Below w.heap.size w W) => h.code.step (h.low.trans (k.mono h.low.size)))
  have HB := hide h
  have HQ := hide (fun (W : World) (k : Below w.heap.size w W) => (show W.cell? ⟨p, 0, none⟩ = some vc ∧ W.cell? ⟨p, 13, none⟩ = some (.int .i64 m.pc) from ⟨cell_keep k h.pw h.at.1, cell_keep k h.pw h.at.2.2.2.2.2.1⟩))
  have hp := h.pw
  have hqw := h.qw
  have hpc := h.fine.pc
  have hrd := h.fine.reg hd hd'
  have hrs := h.fine.reg hs hs'
  have hc0 := h.at.1
  have hc13 := h.at.2.2.2.2.2.1
  clear h R
  go_enter Try.func31, Try.ntmps31
  go_upto_region 1 with fail
  refine reg_start (fun W => W.cell? ⟨p, 0, none⟩ = some vc ∧ W.cell? ⟨p, 13, none⟩ = some (.int .i64 m.pc)) (by kernel_rfl) ?_
  have T := hide (OneS.start w)
  clear hc0 hc13
  generalize w.drew = W at *
  refine reg_seg 0 9 7 (by kernel_rfl) (by decide) (by kernel_rfl) (by kernel_rfl) (fun _ _ _ _ _ h => h) ?_
  simp only [List.take_succ_cons, List.take_zero, List.drop_succ_cons, List.drop_zero]
  repeat (refine wpSteady_step (fun K hK => ?_); go_simp; first | (refine steady_of ?_ (fun W hW => ?_) (hK _ ?_); rotate_left; (obtain ⟨ca, cb⟩ := hW; go_simp; first | done | rfl); clear hK K) | (refine hK _ ?_; clear hK K))
  refine wpSteady_nil ?_
  apply reg_meet1 (R := fun pi W => OneS w true pi W)
  · intro hm
    refine reg_two 9 13 6 (by kernel_rfl) (by kernel_rfl) (unhide HQ W (unhide T).kw) ?_ ?_
    · skip
      simp only [List.take_succ_cons, List.take_zero, List.drop_succ_cons, List.drop_zero]
      go_wp2_with fail
      refine (unhide ON W (unhide HI W (unhide T).kw)).mono ?_
      rintro e wn ⟨rfl, kn⟩
      have T' := hide ((unhide T).call kn)
      have T := T'
      clear kn T'
      generalize wn = W at *
      go_wp2_with fail
      first | refine next_nil ?_ | refine next_go ?_
      refine reg_seg 10 3 3 (by kernel_rfl) (by decide) (by kernel_rfl) (by kernel_rfl) (fun _ _ _ _ _ h => h) ?_
      simp only [List.take_succ_cons, List.take_zero, List.drop_succ_cons, List.drop_zero]
      repeat (refine wpSteady_step (fun K hK => ?_); go_simp; first | (refine steady_of ?_ (fun W hW => ?_) (hK _ ?_); rotate_left; (obtain ⟨ca, cb⟩ := hW; go_simp; first | done | rfl); clear hK K) | (refine hK _ ?_; clear hK K))
      refine wpSteady_nil ?_
      refine reg_one 13 2 (by kernel_rfl) (by kernel_rfl) (unhide HQ W (unhide T).kw) ?_
      simp only [List.take_succ_cons, List.take_zero, List.drop_succ_cons, List.drop_zero]
      go_wp2_with fail
      have T' := hide ((unhide T).al (T := 49))
      have T := T'
      clear T'
      generalize W.alloc (.cells #[.int .i64 0, .int .i64 0, .int .i64 0, .int .i64 0] 49) = W' at *
      generalize W.heap.size = pi at *
      generalize W' = W at *
      first | refine next_nil ?_ | refine next_go ?_
      refine reg_said #[true, true, true, true, true, true, true, true, true, true, true, true, true, true, false, false] (by kernel_rfl) ?_
      exact hm pi W (unhide T)
    · skip
      simp only [List.take_succ_cons, List.take_zero, List.drop_succ_cons, List.drop_zero]
      go_wp2_with fail
      have T' := hide ((unhide T).al (T := 49))
      have T := T'
      clear T'
      generalize W.alloc (.cells #[.int .i64 0, .int .i64 0, .int .i64 0, .int .i64 0] 49) = W' at *
      generalize W.heap.size = pi at *
      generalize W' = W at *
      first | refine next_nil ?_ | refine next_go ?_
      refine reg_one 9 5 (by kernel_rfl) (by kernel_rfl) (unhide HQ W (unhide T).kw) ?_
      simp only [List.take_succ_cons, List.take_zero, List.drop_succ_cons, List.drop_zero]
      go_wp2_with fail
      refine (unhide ON W (unhide HI W (unhide T).kw)).mono ?_
      rintro e wn ⟨rfl, kn⟩
      have T' := hide ((unhide T).call kn)
      have T := T'
      clear kn T'
      generalize wn = W at *
      go_wp2_with fail
      first | refine next_nil ?_ | refine next_go ?_
      refine reg_seg 10 3 2 (by kernel_rfl) (by decide) (by kernel_rfl) (by kernel_rfl) (fun _ _ _ _ _ h => h) ?_
      simp only [List.take_succ_cons, List.take_zero, List.drop_succ_cons, List.drop_zero]
      repeat (refine wpSteady_step (fun K hK => ?_); go_simp; first | (refine steady_of ?_ (fun W hW => ?_) (hK _ ?_); rotate_left; (obtain ⟨ca, cb⟩ := hW; go_simp; first | done | rfl); clear hK K) | (refine hK _ ?_; clear hK K))
      refine wpSteady_nil ?_
      refine reg_said #[true, true, true, true, true, true, true, true, true, true, true, true, true, true, false, false] (by kernel_rfl) ?_
      exact hm pi W (unhide T)
  · intro pi W T0
    have T := hide T0
    clear T0
    obtain ⟨G5, lpi⟩ := (unhide T).bx rfl
    have H5 := hide G5
    obtain ⟨x0, x1, x2, x3⟩ := G5.at4
    have x4 := G5.2.2
    clear G5
    refine reg_one 14 1 (by kernel_rfl) (by kernel_rfl) (unhide HQ W (unhide T).kw) ?_
    simp only [List.take_succ_cons, List.take_zero, List.drop_succ_cons, List.drop_zero]
    go_wp2_with fail
    first | refine next_nil ?_ | refine next_go ?_
    have K2 := hide (below_4 (unhide T).kw lpi (.int .i64 18) (.int .i64 d) (.int .i64 s) (.int .i64 mm))
    have I2 := hide ((unhide H5).four (.int .i64 18) (.int .i64 d) (.int .i64 s) (.int .i64 mm))
    clear x0 x1 x2 x3 x4 H5 T
    generalize (((W.setCell ⟨pi, 0, none⟩ (.int .i64 18)).setCell ⟨pi, 1, none⟩ (.int .i64 d)).setCell ⟨pi, 2, none⟩ (.int .i64 s)).setCell ⟨pi, 3, none⟩ (.int .i64 mm) = w2 at *
    refine reg_seg 15 1 0 (by kernel_rfl) (by decide) (by kernel_rfl) (by kernel_rfl) (fun _ _ _ _ _ h => h) ?_
    simp only [List.take_succ_cons, List.take_zero, List.drop_succ_cons, List.drop_zero]
    repeat (refine wpSteady_step (fun K hK => ?_); go_simp; first | (refine steady_of ?_ (fun W hW => ?_) (hK _ ?_); rotate_left; (obtain ⟨ca, cb⟩ := hW; go_simp; first | done | rfl); clear hK K) | (refine hK _ ?_; clear hK K))
    refine wpSteady_nil ?_
    refine reg_end (by kernel_rfl) (unhide HQ w2 (unhide K2)) ?_
    have B2 := hide ((unhide HB).step (unhide K2))
    have sz2 := (unhide K2).size
    have lp2 := (unhide I2).1
    obtain ⟨-, c9, c10, c11, c12, c13, -, -, -, -, -, -, -⟩ := (unhide B2).at
    have hk0 : (k == 0) = false := beq_eq_false_iff_ne.2 (by omega)
    have hpc' := hpc
    unfold wd at hpc'
    have hwr2 := wrap_ok (x := m.pc + k) (by omega) (by omega)
    have tl2 := tm_lw (x := m.pc + k) (by omega)
    have hl2 := lw_b (m.pc + k)
    generalize hnx : lw (m.pc + k) = nx at *
    have HNX := hide hnx
    clear hnx
    have S3 := hide (SX.mk (w := w) ((unhide B2).new (.cells #[.bool m.c, .bool m.z, .bool m.n, .bool m.v] 25)) ((unhide I2).step (below_a _ _)) (Box.new w2 #[.bool m.c, .bool m.z, .bool m.n, .bool m.v] 25) lpi sz2 hp hqw)
    clear HB HQ HI ON
    go_wp2_with fail
    generalize w2.alloc (.cells #[.bool m.c, .bool m.z, .bool m.n, .bool m.v] 25) = w3 at *
    generalize w2.heap.size = pf at *
    clear B2 I2 K2 c9 c10 c11 c12 c13
    obtain ⟨y0, y1, y2, y3⟩ := (unhide S3).I.at4
    obtain ⟨z0, z1, z2, z3⟩ := (unhide S3).F.at4
    have cd := (unhide S3).bx.reg hd hd'
    have cs := (unhide S3).bx.reg hs hs'
    have fz := (unhide S3).bx.flat
    have hd8 : d < 8 := by omega
    have hs8 : s < 8 := by omega
    have hp3 := (unhide S3).bx.pw
    go_quiet (fail)
    have S4 := hide ((unhide S3).step (show Below w3.heap.size w3 (w3.drewN nq) from ⟨rfl, rfl, rfl, Nat.le_refl _, fun _ _ => rfl⟩))
    clear S3 y0 y1 y2 y3 z0 z1 z2 z3 cd cs fz hp3
    generalize w3.drewN nq = w4 at *
    obtain ⟨y0, y1, y2, y3⟩ := (unhide S4).I.at4
    obtain ⟨z0, z1, z2, z3⟩ := (unhide S4).F.at4
    have cd := (unhide S4).bx.reg hd hd'
    have cs := (unhide S4).bx.reg hs hs'
    have fz := (unhide S4).bx.flat
    have hp4 := (unhide S4).bx.pw
    go_wp2_with fail
    refine (bits_any (m.reg d) w4 hrd).mono ?_
    rintro e w5 ⟨rfl, k5⟩
    have S5 := hide ((unhide S4).step k5)
    clear k5 S4 cd cs fz hp4 y0 y1 y2 y3 z0 z1 z2 z3
    have Z6 := hide (show Bits (w5.alloc (.cells #[.bool false, .bool false, .bool false, .bool false, .bool false, .bool false, .bool false, .bool false, .bool false, .bool false, .bool false, .bool false, .bool false, .bool false, .bool false, .bool false] 96)) w5.heap.size (fun _ => false) from bits_new w5 (fun _ => false))
    have X6 := hide (Bits.row (g := bq (m.reg d)) (unhide Z6))
    have K6 := hide (Below.row (below_a w5 (.cells #[.bool false, .bool false, .bool false, .bool false, .bool false, .bool false, .bool false, .bool false, .bool false, .bool false, .bool false, .bool false, .bool false, .bool false, .bool false, .bool false] 96)) (Nat.le_refl _) (bA (bq (m.reg d))))
    have c15 := (unhide X6).at 15 (by decide)
    have c00 := (unhide X6).at 0 (by decide)
    go_wp2_with (refine wpList_store_row rfl 96 (.tmp 12) (.tmp 294) rfl w5.heap.size (bA (bq (m.reg d))) rfl rfl 96 _ (unhide Z6) Try.sizeBits rfl (bA_one _) ?_)
    clear Z6
    generalize (w5.alloc (.cells #[.bool false, .bool false, .bool false, .bool false, .bool false, .bool false, .bool false, .bool false, .bool false, .bool false, .bool false, .bool false, .bool false, .bool false, .bool false, .bool false] 96)).setRow w5.heap.size (bA (bq (m.reg d))) = w6 at *
    go_quiet (fail)
    have X7 := hide (Bits.step (unhide X6) (show Below w6.heap.size w6 (w6.drewN nq) from ⟨rfl, rfl, rfl, Nat.le_refl _, fun _ _ => rfl⟩))
    have K7 := hide ((unhide K6).trans (show Below w5.heap.size w6 (w6.drewN nq) from ⟨rfl, rfl, rfl, Nat.le_refl _, fun _ _ => rfl⟩))
    clear X6 K6 c15 c00
    generalize w6.drewN nq = w7 at *
    go_wp2_with fail
    generalize hbb : w5.heap.size = b at *
    have lb5 := (unhide X7).lt
    have S5b : w5.heap.size ≤ b := by omega
    clear hbb
    go_loopg [15] 15 (fun g t wr => ∃ i : Nat, i ≤ 15 ∧ g = 15 - i ∧ t = .int .i64 (i : Int) ∧ Hid (Bits wr b (fun j => if j < i then bq (m.reg d) (j + 1) else bq (m.reg d) j)) ∧ Hid (Below b w5 wr))
    case atStart => exact ⟨0, Nat.zero_le _, rfl, rfl, hide ((unhide X7).congr (fun j hj => by rw [if_neg (by omega)])), K7⟩
    case round =>
      obtain ⟨i, hi, hg, rfl, hX, hK⟩ := hrel
      clear X7 K7
      by_cases hlt : i < 15
      · have ca := (unhide hX).at (i + 1) (by omega)
        rw [if_neg (by omega)] at ca
        have cb := (unhide hX).at i (by omega)
        have fz := (unhide hX).frz
        have en : ((i : Int) + 1).toNat = i + 1 := by omega
        have h0k : (i : Int) < 15 := by omega
        have h0j : (0 : Int) ≤ (i : Int) := by omega
        have h15 : (i : Int) < 16 := by omega
        have h16 : (i : Int) + 1 < 16 := by omega
        have h17 : (0 : Int) ≤ (i : Int) + 1 := by omega
        have X1 := hide (((unhide hX).set i (by omega) (bq (m.reg d) (i + 1))).congr (g := fun j => if j < i + 1 then bq (m.reg d) (j + 1) else bq (m.reg d) j) (fun j hj => by
          unfold updB
          by_cases e : j = i
          · subst e; rw [if_pos rfl, if_pos (by omega)]
          · rw [if_neg e]
            dsimp only
            by_cases e2 : j < i
            · rw [if_pos e2, if_pos (by omega)]
            · rw [if_neg e2, if_neg (by omega)]))
        have K1 := hide ((unhide hK).setCell (p := ⟨b, i, none⟩) (Nat.le_refl _) (.bool (bq (m.reg d) (i + 1))))
        clear hX hK
        generalize bq (m.reg d) (i + 1) = u at *
        go_wp2_with fail
        go_roundg (15 - (i + 1))
        case measure => omega
        case rel => exact ⟨i + 1, by omega, rfl, by go_num, X1, K1⟩
      · obtain rfl : i = 15 := by omega
        have S7 := hide ((unhide S5).step ((unhide hK).mono S5b))
        obtain ⟨y0, y1, y2, y3⟩ := (unhide S7).I.at4
        obtain ⟨z0, z1, z2, z3⟩ := (unhide S7).F.at4
        have ce := (unhide hX).at 15 (by decide)
        have fzb := (unhide hX).frz
        have X8 := hide (show Bits (wr.setCell ⟨b, 15, none⟩ (.bool (m.c))) b F by have := (unhide hX).set 15 (by decide) (m.c); rw [show updB (fun j => if j < 15 then bq (m.reg d) (j + 1) else bq (m.reg d) j) 15 (m.c) = F from unhide HF] at this; exact this)
        have S8 := hide ((unhide S5).step (((unhide hK).setCell (p := ⟨b, 15, none⟩) (Nat.le_refl _) (.bool (m.c))).mono S5b))
        have hpi := (unhide S5).I.1
        have hbp : b ≠ p := by have := (unhide S5).li; have := (unhide S5).lp; omega
        have hbq : b ≠ q := by have := (unhide S5).li; have := (unhide S5).lq; omega
        clear hX hK S5 S7
        go_wp2_with fail
        clear y0 y1 y2 y3 z0 z1 z2 z3 ce fzb
        generalize wr.setCell ⟨b, 15, none⟩ (.bool m.c) = w8 at *
        refine reg_start (fun W => W.cell? ⟨pi, 1, none⟩ = some (.int .i64 d) ∧ W.heap[b]? = some (.cells (bA F) 96 (0, 0))) (by kernel_rfl) ?_
        have S9 := hide ((unhide S8).step (Below.refl _ _).drew)
        have X9 := hide (Bits.step (unhide X8) (Below.refl _ _).drew)
        clear S8 X8
        generalize w8.drew = W at *
        refine reg_seg 0 4 9 (by kernel_rfl) (by decide) (by kernel_rfl) (by kernel_rfl) (fun _ _ _ _ _ h => h) ?_
        simp only [List.take_succ_cons, List.take_zero, List.drop_succ_cons, List.drop_zero]
        repeat (refine wpSteady_step (fun K hK => ?_); go_simp; first | (refine steady_of ?_ (fun W hW => ?_) (hK _ ?_); rotate_left; (obtain ⟨hc9, hc8⟩ := hW; go_simp; first | done | rfl); clear hK K) | (refine hK _ ?_; clear hK K))
        refine wpSteady_nil ?_
        refine reg_seg 4 1 8 (by kernel_rfl) (by decide) (by kernel_rfl) (by kernel_rfl) (fun _ _ _ _ _ h => h) ?_
        simp only [List.take_succ_cons, List.take_zero, List.drop_succ_cons, List.drop_zero]
        refine steady_load_row rfl 96 (.tmp 12) rfl b rfl 96 (bA F) (0, 0) _ (fun W hW => hW.2) Try.underlying96 rfl Try.sizeBits ?_
        refine wpSteady_nil ?_
        refine reg_seg 6 1 7 (by kernel_rfl) (by decide) (by kernel_rfl) (by kernel_rfl) (fun _ _ _ _ _ h => h) ?_
        simp only [List.take_succ_cons, List.take_zero, List.drop_succ_cons, List.drop_zero]
        repeat (refine wpSteady_step (fun K hK => ?_); go_simp; first | (refine steady_of ?_ (fun W hW => ?_) (hK _ ?_); rotate_left; (obtain ⟨hc9, hc8⟩ := hW; go_simp; first | done | rfl); clear hK K) | (refine hK _ ?_; clear hK K))
        refine wpSteady_nil ?_
        refine reg_seg 8 3 4 (by kernel_rfl) (by decide) (by kernel_rfl) (by kernel_rfl) (fun _ _ _ _ _ h => h) ?_
        simp only [List.take_succ_cons, List.take_zero, List.drop_succ_cons, List.drop_zero]
        repeat (refine wpSteady_step (fun K hK => ?_); go_simp; first | (refine steady_of ?_ (fun W hW => ?_) (hK _ ?_); rotate_left; (obtain ⟨hc9, hc8⟩ := hW; go_simp; first | done | rfl); clear hK K) | (refine hK _ ?_; clear hK K))
        refine wpSteady_nil ?_
        refine reg_one 5 3 (by kernel_rfl) (by kernel_rfl) ⟨(unhide S9).I.at4.2.1, unhide X9⟩ ?_
        simp only [List.take_succ_cons, List.take_zero, List.drop_succ_cons, List.drop_zero]
        go_wp2_with fail
        refine (unhide NM W).mono ?_
        rintro e wa ⟨rfl, ka⟩
        have S6 := hide ((unhide S9).step ka)
        have X6 := hide (Bits.step (unhide X9) ka)
        clear ka S9 X9
        go_wp2_with fail
        first | refine next_nil ?_ | refine next_go ?_
        refine reg_one 7 2 (by kernel_rfl) (by kernel_rfl) ⟨(unhide S6).I.at4.2.1, unhide X6⟩ ?_
        simp only [List.take_succ_cons, List.take_zero, List.drop_succ_cons, List.drop_zero]
        go_wp2_with fail
        refine (plain3_any (unhide S6).bx r (bq (m.reg d) 0) hr).mono ?_
        rintro e wb ⟨rfl, b6, k6⟩
        have S7 := hide ((unhide S6).kept k6 b6)
        have X7 := hide (Bits.kept (unhide X6) k6 hbp hbq)
        clear b6 k6 S6 X6
        go_wp2_with fail
        first | refine next_nil ?_ | refine next_go ?_
        refine reg_seg 11 1 1 (by kernel_rfl) (by decide) (by kernel_rfl) (by kernel_rfl) (fun _ _ _ _ _ h => h) ?_
        simp only [List.take_succ_cons, List.take_zero, List.drop_succ_cons, List.drop_zero]
        repeat (refine wpSteady_step (fun K hK => ?_); go_simp; first | (refine steady_of ?_ (fun W hW => ?_) (hK _ ?_); rotate_left; (obtain ⟨hc9, hc8⟩ := hW; go_simp; first | done | rfl); clear hK K) | (refine hK _ ?_; clear hK K))
        refine wpSteady_nil ?_
        have cd := (unhide S7).bx.reg hd hd'
        have fz := (unhide S7).bx.flat
        have hp6 := (unhide S7).bx.pw
        refine reg_one 12 0 (by kernel_rfl) (by kernel_rfl) ⟨(unhide S7).I.at4.2.1, unhide X7⟩ ?_
        simp only [List.take_succ_cons, List.take_zero, List.drop_succ_cons, List.drop_zero]
        go_wp2_with fail
        first | refine next_nil ?_ | refine next_go ?_
        have S8 := hide ((unhide S7).kept ((Kept.refl wb p q).set (b := p) (j := 1 + d.toNat) (x := .int .i64 r) (.inl rfl)) ((unhide S7).bx.sreg d r hd hd' hr))
        have X8 := hide (Bits.other (p := p) (j := 1 + d.toNat) (u := .int .i64 r) (unhide X7) hbp)
        clear cd fz hp6 S7 X7
        generalize wb.setCell ⟨p, 1 + d.toNat, none⟩ (.int .i64 r) = wc at *
        refine reg_end (by kernel_rfl) ⟨(unhide S8).I.at4.2.1, unhide X8⟩ ?_
        have B5 := hide (unhide S8).bx
        clear S8 X8
        have c13 := (unhide B5).at.2.2.2.2.2.1
        have fz5 := (unhide B5).flat
        have hp5 := (unhide B5).pw
        have B6 := hide ((unhide B5).put (m' := ({ (Ma.setR { m with c := (bq (m.reg d) 0), z := r == 0, n := r / 32768 == 1, v := false } d r : Ma) with pc := nx } : Ma)) 13 (.int .i64 nx) (by decide) rfl rfl rfl { (unhide B5).fine with pc := hl2 })
        go_wp2_with fail
        go_ret
        unfold SRet
        refine ⟨_, _, rfl, ?_, by rw [unhide HNX, unhide HE, ← unhide HT]; exact unhide B6⟩
        omega
end Go.Proofs.Ytjlbenbfmookoaa
