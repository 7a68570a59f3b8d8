/-
  What is wrong with a program, and how it is written: the program and the document answer the same.
-/
import Derived.Test.YtbakhengcgclmaaGreatDoorRsM
import Derived.Test.YtbakhengcgclmaaGreatDoorOpenP
namespace Go.Proofs.YtbakhengcgclmaaGreatDoor
open Go.RowKit Go.Great
set_option linter.unusedSimpArgs false
set_option linter.unusedVariables false

set_option maxRecDepth 100000 in
set_option maxHeartbeats 2000000 in
theorem walk_sourceShows (p : Pg) (v1 v2 : Value) (w : World) (hp : PgL w.heap.size w v1 v2 p) (G : Gw w.heap.size w) (GO : Gop w) : Calls Tryz.prog 3 #[.agg #[v1, v2]] w fun e w' => e = .returned (.bool true) ∧ Below w.heap.size w w' := by
  obtain ⟨ga, gc, rfl, -⟩ := hp.g.slice
  obtain ⟨fa, fc, rfl, -⟩ := hp.f.slice
  have kal := below_a w (.cells #[.slice ga p.globals.length gc, .slice fa p.funcs.length fc] 25)
  have S0 := hideI (show Dp w (w.alloc (.cells #[.slice ga p.globals.length gc, .slice fa p.funcs.length fc] 25)) p (.slice ga p.globals.length gc) (.slice fa p.funcs.length fc) from ⟨kal, Box.new _ _ _, hp.step kal⟩)
  have HG : Hid (∀ W, Below w.heap.size w W → Gw W.heap.size W) := fun W q => ⟨(G.step q).tab, Nat.lt_of_lt_of_le G.lt q.size⟩
  have HO : Hid (∀ W, Below w.heap.size w W → Gop W) := fun W q => GO.step q
  have CS := hideI (fun (W : World) (s : Dp w W p (.slice ga p.globals.length gc) (.slice fa p.funcs.length fc)) => sshow_any p _ _ W (s.hp.mono s.d.size) (HG W s.d) (HO W s.d))
  have CR := hideI (fun (W : World) (s : Dp w W p (.slice ga p.globals.length gc) (.slice fa p.funcs.length fc)) => rshow_any p _ _ W (s.hp.mono s.d.size))
  have CW := hideI (fun (W : World) (s : Dp w W p (.slice ga p.globals.length gc) (.slice fa p.funcs.length fc)) => swrong_any p _ _ W (s.hp.mono s.d.size))
  have CV := hideI (fun (W : World) (s : Dp w W p (.slice ga p.globals.length gc) (.slice fa p.funcs.length fc)) => rwrong_any p _ _ W (s.hp.mono s.d.size))
  obtain ⟨q0, q1⟩ := (unhideI S0).bx.at2
  have hs0 := (unhideI S0).bx.1
  clear hp G GO kal HG HO
  generalize (⟨(showT p).1.toArray⟩ : ByteArray) = ST at *
  generalize (showT p).2 = SE at *
  generalize (lkP p).1 = LE at *
  have eqS : (ST.toList == ST.toList) = true := beq_self_eq_true ST.toList
  have eqE : (SE == SE) = true := beq_self_eq_true SE
  have eqL : (LE == LE) = true := beq_self_eq_true LE
  generalize hW0 : w.alloc (.cells #[.slice ga p.globals.length gc, .slice fa p.funcs.length fc] 25) = W0 at *
  go_enter Tryz.func3, Tryz.ntmps3
  go_wp2_with fail
  refine (unhideI CS _ (unhideI S0)).mono ?_
  rintro e w1 ⟨rfl, k1⟩
  have S1 := hideI ((unhideI S0).next k1)
  clear k1 S0 CS q0 q1 hs0
  obtain ⟨q0, q1⟩ := (unhideI S1).bx.at2
  have hs1 := (unhideI S1).bx.1
  go_wp2_with fail
  refine (unhideI CR _ (unhideI S1)).mono ?_
  rintro e w2 ⟨rfl, k2⟩
  have S2 := hideI ((unhideI S1).next k2)
  clear k2 S1 CR q0 q1 hs1
  obtain ⟨q0, q1⟩ := (unhideI S2).bx.at2
  have hs2 := (unhideI S2).bx.1
  go_wp2_with fail
  refine wp_region_later (by kernel_rfl) (by kernel_rfl) ?_
  intro L hne lt hlc hlf hlm
  repeat (go_big_quiet_step (fail))
  go_big_quiet_want
  go_big_quiet_op
  go_big_quiet_call (exact later_call hlm (unhideI CW _ ((unhideI S2).next (hlm.1 _))))
  repeat (go_big_quiet_step (fail))
  go_big_quiet_want
  go_big_quiet_op
  go_big_quiet_call (exact later_call hlm (unhideI CV _ ((unhideI S2).next (hlm.1 _))))
  repeat (go_big_quiet_step (fail))
  refine wpQuiet_nil ?_
  intro wq kq
  clear hlm hlf hlc lt hne L
  obtain ⟨hqc, hqf⟩ := below_cells kq
  have S3 := hideI ((unhideI S2).next kq)
  clear hqc hqf q0 q1 S2 CW CV
  go_wp2_with fail
  go_ret
  exact ⟨rfl, (unhideI S3).d⟩
end Go.Proofs.YtbakhengcgclmaaGreatDoor
