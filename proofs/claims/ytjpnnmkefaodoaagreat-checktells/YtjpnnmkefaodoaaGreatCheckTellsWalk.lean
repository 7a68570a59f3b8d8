/-
  Check tells the first thing that is wrong with any program.
-/
import Derived.Test.YtjpnnmkefaodoaaGreatyRcNy
namespace Go.Proofs.YtjpnnmkefaodoaaGreat
open Go.RowKit Go.Maps Go.Great
set_option linter.unusedSimpArgs false
set_option linter.unusedVariables false

set_option maxRecDepth 100000 in
set_option maxHeartbeats 2000000 in
theorem walk_checkTells (p : Pg) (v1 v2 : Value) (w : World) (hp : PgL w.heap.size w v1 v2 p) :
    Calls Tryz.prog 3 #[.agg #[v1, v2]] w fun e w' => e = .returned (.bool true) ∧ Below w.heap.size w w' := by
  obtain ⟨ga, gc, rfl, hgm⟩ := hp.g.slice
  obtain ⟨fa, fc, rfl, hfm⟩ := hp.f.slice
  have k1 := qaa w (.cells #[.slice ga p.globals.length gc, .slice fa p.funcs.length fc] 25)
  have HBP := zH (BoxC.new w #[.slice ga p.globals.length gc, .slice fa p.funcs.length fc] 25 (by decide))
  have hs := World.heap_alloc_size w (.cells #[.slice ga p.globals.length gc, .slice fa p.funcs.length fc] 25)
  have HP := zH (show PgL _ (w.alloc (.cells #[.slice ga p.globals.length gc, .slice fa p.funcs.length fc] 25)) _ _ p from ⟨(hp.g.step k1).mono9 (show w.heap.size ≤ (w.alloc (.cells #[.slice ga p.globals.length gc, .slice fa p.funcs.length fc] 25)).heap.size by omega), (hp.f.step k1).mono9 (show w.heap.size ≤ (w.alloc (.cells #[.slice ga p.globals.length gc, .slice fa p.funcs.length fc] 25)).heap.size by omega)⟩)
  have K0 := zH k1
  have CK : ∀ W, Below (w.alloc (.cells #[.slice ga p.globals.length gc, .slice fa p.funcs.length fc] 25)).heap.size (w.alloc (.cells #[.slice ga p.globals.length gc, .slice fa p.funcs.length fc] 25)) W → Calls Tryz.prog 5 #[.agg #[.slice ga p.globals.length gc, .slice fa p.funcs.length fc]] W (CkR p W) := fun W h => check_any p _ _ W ⟨((uI HP).g.step h).mono9 h.size, ((uI HP).f.step h).mono9 h.size⟩
  have CR : ∀ W, Below (w.alloc (.cells #[.slice ga p.globals.length gc, .slice fa p.funcs.length fc] 25)).heap.size (w.alloc (.cells #[.slice ga p.globals.length gc, .slice fa p.funcs.length fc] 25)) W → Calls Tryz.prog 6 #[.agg #[.slice ga p.globals.length gc, .slice fa p.funcs.length fc]] W (CkR p W) := fun W h => rcheck_any p _ _ W ⟨((uI HP).g.step h).mono9 h.size, ((uI HP).f.step h).mono9 h.size⟩
  unfold CkR at CK CR
  generalize ckP p = R at *
  obtain ⟨er, pl⟩ := R
  dsimp only at CK CR
  have CK := zH CK
  have CR := zH CR
  obtain ⟨c0, c1⟩ := (uI HBP).box.at2
  have hsp := (uI HBP).lt
  clear hp k1 HP HBP hs
  go_enter Tryz.func3, Tryz.ntmps3
  go_wp2_with fail
  generalize w.alloc (.cells #[.slice ga p.globals.length gc, .slice fa p.funcs.length fc] 25) = W0 at *
  refine zL (by kernel_rfl) (by kernel_rfl) ?_
  intro L hne lt hlc hlf hlm
  repeat (go_big_quiet_step (first | (go_at_call 5; exact zM hlm (uI CK _ (hlm.1 _))) | (go_at_call 6; exact zM hlm (uI CR _ (hlm.1 _)))))
  refine wpQuiet_nil ?_
  intro wq kq
  clear hlm hlf hlc lt hne L
  obtain ⟨hqc, hqf⟩ := qad kq
  clear CK CR
  go_wp2_with fail
  go_ret
  exact ⟨by simp, (uI K0).trans (kq.mono (uI K0).size)⟩
end Go.Proofs.YtjpnnmkefaodoaaGreat
