/-
  ProbeLooks: the last test of a round.
-/
import Derived.Test.YtjlbenbfmookoaaPrA
import Derived.Deep.MidRow
namespace Go.Proofs.Ytjlbenbfmookoaa
open Go.RowKit
set_option linter.unusedSimpArgs false
set_option linter.unusedVariables false

/-- A region of a function's code, by its number. -/
noncomputable def findR (k : Nat) : Code → Option Code
  | .region id ops d => if id = k then some (.region id ops d) else none
  | .seq a b => match findR k a with
    | some c => some c
    | none => findR k b
  | .cond _ a b => match findR k a with
    | some c => some c
    | none => findR k b
  | .block _ b => findR k b
  | .loop b => findR k b
  | .scope b => findR k b
  | _ => none
/-- wpSteady, shut: else whnf looks into all that is not wanted. -/
structure WSt (P : Program) (ops : Array Oper) (C : World → Prop) (R : Act → Prop) (l : List Oper) (a : Act) : Prop where
  out : wpSteady P ops C R l a
theorem WSt.step {P : Program} {ops : Array Oper} {C : World → Prop} {R : Act → Prop} {a : Act} {o : Oper} {rest : List Oper} (h : ∀ K : Act → Prop, (∀ a, WSt P ops C R rest a → K a) → if Region.wanted o (yielded ops a.tmps) then steady P o a C K else K (a.put o.dst undef)) : WSt P ops C R (o :: rest) a :=
  ⟨wpSteady_step fun K hK => h K fun a ha => hK a ha.out⟩
theorem WSt.nil {P : Program} {ops : Array Oper} {C : World → Prop} {R : Act → Prop} {a : Act} (h : R a) : WSt P ops C R [] a := ⟨wpSteady_nil h⟩
noncomputable def regL (k : Nat) : Code := (findR k (Try.f4.body.getD .skip)).getD .skip

set_option maxRecDepth 100000 in
set_option maxHeartbeats 20000000 in
theorem looks_r15 {Q : Exit → Act → World → Prop} {u0 u1 u2 u3 u4 u5 u6 u7 u8 u9 u10 u12 u13 u14 u17 u19 u20 u21 u22 u23 u24 u25 u26 u27 u28 u29 u30 u31 u32 u33 u34 u35 u36 u37 u38 u39 u40 u41 u42 u43 u44 u45 u46 u47 u48 u49 u50 u51 u52 u53 u54 u55 u56 u57 u58 u59 u60 u61 u62 u63 u64 u65 u66 u67 u68 u69 u70 u71 u72 u73 u74 u75 u76 u77 u78 u79 u80 u81 u82 u83 u84 u85 u86 u87 u88 u89 u90 u91 u92 u93 u94 u95 u96 u97 u98 u99 u100 u101 u102 u103 u104 u105 u106 u107 u108 u109 u110 u111 u112 u113 u114 u115 u116 u117 u118 u119 u120 u121 u122 u123 u124 u125 u126 : Value} {w : World} {lb loff len cap bx i i1 : Nat} {n xa xo za : Int}
    (e0 : w.cell? ⟨bx, 0, none⟩ = some (.int .i64 xa)) (e1 : w.cell? ⟨bx, 1, none⟩ = some (.int .i64 xo)) (e2 : bx < w.heap.size)
    (hwi : IntKind.i64.wrap ((i : Int) + 1) = (i1 : Int)) (hwi2 : wrap64 ((i : Int) + 1) = (i1 : Int)) (hwx : IntKind.i64.wrap (xa + n) = xa + n) (hwx2 : wrap64 (xa + n) = xa + n) (hx0 : 0 ≤ xa + n)
    (hz : Hid ((i1 : Int) < (len : Int) → w.cell? ⟨lb, loff + i1 * 17, none⟩ = some (.int .i64 za) ∧ lb < w.heap.size ∧ ((xo < 19 ∨ 27 < xo) → (xa + n) % 65536 = za)))
    (H : Hid (∀ v95 v96 v97 v98 v99 v100 v101 v102 v103 v104 v105 v106 v107 v108 v109 v110 v111 v112 v113 v114 v115 v116 v117 v118 v119 v120 v121 v122 v123 v124, Q .normal { tmps := #[u0, u1, u2, u3, u4, u5, u6, u7, u8, u9, u10, .slice (some ⟨lb, loff, none⟩) len cap, u12, u13, u14, .int .i64 (i : Int), .pointer (some ⟨bx, 0, none⟩), u17, .int .i64 n, u19, u20, u21, u22, u23, u24, u25, u26, u27, u28, u29, u30, u31, u32, u33, u34, u35, u36, u37, u38, u39, u40, u41, u42, u43, u44, u45, u46, u47, u48, u49, u50, u51, u52, u53, u54, u55, u56, u57, u58, u59, u60, u61, u62, u63, u64, u65, u66, u67, u68, u69, u70, u71, u72, u73, u74, u75, u76, u77, u78, u79, u80, u81, u82, u83, u84, u85, u86, u87, u88, u89, u90, u91, u92, u93, u94, v95, v96, v97, v98, v99, v100, v101, v102, v103, v104, v105, v106, v107, v108, v109, v110, v111, v112, v113, v114, v115, v116, v117, v118, v119, v120, v121, v122, v123, v124, .bool false, u126], defers := [] } w.drew)) :
    (regL 15).wp Try.prog Q { tmps := #[u0, u1, u2, u3, u4, u5, u6, u7, u8, u9, u10, .slice (some ⟨lb, loff, none⟩) len cap, u12, u13, u14, .int .i64 (i : Int), .pointer (some ⟨bx, 0, none⟩), u17, .int .i64 n, u19, u20, u21, u22, u23, u24, u25, u26, u27, u28, u29, u30, u31, u32, u33, u34, u35, u36, u37, u38, u39, u40, u41, u42, u43, u44, u45, u46, u47, u48, u49, u50, u51, u52, u53, u54, u55, u56, u57, u58, u59, u60, u61, u62, u63, u64, u65, u66, u67, u68, u69, u70, u71, u72, u73, u74, u75, u76, u77, u78, u79, u80, u81, u82, u83, u84, u85, u86, u87, u88, u89, u90, u91, u92, u93, u94, u95, u96, u97, u98, u99, u100, u101, u102, u103, u104, u105, u106, u107, u108, u109, u110, u111, u112, u113, u114, u115, u116, u117, u118, u119, u120, u121, u122, u123, u124, u125, u126], defers := [] } w := by
  have hzn : (za != za) = false := by simp
  unfold regL
  conv => arg 2; whnf
  by_cases hl : (i1 : Int) < (len : Int)
  · have bl : decide ((i1 : Int) < (len : Int)) = true := by simpa using hl
    have bl2 : i1 < len := by omega
    obtain ⟨z0, z1, z2⟩ := unhideI hz hl
    by_cases h19 : xo < 19
    · have d19 : decide (xo < 19) = true := by simpa using h19
      have hr2 := z2 (.inl h19)
      have hr1 : (xa + n).tmod 65536 = za := by rw [Int.tmod_eq_emod_of_nonneg hx0]; exact hr2
      clear z2 h19 hl
      refine reg_start (fun W => W.cell? ⟨bx, 0, none⟩ = some (.int .i64 xa) ∧ W.cell? ⟨bx, 1, none⟩ = some (.int .i64 xo) ∧ W.cell? ⟨lb, loff + i1 * 17, none⟩ = some (.int .i64 za)) (by kernel_rfl) ?_
      have CW : Hid (w.drew.cell? ⟨bx, 0, none⟩ = some (.int .i64 xa) ∧ w.drew.cell? ⟨bx, 1, none⟩ = some (.int .i64 xo) ∧ w.drew.cell? ⟨lb, loff + i1 * 17, none⟩ = some (.int .i64 za)) := ⟨e0, e1, z0⟩
      clear e0 e1 z0
      generalize w.drew = w1 at *
      refine reg_seg 0 31 0 (by kernel_rfl) (by decide) (by kernel_rfl) (by kernel_rfl) (fun _ _ _ _ _ h => h) ?_
      simp only [List.take_succ_cons, List.take_zero, List.drop_succ_cons, List.drop_zero]
      refine WSt.out ?_
      repeat (refine WSt.step (fun K hK => ?_); go_simp; first | (refine steady_of ?_ (fun W hW => ?_) (hK _ ?_); rotate_left; (obtain ⟨y0, y1, y2⟩ := hW; go_simp; first | done | rfl); clear hK K) | (refine hK _ ?_; clear hK K))
      refine WSt.nil ?_
      refine reg_end (by kernel_rfl) (unhideI CW) ?_
      exact unhideI H _ _ _ _ _ _ _ _ _ _ _ _ _ _ _ _ _ _ _ _ _ _ _ _ _ _ _ _ _ _ 
    · have d19 : decide (xo < 19) = false := by simpa using h19
      by_cases h27 : 27 < xo
      · have d27 : decide (27 < xo) = true := by simpa using h27
        have hr2 := z2 (.inr h27)
        have hr1 : (xa + n).tmod 65536 = za := by rw [Int.tmod_eq_emod_of_nonneg hx0]; exact hr2
        clear z2 h19 h27 hl
        refine reg_start (fun W => W.cell? ⟨bx, 0, none⟩ = some (.int .i64 xa) ∧ W.cell? ⟨bx, 1, none⟩ = some (.int .i64 xo) ∧ W.cell? ⟨lb, loff + i1 * 17, none⟩ = some (.int .i64 za)) (by kernel_rfl) ?_
        have CW : Hid (w.drew.cell? ⟨bx, 0, none⟩ = some (.int .i64 xa) ∧ w.drew.cell? ⟨bx, 1, none⟩ = some (.int .i64 xo) ∧ w.drew.cell? ⟨lb, loff + i1 * 17, none⟩ = some (.int .i64 za)) := ⟨e0, e1, z0⟩
        clear e0 e1 z0
        generalize w.drew = w1 at *
        refine reg_seg 0 31 0 (by kernel_rfl) (by decide) (by kernel_rfl) (by kernel_rfl) (fun _ _ _ _ _ h => h) ?_
        simp only [List.take_succ_cons, List.take_zero, List.drop_succ_cons, List.drop_zero]
        refine WSt.out ?_
        repeat (refine WSt.step (fun K hK => ?_); go_simp; first | (refine steady_of ?_ (fun W hW => ?_) (hK _ ?_); rotate_left; (obtain ⟨y0, y1, y2⟩ := hW; go_simp; first | done | rfl); clear hK K) | (refine hK _ ?_; clear hK K))
        refine WSt.nil ?_
        refine reg_end (by kernel_rfl) (unhideI CW) ?_
        exact unhideI H _ _ _ _ _ _ _ _ _ _ _ _ _ _ _ _ _ _ _ _ _ _ _ _ _ _ _ _ _ _ 
      · have d27 : decide (27 < xo) = false := by simpa using h27
        clear z2 h19 h27 hl hz hwx hwx2 hx0 hzn z1
        refine reg_start (fun W => W.cell? ⟨bx, 0, none⟩ = some (.int .i64 xa) ∧ W.cell? ⟨bx, 1, none⟩ = some (.int .i64 xo) ∧ W.cell? ⟨lb, loff + i1 * 17, none⟩ = some (.int .i64 za)) (by kernel_rfl) ?_
        have CW : Hid (w.drew.cell? ⟨bx, 0, none⟩ = some (.int .i64 xa) ∧ w.drew.cell? ⟨bx, 1, none⟩ = some (.int .i64 xo) ∧ w.drew.cell? ⟨lb, loff + i1 * 17, none⟩ = some (.int .i64 za)) := ⟨e0, e1, z0⟩
        clear e0 e1 z0
        generalize w.drew = w1 at *
        refine reg_seg 0 31 0 (by kernel_rfl) (by decide) (by kernel_rfl) (by kernel_rfl) (fun _ _ _ _ _ h => h) ?_
        simp only [List.take_succ_cons, List.take_zero, List.drop_succ_cons, List.drop_zero]
        refine WSt.out ?_
        repeat (refine WSt.step (fun K hK => ?_); go_simp; first | (refine steady_of ?_ (fun W hW => ?_) (hK _ ?_); rotate_left; (obtain ⟨y0, y1, y2⟩ := hW; go_simp; first | done | rfl); clear hK K) | (refine hK _ ?_; clear hK K))
        refine WSt.nil ?_
        refine reg_end (by kernel_rfl) (unhideI CW) ?_
        exact unhideI H _ _ _ _ _ _ _ _ _ _ _ _ _ _ _ _ _ _ _ _ _ _ _ _ _ _ _ _ _ _ 
  · have bl : decide ((i1 : Int) < (len : Int)) = false := by simpa using hl
    have bl2 : decide (i1 < len) = false := by simp; omega
    clear hl hz
    refine reg_start (fun W => W.cell? ⟨bx, 0, none⟩ = some (.int .i64 xa) ∧ W.cell? ⟨bx, 1, none⟩ = some (.int .i64 xo)) (by kernel_rfl) ?_
    have CW : Hid (w.drew.cell? ⟨bx, 0, none⟩ = some (.int .i64 xa) ∧ w.drew.cell? ⟨bx, 1, none⟩ = some (.int .i64 xo)) := ⟨e0, e1⟩
    clear e0 e1
    generalize w.drew = w1 at *
    refine reg_seg 0 31 0 (by kernel_rfl) (by decide) (by kernel_rfl) (by kernel_rfl) (fun _ _ _ _ _ h => h) ?_
    simp only [List.take_succ_cons, List.take_zero, List.drop_succ_cons, List.drop_zero]
    refine WSt.out ?_
    repeat (refine WSt.step (fun K hK => ?_); go_simp; first | (refine steady_of ?_ (fun W hW => ?_) (hK _ ?_); rotate_left; (obtain ⟨y0, y1⟩ := hW; go_simp; first | done | rfl); clear hK K) | (refine hK _ ?_; clear hK K))
    refine WSt.nil ?_
    refine reg_end (by kernel_rfl) (unhideI CW) ?_
    exact unhideI H _ _ _ _ _ _ _ _ _ _ _ _ _ _ _ _ _ _ _ _ _ _ _ _ _ _ _ _ _ _ 
end Go.Proofs.Ytjlbenbfmookoaa
