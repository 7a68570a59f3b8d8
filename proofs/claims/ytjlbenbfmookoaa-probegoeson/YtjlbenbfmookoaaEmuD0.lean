/-
  What instructions do (3, 4).
-/
import Derived.Test.YtjlbenbfmookoaaEmuC
namespace Go.Proofs.Ytjlbenbfmookoaa
open Go.RowKit
set_option linter.unusedSimpArgs false
set_option linter.unusedVariables false
variable {X : Sd}

set_option maxRecDepth 100000 in
set_option maxHeartbeats 400000 in
theorem do3 {w0 w : World} {p q : Nat} {vc vi vo : Value} {m : Ma} {xs bs : List Int} (h : Mach X w0 w p q vc vi vo m xs bs) (d s mm : Int) (hd : 0 ≤ d) (hd' : d ≤ 7) (hs : 0 ≤ s) (hs' : s ≤ 7) (hm : wd mm) :
    Calls Try.prog 67 #[.pointer (some ⟨p, 0, none⟩), .agg #[.int .i64 3, .int .i64 d, .int .i64 s, .int .i64 mm]] w fun e w' => ∃ vo', e = .returned (.tuple #[]) ∧ Mach X w0 w' p q vc vi vo' (m.setR d (m.ld (lw (m.reg s + mm)))) xs bs := by
  have HM := hideI h
  have c0 := h.reg hd hd'
  have c1 := h.reg hs hs'
  have c7 := h.reg7
  obtain ⟨-, -, -, -, c12, c13, -, -, c16, c17, -, -, -⟩ := h.at
  have fz := h.flat
  have fq := h.frz
  have hp := h.pw
  have hqw := h.hqw
  have hpq := h.hpq
  have hrd := h.fine.reg hd hd'
  have hrs := h.fine.reg hs hs'
  have hl := lw_b (m.reg s + mm)
  have hv := h.fine.ld (d := lw (m.reg s + mm)) hl
  have cm : w.cell? ⟨q, (lw (m.reg s + mm)).toNat, none⟩ = some (.int .i64 (m.ld (lw (m.reg s + mm)))) := h.mem _ (by omega)
  have hwr := wrap_ok (x := m.reg s + mm) (by unfold wd at *; omega) (by unfold wd at *; omega)
  clear h
  go_enter Try.func67, Try.ntmps67
  go_wp2_with fail
  have hd8 : d < 8 := by omega
  have hs8 : s < 8 := by omega
  obtain ⟨hl0, hl1⟩ := hl
  have hl2 : lw (m.reg s + mm) < 65536 := by omega
  refine wp_region_head 26 (by kernel_rfl) (by kernel_rfl) ?_
  simp only [List.take_succ_cons, List.take_zero, List.drop_succ_cons, List.drop_zero]
  repeat (first | still_step | still_call (place_any _ _))
  refine wpStill_nil ?_
  go_wp2_with fail
  go_end0
  exact ⟨_, rfl, (((unhideI HM).sreg d (m.ld (lw (m.reg s + mm))) hd hd' hv).new _).drew⟩
set_option maxRecDepth 100000 in
set_option maxHeartbeats 400000 in
theorem do4 {w0 w : World} {p q : Nat} {vc vi vo : Value} {m : Ma} {xs bs : List Int} (h : Mach X w0 w p q vc vi vo m xs bs) (d s mm : Int) (hd : 0 ≤ d) (hd' : d ≤ 7) (hs : 0 ≤ s) (hs' : s ≤ 7) (hm : wd mm) :
    Calls Try.prog 67 #[.pointer (some ⟨p, 0, none⟩), .agg #[.int .i64 4, .int .i64 d, .int .i64 s, .int .i64 mm]] w fun e w' => ∃ vo', e = .returned (.tuple #[]) ∧ Mach X w0 w' p q vc vi vo' (m.st (lw (m.reg d + mm)) (m.reg s)) xs bs := by
  have HM := hideI h
  have c0 := h.reg hd hd'
  have c1 := h.reg hs hs'
  have c7 := h.reg7
  obtain ⟨-, -, -, -, c12, c13, -, -, c16, c17, -, -, -⟩ := h.at
  have fz := h.flat
  have fq := h.frz
  have hp := h.pw
  have hqw := h.hqw
  have hpq := h.hpq
  have hrd := h.fine.reg hd hd'
  have hrs := h.fine.reg hs hs'
  have hl := lw_b (m.reg d + mm)
  have cm : w.cell? ⟨q, (lw (m.reg d + mm)).toNat, none⟩ = some (.int .i64 (m.ld (lw (m.reg d + mm)))) := h.mem _ (by omega)
  have hwr := wrap_ok (x := m.reg d + mm) (by unfold wd at *; omega) (by unfold wd at *; omega)
  clear h
  go_enter Try.func67, Try.ntmps67
  go_wp2_with fail
  have hd8 : d < 8 := by omega
  have hs8 : s < 8 := by omega
  obtain ⟨hl0, hl1⟩ := hl
  have hl2 : lw (m.reg d + mm) < 65536 := by omega
  refine wp_region_head 26 (by kernel_rfl) (by kernel_rfl) ?_
  simp only [List.take_succ_cons, List.take_zero, List.drop_succ_cons, List.drop_zero]
  repeat (first | still_step | still_call (place_any _ _))
  refine wpStill_nil ?_
  go_wp2_with fail
  go_end0
  exact ⟨_, rfl, (((unhideI HM).sto (lw (m.reg d + mm)) (m.reg s) ⟨hl0, hl1⟩ hrs).new _).drew⟩
end Go.Proofs.Ytjlbenbfmookoaa
