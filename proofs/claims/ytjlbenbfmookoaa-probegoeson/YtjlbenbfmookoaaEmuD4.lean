/-
  What instructions do (29, 30, 31).
-/
import Derived.Test.YtjlbenbfmookoaaEmuT
namespace Go.Proofs.Ytjlbenbfmookoaa
open Go.RowKit
set_option linter.unusedSimpArgs false
set_option linter.unusedVariables false
variable {X : Sd}

theorem Ma.Fine.took1 {m : Ma} {bs : List Int} (h : m.Fine bs) : wd (m.took1 bs) := by
  unfold Ma.took1 wd
  split
  · omega
  · have hr := h.rd
    by_cases hl : m.rd < bs.length
    · rw [List.getD_eq_getElem?_getD, List.getElem?_eq_getElem hl]
      have := h.inp _ (List.getElem_mem hl)
      simp only [Option.getD_some]; omega
    · omega

set_option maxRecDepth 100000 in
set_option maxHeartbeats 1000000 in
theorem do29 {w0 w : World} {p q : Nat} {vc vi vo : Value} {m : Ma} {xs bs : List Int} (h : Mach X w0 w p q vc vi vo m xs bs) (d s mm : Int) (hd : 0 ≤ d) (hd' : d ≤ 7) (hs : 0 ≤ s) (hs' : s ≤ 7) (hm : wd mm) :
    Calls Try.prog 67 #[.pointer (some ⟨p, 0, none⟩), .agg #[.int .i64 29, .int .i64 d, .int .i64 s, .int .i64 mm]] w fun e w' => ∃ vo', e = .returned (.tuple #[]) ∧ Mach X w0 w' p q vc vi vo' (m.pop.setR d (m.ld (m.reg 7))) xs bs := by
  have HM := hideI h
  have c0 := h.reg hd hd'
  have c1 := h.reg hs hs'
  have c7 := h.reg7
  obtain ⟨-, -, -, -, c12, c13, -, -, c16, c17, -, -, -⟩ := h.at
  have fz := h.flat
  have fq := h.frz
  have hp := h.pw
  have hqw := h.hqw
  have hpq := h.hpq
  have hrd := h.fine.reg hd hd'
  have hrs := h.fine.reg hs hs'
  have hv := h.fine.ld (h.fine.reg (d := 7) (by decide) (by decide))
  have n1 : w.heap.size ≠ p := by omega
  have n2 : w.heap.size ≠ q := by omega
  clear h
  go_enter Try.func67, Try.ntmps67
  go_wp2_with fail
  go_region_with (go_at_call 74; refine (pop_any ((unhideI HM).new _).drew).mono ?_; rintro e w1 ⟨rfl, M1, k1⟩; have HM1 := hideI M1; have cd := M1.reg hd hd'; have fz1 := M1.flat; obtain ⟨b0, b1, b2, b3⟩ := ((Box.new w #[.int .i64 29, .int .i64 d, .int .i64 s, .int .i64 mm] 49).drew.kept k1 n1 n2).at4; clear M1 k1)
  all_goals
    go_wp2_with fail
    go_end0
    exact ⟨_, rfl, (unhideI HM1).sreg d (m.ld (m.reg 7)) hd hd' hv⟩
set_option maxRecDepth 100000 in
set_option maxHeartbeats 1000000 in
theorem do30 {w0 w : World} {p q : Nat} {vc vi vo : Value} {m : Ma} {xs bs : List Int} (h : Mach X w0 w p q vc vi vo m xs bs) (d s mm : Int) (hd : 0 ≤ d) (hd' : d ≤ 7) (hs : 0 ≤ s) (hs' : s ≤ 7) (hm : wd mm) :
    Calls Try.prog 67 #[.pointer (some ⟨p, 0, none⟩), .agg #[.int .i64 30, .int .i64 d, .int .i64 s, .int .i64 mm]] w fun e w' => ∃ vo', e = .returned (.tuple #[]) ∧ Mach X w0 w' p q vc vi vo' (m.tell (m.reg s)) xs bs := by
  have HM := hideI h
  have c0 := h.reg hd hd'
  have c1 := h.reg hs hs'
  have c7 := h.reg7
  obtain ⟨-, -, -, -, c12, c13, -, -, c16, c17, -, -, -⟩ := h.at
  have fz := h.flat
  have fq := h.frz
  have hp := h.pw
  have hqw := h.hqw
  have hpq := h.hpq
  have hrd := h.fine.reg hd hd'
  have hrs := h.fine.reg hs hs'
  clear h
  go_enter Try.func67, Try.ntmps67
  go_wp2_with fail
  go_region_with (go_at_call 75; refine (tell_any ((unhideI HM).new _).drew _).mono ?_; rintro e w1 ⟨vo1, rfl, M1⟩; have HM1 := hideI M1; clear M1)
  all_goals
    go_wp2_with fail
    go_end0
    exact ⟨_, rfl, unhideI HM1⟩
set_option maxRecDepth 100000 in
set_option maxHeartbeats 1000000 in
theorem do31 {w0 w : World} {p q : Nat} {vc vi vo : Value} {m : Ma} {xs bs : List Int} (h : Mach X w0 w p q vc vi vo m xs bs) (d s mm : Int) (hd : 0 ≤ d) (hd' : d ≤ 7) (hs : 0 ≤ s) (hs' : s ≤ 7) (hm : wd mm) :
    Calls Try.prog 67 #[.pointer (some ⟨p, 0, none⟩), .agg #[.int .i64 31, .int .i64 d, .int .i64 s, .int .i64 mm]] w fun e w' => ∃ vo', e = .returned (.tuple #[]) ∧ Mach X w0 w' p q vc vi vo' ((m.take bs).setR d (m.took1 bs)) xs bs := by
  have HM := hideI h
  have c0 := h.reg hd hd'
  have c1 := h.reg hs hs'
  have c7 := h.reg7
  obtain ⟨-, -, -, -, c12, c13, -, -, c16, c17, -, -, -⟩ := h.at
  have fz := h.flat
  have fq := h.frz
  have hp := h.pw
  have hqw := h.hqw
  have hpq := h.hpq
  have hrd := h.fine.reg hd hd'
  have hrs := h.fine.reg hs hs'
  have hv := h.fine.took1
  have n1 : w.heap.size ≠ p := by omega
  have n2 : w.heap.size ≠ q := by omega
  clear h
  go_enter Try.func67, Try.ntmps67
  go_wp2_with fail
  go_region_with (go_at_call 76; refine (take_any ((unhideI HM).new _).drew).mono ?_; rintro e w1 ⟨rfl, M1, k1⟩; have HM1 := hideI M1; have cd := M1.reg hd hd'; have fz1 := M1.flat; obtain ⟨b0, b1, b2, b3⟩ := ((Box.new w #[.int .i64 31, .int .i64 d, .int .i64 s, .int .i64 mm] 49).drew.kept k1 n1 n2).at4; clear M1 k1)
  all_goals
    go_wp2_with fail
    go_end0
    exact ⟨_, rfl, (unhideI HM1).sreg d (m.took1 bs) hd hd' hv⟩
end Go.Proofs.Ytjlbenbfmookoaa
