/-
  What instructions do (0, 32, 1, 2, 3, 4).
-/
import Derived.Test.YtjlbenbfmookoaaEmuC
namespace Go.Proofs.Ytjlbenbfmookoaa
open Go.RowKit
set_option linter.unusedSimpArgs false
set_option linter.unusedVariables false
variable {X : Sd}

set_option maxRecDepth 100000 in
set_option maxHeartbeats 1000000 in
theorem do0 {w0 w : World} {p q : Nat} {vc vi vo : Value} {m : Ma} {xs bs : List Int} (h : Mach X w0 w p q vc vi vo m xs bs) (d s mm : Int) (hd : 0 ≤ d) (hd' : d ≤ 7) (hs : 0 ≤ s) (hs' : s ≤ 7) (hm : wd mm) :
    Calls Try.prog 67 #[.pointer (some ⟨p, 0, none⟩), .agg #[.int .i64 0, .int .i64 d, .int .i64 s, .int .i64 mm]] w fun e w' => ∃ vo', e = .returned (.tuple #[]) ∧ Mach X w0 w' p q vc vi vo' ({ m with how := 1 }) xs bs := by
  have HM := hideI h
  have c0 := h.reg hd hd'
  have c1 := h.reg hs hs'
  have c7 := h.reg7
  obtain ⟨-, -, -, -, c12, c13, -, -, c16, c17, -, -, -⟩ := h.at
  have fz := h.flat
  have fq := h.frz
  have hp := h.pw
  have hqw := h.hqw
  have hpq := h.hpq
  have hrd := h.fine.reg hd hd'
  have hrs := h.fine.reg hs hs'
  clear h
  go_enter Try.func67, Try.ntmps67
  go_wp2_with fail
  go_end0
  exact ⟨_, rfl, ((unhideI HM).put (m' := { m with how := 1 }) 16 (.int .i64 1) (by decide) rfl rfl rfl { (unhideI HM).fine with }).new _⟩
set_option maxRecDepth 100000 in
set_option maxHeartbeats 1000000 in
theorem do32 {w0 w : World} {p q : Nat} {vc vi vo : Value} {m : Ma} {xs bs : List Int} (h : Mach X w0 w p q vc vi vo m xs bs) (d s mm : Int) (hd : 0 ≤ d) (hd' : d ≤ 7) (hs : 0 ≤ s) (hs' : s ≤ 7) (hm : wd mm) :
    Calls Try.prog 67 #[.pointer (some ⟨p, 0, none⟩), .agg #[.int .i64 32, .int .i64 d, .int .i64 s, .int .i64 mm]] w fun e w' => ∃ vo', e = .returned (.tuple #[]) ∧ Mach X w0 w' p q vc vi vo' ({ m with how := 2, trap := mm }) xs bs := by
  have HM := hideI h
  have c0 := h.reg hd hd'
  have c1 := h.reg hs hs'
  have c7 := h.reg7
  obtain ⟨-, -, -, -, c12, c13, -, -, c16, c17, -, -, -⟩ := h.at
  have fz := h.flat
  have fq := h.frz
  have hp := h.pw
  have hqw := h.hqw
  have hpq := h.hpq
  have hrd := h.fine.reg hd hd'
  have hrs := h.fine.reg hs hs'
  clear h
  go_enter Try.func67, Try.ntmps67
  go_wp2_with fail
  go_region
  all_goals
    go_wp2_with fail
    go_end0
    have P1 := (unhideI HM).put (m' := { m with how := 2 }) 16 (.int .i64 2) (by decide) rfl rfl rfl { (unhideI HM).fine with }
    have P2 := P1.put (m' := { m with how := 2, trap := mm }) 17 (.int .i64 mm) (by decide) rfl rfl rfl { (unhideI HM).fine with }
    have R1 := (unhideI HM).put (m' := { m with trap := mm }) 17 (.int .i64 mm) (by decide) rfl rfl rfl { (unhideI HM).fine with }
    have R2 := R1.put (m' := { m with how := 2, trap := mm }) 16 (.int .i64 2) (by decide) rfl rfl rfl { (unhideI HM).fine with }
    first | exact ⟨_, rfl, (P2.new _).drew⟩ | exact ⟨_, rfl, (R2.new _).drew⟩
set_option maxRecDepth 100000 in
set_option maxHeartbeats 1000000 in
theorem do1 {w0 w : World} {p q : Nat} {vc vi vo : Value} {m : Ma} {xs bs : List Int} (h : Mach X w0 w p q vc vi vo m xs bs) (d s mm : Int) (hd : 0 ≤ d) (hd' : d ≤ 7) (hs : 0 ≤ s) (hs' : s ≤ 7) (hm : wd mm) :
    Calls Try.prog 67 #[.pointer (some ⟨p, 0, none⟩), .agg #[.int .i64 1, .int .i64 d, .int .i64 s, .int .i64 mm]] w fun e w' => ∃ vo', e = .returned (.tuple #[]) ∧ Mach X w0 w' p q vc vi vo' (m.setR d (m.reg s)) xs bs := by
  have HM := hideI h
  have c0 := h.reg hd hd'
  have c1 := h.reg hs hs'
  have c7 := h.reg7
  obtain ⟨-, -, -, -, c12, c13, -, -, c16, c17, -, -, -⟩ := h.at
  have fz := h.flat
  have fq := h.frz
  have hp := h.pw
  have hqw := h.hqw
  have hpq := h.hpq
  have hrd := h.fine.reg hd hd'
  have hrs := h.fine.reg hs hs'
  clear h
  go_enter Try.func67, Try.ntmps67
  go_wp2_with fail
  go_region
  all_goals
    go_wp2_with fail
    go_end0
    exact ⟨_, rfl, (((unhideI HM).sreg d (m.reg s) hd hd' hrs).new _).drew⟩
set_option maxRecDepth 100000 in
set_option maxHeartbeats 1000000 in
theorem do2 {w0 w : World} {p q : Nat} {vc vi vo : Value} {m : Ma} {xs bs : List Int} (h : Mach X w0 w p q vc vi vo m xs bs) (d s mm : Int) (hd : 0 ≤ d) (hd' : d ≤ 7) (hs : 0 ≤ s) (hs' : s ≤ 7) (hm : wd mm) :
    Calls Try.prog 67 #[.pointer (some ⟨p, 0, none⟩), .agg #[.int .i64 2, .int .i64 d, .int .i64 s, .int .i64 mm]] w fun e w' => ∃ vo', e = .returned (.tuple #[]) ∧ Mach X w0 w' p q vc vi vo' (m.setR d mm) xs bs := by
  have HM := hideI h
  have c0 := h.reg hd hd'
  have c1 := h.reg hs hs'
  have c7 := h.reg7
  obtain ⟨-, -, -, -, c12, c13, -, -, c16, c17, -, -, -⟩ := h.at
  have fz := h.flat
  have fq := h.frz
  have hp := h.pw
  have hqw := h.hqw
  have hpq := h.hpq
  have hrd := h.fine.reg hd hd'
  have hrs := h.fine.reg hs hs'
  clear h
  go_enter Try.func67, Try.ntmps67
  go_wp2_with fail
  go_region
  all_goals
    go_wp2_with fail
    go_end0
    exact ⟨_, rfl, (((unhideI HM).sreg d mm hd hd' hm).new _).drew⟩
end Go.Proofs.Ytjlbenbfmookoaa
