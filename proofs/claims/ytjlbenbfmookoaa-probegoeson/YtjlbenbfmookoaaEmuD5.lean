/-
  What instructions do (5, 6, 7, 8, 12, 13, 14, 15, 16, 17, 18).
-/
import Derived.Test.YtjlbenbfmookoaaEmuE
import Derived.Test.YtjlbenbfmookoaaEmuF1
import Derived.Test.YtjlbenbfmookoaaEmuF2
import Derived.Test.YtjlbenbfmookoaaEmuF3
namespace Go.Proofs.Ytjlbenbfmookoaa
open Go.RowKit
set_option linter.unusedSimpArgs false
set_option linter.unusedVariables false
variable {X : Sd}

set_option maxRecDepth 100000 in
set_option maxHeartbeats 1000000 in
theorem do5 {w0 w : World} {p q : Nat} {vc vi vo : Value} {m : Ma} {xs bs : List Int} (h : Mach X w0 w p q vc vi vo m xs bs) (d s mm : Int) (hd : 0 ≤ d) (hd' : d ≤ 7) (hs : 0 ≤ s) (hs' : s ≤ 7) (hm : wd mm) :
    Calls Try.prog 67 #[.pointer (some ⟨p, 0, none⟩), .agg #[.int .i64 5, .int .i64 d, .int .i64 s, .int .i64 mm]] w fun e w' => ∃ vo', e = .returned (.tuple #[]) ∧ Mach X w0 w' p q vc vi vo' (m.sum d (m.reg d) (m.reg s) false) xs bs := by
  have HM := hideI h
  have c0 := h.reg hd hd'
  have c1 := h.reg hs hs'
  have c7 := h.reg7
  obtain ⟨-, -, -, -, c12, c13, -, -, c16, c17, -, -, -⟩ := h.at
  have fz := h.flat
  have fq := h.frz
  have hp := h.pw
  have hqw := h.hqw
  have hpq := h.hpq
  have hrd := h.fine.reg hd hd'
  have hrs := h.fine.reg hs hs'
  clear h
  go_enter Try.func67, Try.ntmps67
  go_wp2_with fail
  refine (co5 ((unhideI HM).new _) d s mm hd hd' hs hs').mono ?_
  rintro e w1 ⟨rfl, M1⟩
  have HM1 := hideI M1
  clear M1
  go_wp2_with fail
  go_end0
  exact ⟨_, rfl, unhideI HM1⟩
set_option maxRecDepth 100000 in
set_option maxHeartbeats 1000000 in
theorem do6 {w0 w : World} {p q : Nat} {vc vi vo : Value} {m : Ma} {xs bs : List Int} (h : Mach X w0 w p q vc vi vo m xs bs) (d s mm : Int) (hd : 0 ≤ d) (hd' : d ≤ 7) (hs : 0 ≤ s) (hs' : s ≤ 7) (hm : wd mm) :
    Calls Try.prog 67 #[.pointer (some ⟨p, 0, none⟩), .agg #[.int .i64 6, .int .i64 d, .int .i64 s, .int .i64 mm]] w fun e w' => ∃ vo', e = .returned (.tuple #[]) ∧ Mach X w0 w' p q vc vi vo' (m.sum d (m.reg d) (m.reg s) m.c) xs bs := by
  have HM := hideI h
  have c0 := h.reg hd hd'
  have c1 := h.reg hs hs'
  have c7 := h.reg7
  obtain ⟨-, -, -, -, c12, c13, -, -, c16, c17, -, -, -⟩ := h.at
  have fz := h.flat
  have fq := h.frz
  have hp := h.pw
  have hqw := h.hqw
  have hpq := h.hpq
  have hrd := h.fine.reg hd hd'
  have hrs := h.fine.reg hs hs'
  clear h
  go_enter Try.func67, Try.ntmps67
  go_wp2_with fail
  refine (co6 ((unhideI HM).new _) d s mm hd hd' hs hs').mono ?_
  rintro e w1 ⟨rfl, M1⟩
  have HM1 := hideI M1
  clear M1
  go_wp2_with fail
  go_end0
  exact ⟨_, rfl, unhideI HM1⟩
set_option maxRecDepth 100000 in
set_option maxHeartbeats 1000000 in
theorem do7 {w0 w : World} {p q : Nat} {vc vi vo : Value} {m : Ma} {xs bs : List Int} (h : Mach X w0 w p q vc vi vo m xs bs) (d s mm : Int) (hd : 0 ≤ d) (hd' : d ≤ 7) (hs : 0 ≤ s) (hs' : s ≤ 7) (hm : wd mm) :
    Calls Try.prog 67 #[.pointer (some ⟨p, 0, none⟩), .agg #[.int .i64 7, .int .i64 d, .int .i64 s, .int .i64 mm]] w fun e w' => ∃ vo', e = .returned (.tuple #[]) ∧ Mach X w0 w' p q vc vi vo' (m.dif d (m.reg d) (m.reg s) false) xs bs := by
  have HM := hideI h
  have c0 := h.reg hd hd'
  have c1 := h.reg hs hs'
  have c7 := h.reg7
  obtain ⟨-, -, -, -, c12, c13, -, -, c16, c17, -, -, -⟩ := h.at
  have fz := h.flat
  have fq := h.frz
  have hp := h.pw
  have hqw := h.hqw
  have hpq := h.hpq
  have hrd := h.fine.reg hd hd'
  have hrs := h.fine.reg hs hs'
  clear h
  go_enter Try.func67, Try.ntmps67
  go_wp2_with fail
  refine (co7 ((unhideI HM).new _) d s mm hd hd' hs hs').mono ?_
  rintro e w1 ⟨rfl, M1⟩
  have HM1 := hideI M1
  clear M1
  go_wp2_with fail
  go_end0
  exact ⟨_, rfl, unhideI HM1⟩
set_option maxRecDepth 100000 in
set_option maxHeartbeats 1000000 in
theorem do8 {w0 w : World} {p q : Nat} {vc vi vo : Value} {m : Ma} {xs bs : List Int} (h : Mach X w0 w p q vc vi vo m xs bs) (d s mm : Int) (hd : 0 ≤ d) (hd' : d ≤ 7) (hs : 0 ≤ s) (hs' : s ≤ 7) (hm : wd mm) :
    Calls Try.prog 67 #[.pointer (some ⟨p, 0, none⟩), .agg #[.int .i64 8, .int .i64 d, .int .i64 s, .int .i64 mm]] w fun e w' => ∃ vo', e = .returned (.tuple #[]) ∧ Mach X w0 w' p q vc vi vo' (m.dif d (m.reg d) (m.reg s) m.c) xs bs := by
  have HM := hideI h
  have c0 := h.reg hd hd'
  have c1 := h.reg hs hs'
  have c7 := h.reg7
  obtain ⟨-, -, -, -, c12, c13, -, -, c16, c17, -, -, -⟩ := h.at
  have fz := h.flat
  have fq := h.frz
  have hp := h.pw
  have hqw := h.hqw
  have hpq := h.hpq
  have hrd := h.fine.reg hd hd'
  have hrs := h.fine.reg hs hs'
  clear h
  go_enter Try.func67, Try.ntmps67
  go_wp2_with fail
  refine (co8 ((unhideI HM).new _) d s mm hd hd' hs hs').mono ?_
  rintro e w1 ⟨rfl, M1⟩
  have HM1 := hideI M1
  clear M1
  go_wp2_with fail
  go_end0
  exact ⟨_, rfl, unhideI HM1⟩
set_option maxRecDepth 100000 in
set_option maxHeartbeats 1000000 in
theorem do12 {w0 w : World} {p q : Nat} {vc vi vo : Value} {m : Ma} {xs bs : List Int} (h : Mach X w0 w p q vc vi vo m xs bs) (d s mm : Int) (hd : 0 ≤ d) (hd' : d ≤ 7) (hs : 0 ≤ s) (hs' : s ≤ 7) (hm : wd mm) :
    Calls Try.prog 67 #[.pointer (some ⟨p, 0, none⟩), .agg #[.int .i64 12, .int .i64 d, .int .i64 s, .int .i64 mm]] w fun e w' => ∃ vo', e = .returned (.tuple #[]) ∧ Mach X w0 w' p q vc vi vo' (m.cmp (m.reg d) (m.reg s) false) xs bs := by
  have HM := hideI h
  have c0 := h.reg hd hd'
  have c1 := h.reg hs hs'
  have c7 := h.reg7
  obtain ⟨-, -, -, -, c12, c13, -, -, c16, c17, -, -, -⟩ := h.at
  have fz := h.flat
  have fq := h.frz
  have hp := h.pw
  have hqw := h.hqw
  have hpq := h.hpq
  have hrd := h.fine.reg hd hd'
  have hrs := h.fine.reg hs hs'
  clear h
  go_enter Try.func67, Try.ntmps67
  go_wp2_with fail
  refine (co12 ((unhideI HM).new _) d s mm hd hd' hs hs').mono ?_
  rintro e w1 ⟨rfl, M1⟩
  have HM1 := hideI M1
  clear M1
  go_wp2_with fail
  go_end0
  exact ⟨_, rfl, unhideI HM1⟩
set_option maxRecDepth 100000 in
set_option maxHeartbeats 1000000 in
theorem do13 {w0 w : World} {p q : Nat} {vc vi vo : Value} {m : Ma} {xs bs : List Int} (h : Mach X w0 w p q vc vi vo m xs bs) (d s mm : Int) (hd : 0 ≤ d) (hd' : d ≤ 7) (hs : 0 ≤ s) (hs' : s ≤ 7) (hm : wd mm) :
    Calls Try.prog 67 #[.pointer (some ⟨p, 0, none⟩), .agg #[.int .i64 13, .int .i64 d, .int .i64 s, .int .i64 mm]] w fun e w' => ∃ vo', e = .returned (.tuple #[]) ∧ Mach X w0 w' p q vc vi vo' ({ m.cmp (m.reg d) (m.reg s) m.c with z := (m.cmp (m.reg d) (m.reg s) m.c).z && m.z }) xs bs := by
  have HM := hideI h
  have c0 := h.reg hd hd'
  have c1 := h.reg hs hs'
  have c7 := h.reg7
  obtain ⟨-, -, -, -, c12, c13, -, -, c16, c17, -, -, -⟩ := h.at
  have fz := h.flat
  have fq := h.frz
  have hp := h.pw
  have hqw := h.hqw
  have hpq := h.hpq
  have hrd := h.fine.reg hd hd'
  have hrs := h.fine.reg hs hs'
  clear h
  go_enter Try.func67, Try.ntmps67
  go_wp2_with fail
  refine (co13 ((unhideI HM).new _) d s mm hd hd' hs hs').mono ?_
  rintro e w1 ⟨rfl, M1⟩
  have HM1 := hideI M1
  clear M1
  go_wp2_with fail
  go_end0
  exact ⟨_, rfl, unhideI HM1⟩
set_option maxRecDepth 100000 in
set_option maxHeartbeats 1000000 in
theorem do14 {w0 w : World} {p q : Nat} {vc vi vo : Value} {m : Ma} {xs bs : List Int} (h : Mach X w0 w p q vc vi vo m xs bs) (d s mm : Int) (hd : 0 ≤ d) (hd' : d ≤ 7) (hs : 0 ≤ s) (hs' : s ≤ 7) (hm : wd mm) :
    Calls Try.prog 67 #[.pointer (some ⟨p, 0, none⟩), .agg #[.int .i64 14, .int .i64 d, .int .i64 s, .int .i64 mm]] w fun e w' => ∃ vo', e = .returned (.tuple #[]) ∧ Mach X w0 w' p q vc vi vo' (m.become d (upb (m.reg d) 0) (m.reg d / 32768 == 1)) xs bs := by
  have HM := hideI h
  have c0 := h.reg hd hd'
  have c1 := h.reg hs hs'
  have c7 := h.reg7
  obtain ⟨-, -, -, -, c12, c13, -, -, c16, c17, -, -, -⟩ := h.at
  have fz := h.flat
  have fq := h.frz
  have hp := h.pw
  have hqw := h.hqw
  have hpq := h.hpq
  have hrd := h.fine.reg hd hd'
  have hrs := h.fine.reg hs hs'
  clear h
  go_enter Try.func67, Try.ntmps67
  go_wp2_with fail
  refine (sh14 ((unhideI HM).new _) d s mm hd hd').mono ?_
  rintro e w1 ⟨rfl, M1⟩
  have HM1 := hideI M1
  clear M1
  go_wp2_with fail
  go_end0
  exact ⟨_, rfl, unhideI HM1⟩
set_option maxRecDepth 100000 in
set_option maxHeartbeats 1000000 in
theorem do15 {w0 w : World} {p q : Nat} {vc vi vo : Value} {m : Ma} {xs bs : List Int} (h : Mach X w0 w p q vc vi vo m xs bs) (d s mm : Int) (hd : 0 ≤ d) (hd' : d ≤ 7) (hs : 0 ≤ s) (hs' : s ≤ 7) (hm : wd mm) :
    Calls Try.prog 67 #[.pointer (some ⟨p, 0, none⟩), .agg #[.int .i64 15, .int .i64 d, .int .i64 s, .int .i64 mm]] w fun e w' => ∃ vo', e = .returned (.tuple #[]) ∧ Mach X w0 w' p q vc vi vo' (m.become d (upb (m.reg d) (oi m.c)) (m.reg d / 32768 == 1)) xs bs := by
  have HM := hideI h
  have c0 := h.reg hd hd'
  have c1 := h.reg hs hs'
  have c7 := h.reg7
  obtain ⟨-, -, -, -, c12, c13, -, -, c16, c17, -, -, -⟩ := h.at
  have fz := h.flat
  have fq := h.frz
  have hp := h.pw
  have hqw := h.hqw
  have hpq := h.hpq
  have hrd := h.fine.reg hd hd'
  have hrs := h.fine.reg hs hs'
  clear h
  go_enter Try.func67, Try.ntmps67
  go_wp2_with fail
  refine (sh15 ((unhideI HM).new _) d s mm hd hd').mono ?_
  rintro e w1 ⟨rfl, M1⟩
  have HM1 := hideI M1
  clear M1
  go_wp2_with fail
  go_end0
  exact ⟨_, rfl, unhideI HM1⟩
set_option maxRecDepth 100000 in
set_option maxHeartbeats 1000000 in
theorem do16 {w0 w : World} {p q : Nat} {vc vi vo : Value} {m : Ma} {xs bs : List Int} (h : Mach X w0 w p q vc vi vo m xs bs) (d s mm : Int) (hd : 0 ≤ d) (hd' : d ≤ 7) (hs : 0 ≤ s) (hs' : s ≤ 7) (hm : wd mm) :
    Calls Try.prog 67 #[.pointer (some ⟨p, 0, none⟩), .agg #[.int .i64 16, .int .i64 d, .int .i64 s, .int .i64 mm]] w fun e w' => ∃ vo', e = .returned (.tuple #[]) ∧ Mach X w0 w' p q vc vi vo' (m.become d (dnb (m.reg d) 0) (m.reg d % 2 == 1)) xs bs := by
  have HM := hideI h
  have c0 := h.reg hd hd'
  have c1 := h.reg hs hs'
  have c7 := h.reg7
  obtain ⟨-, -, -, -, c12, c13, -, -, c16, c17, -, -, -⟩ := h.at
  have fz := h.flat
  have fq := h.frz
  have hp := h.pw
  have hqw := h.hqw
  have hpq := h.hpq
  have hrd := h.fine.reg hd hd'
  have hrs := h.fine.reg hs hs'
  clear h
  go_enter Try.func67, Try.ntmps67
  go_wp2_with fail
  refine (sh16 ((unhideI HM).new _) d s mm hd hd').mono ?_
  rintro e w1 ⟨rfl, M1⟩
  have HM1 := hideI M1
  clear M1
  go_wp2_with fail
  go_end0
  exact ⟨_, rfl, unhideI HM1⟩
set_option maxRecDepth 100000 in
set_option maxHeartbeats 1000000 in
theorem do17 {w0 w : World} {p q : Nat} {vc vi vo : Value} {m : Ma} {xs bs : List Int} (h : Mach X w0 w p q vc vi vo m xs bs) (d s mm : Int) (hd : 0 ≤ d) (hd' : d ≤ 7) (hs : 0 ≤ s) (hs' : s ≤ 7) (hm : wd mm) :
    Calls Try.prog 67 #[.pointer (some ⟨p, 0, none⟩), .agg #[.int .i64 17, .int .i64 d, .int .i64 s, .int .i64 mm]] w fun e w' => ∃ vo', e = .returned (.tuple #[]) ∧ Mach X w0 w' p q vc vi vo' (m.become d (dnb (m.reg d) (m.reg d / 32768)) (m.reg d % 2 == 1)) xs bs := by
  have HM := hideI h
  have c0 := h.reg hd hd'
  have c1 := h.reg hs hs'
  have c7 := h.reg7
  obtain ⟨-, -, -, -, c12, c13, -, -, c16, c17, -, -, -⟩ := h.at
  have fz := h.flat
  have fq := h.frz
  have hp := h.pw
  have hqw := h.hqw
  have hpq := h.hpq
  have hrd := h.fine.reg hd hd'
  have hrs := h.fine.reg hs hs'
  clear h
  go_enter Try.func67, Try.ntmps67
  go_wp2_with fail
  refine (sh17 ((unhideI HM).new _) d s mm hd hd').mono ?_
  rintro e w1 ⟨rfl, M1⟩
  have HM1 := hideI M1
  clear M1
  go_wp2_with fail
  go_end0
  exact ⟨_, rfl, unhideI HM1⟩
set_option maxRecDepth 100000 in
set_option maxHeartbeats 1000000 in
theorem do18 {w0 w : World} {p q : Nat} {vc vi vo : Value} {m : Ma} {xs bs : List Int} (h : Mach X w0 w p q vc vi vo m xs bs) (d s mm : Int) (hd : 0 ≤ d) (hd' : d ≤ 7) (hs : 0 ≤ s) (hs' : s ≤ 7) (hm : wd mm) :
    Calls Try.prog 67 #[.pointer (some ⟨p, 0, none⟩), .agg #[.int .i64 18, .int .i64 d, .int .i64 s, .int .i64 mm]] w fun e w' => ∃ vo', e = .returned (.tuple #[]) ∧ Mach X w0 w' p q vc vi vo' (m.become d (dnb (m.reg d) (oi m.c)) (m.reg d % 2 == 1)) xs bs := by
  have HM := hideI h
  have c0 := h.reg hd hd'
  have c1 := h.reg hs hs'
  have c7 := h.reg7
  obtain ⟨-, -, -, -, c12, c13, -, -, c16, c17, -, -, -⟩ := h.at
  have fz := h.flat
  have fq := h.frz
  have hp := h.pw
  have hqw := h.hqw
  have hpq := h.hpq
  have hrd := h.fine.reg hd hd'
  have hrs := h.fine.reg hs hs'
  clear h
  go_enter Try.func67, Try.ntmps67
  go_wp2_with fail
  refine (sh18 ((unhideI HM).new _) d s mm hd hd').mono ?_
  rintro e w1 ⟨rfl, M1⟩
  have HM1 := hideI M1
  clear M1
  go_wp2_with fail
  go_end0
  exact ⟨_, rfl, unhideI HM1⟩
end Go.Proofs.Ytjlbenbfmookoaa
