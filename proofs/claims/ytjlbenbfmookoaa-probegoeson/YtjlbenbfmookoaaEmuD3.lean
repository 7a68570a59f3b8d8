/-
  What instructions do (19, 20, 21, 22, 23, 24, 25, 26, 27, 28).
-/
import Derived.Test.YtjlbenbfmookoaaEmuC
namespace Go.Proofs.Ytjlbenbfmookoaa
open Go.RowKit
set_option linter.unusedSimpArgs false
set_option linter.unusedVariables false
variable {X : Sd}

set_option maxRecDepth 100000 in
set_option maxHeartbeats 1000000 in
theorem do19 {w0 w : World} {p q : Nat} {vc vi vo : Value} {m : Ma} {xs bs : List Int} (h : Mach X w0 w p q vc vi vo m xs bs) (d s mm : Int) (hd : 0 ≤ d) (hd' : d ≤ 7) (hs : 0 ≤ s) (hs' : s ≤ 7) (hm : wd mm) :
    Calls Try.prog 67 #[.pointer (some ⟨p, 0, none⟩), .agg #[.int .i64 19, .int .i64 d, .int .i64 s, .int .i64 mm]] w fun e w' => ∃ vo', e = .returned (.tuple #[]) ∧ Mach X w0 w' p q vc vi vo' (m.jump (m.jumps 19) mm) xs bs := by
  have HM := hideI h
  have c0 := h.reg hd hd'
  have c1 := h.reg hs hs'
  have c7 := h.reg7
  obtain ⟨-, -, -, -, c12, c13, -, -, c16, c17, -, -, -⟩ := h.at
  have fz := h.flat
  have fq := h.frz
  have hp := h.pw
  have hqw := h.hqw
  have hpq := h.hpq
  have hrd := h.fine.reg hd hd'
  have hrs := h.fine.reg hs hs'
  have J := hideI (fun w (h : Mach X w0 w p q vc vi vo m xs bs) => jumps_any h 19)
  clear h
  generalize m.jumps 19 = jb at *
  cases jb
  all_goals
    unfold Ma.jump
    simp only [if_true, if_false, Bool.false_eq_true]
    go_enter Try.func67, Try.ntmps67
    go_wp2_with fail
    refine (unhideI J _ ((unhideI HM).new _)).mono ?_
    rintro e w1 ⟨rfl, k1⟩
    have HM1 := hideI (((unhideI HM).new _).step k1)
    obtain ⟨-, -, -, -, c12, -, -, -, -, -, -, -, -⟩ := (unhideI HM1).at
    have fz1 := (unhideI HM1).flat
    obtain ⟨b0, b1, b2, b3⟩ := ((Box.new w #[.int .i64 19, .int .i64 d, .int .i64 s, .int .i64 mm] 49).step k1).at4
    clear k1
    go_wp2_with fail
    all_goals
      go_end0
      first | exact ⟨_, rfl, unhideI HM1⟩ | exact ⟨_, rfl, (unhideI HM1).put (m' := { m with pc := mm }) 12 (.int .i64 mm) (by decide) rfl rfl rfl { (unhideI HM1).fine with pc := hm }⟩

set_option maxRecDepth 100000 in
set_option maxHeartbeats 1000000 in
theorem do20 {w0 w : World} {p q : Nat} {vc vi vo : Value} {m : Ma} {xs bs : List Int} (h : Mach X w0 w p q vc vi vo m xs bs) (d s mm : Int) (hd : 0 ≤ d) (hd' : d ≤ 7) (hs : 0 ≤ s) (hs' : s ≤ 7) (hm : wd mm) :
    Calls Try.prog 67 #[.pointer (some ⟨p, 0, none⟩), .agg #[.int .i64 20, .int .i64 d, .int .i64 s, .int .i64 mm]] w fun e w' => ∃ vo', e = .returned (.tuple #[]) ∧ Mach X w0 w' p q vc vi vo' (m.jump (m.jumps 20) mm) xs bs := by
  have HM := hideI h
  have c0 := h.reg hd hd'
  have c1 := h.reg hs hs'
  have c7 := h.reg7
  obtain ⟨-, -, -, -, c12, c13, -, -, c16, c17, -, -, -⟩ := h.at
  have fz := h.flat
  have fq := h.frz
  have hp := h.pw
  have hqw := h.hqw
  have hpq := h.hpq
  have hrd := h.fine.reg hd hd'
  have hrs := h.fine.reg hs hs'
  have J := hideI (fun w (h : Mach X w0 w p q vc vi vo m xs bs) => jumps_any h 20)
  clear h
  generalize m.jumps 20 = jb at *
  cases jb
  all_goals
    unfold Ma.jump
    simp only [if_true, if_false, Bool.false_eq_true]
    go_enter Try.func67, Try.ntmps67
    go_wp2_with fail
    refine (unhideI J _ ((unhideI HM).new _)).mono ?_
    rintro e w1 ⟨rfl, k1⟩
    have HM1 := hideI (((unhideI HM).new _).step k1)
    obtain ⟨-, -, -, -, c12, -, -, -, -, -, -, -, -⟩ := (unhideI HM1).at
    have fz1 := (unhideI HM1).flat
    obtain ⟨b0, b1, b2, b3⟩ := ((Box.new w #[.int .i64 20, .int .i64 d, .int .i64 s, .int .i64 mm] 49).step k1).at4
    clear k1
    go_wp2_with fail
    all_goals
      go_end0
      first | exact ⟨_, rfl, unhideI HM1⟩ | exact ⟨_, rfl, (unhideI HM1).put (m' := { m with pc := mm }) 12 (.int .i64 mm) (by decide) rfl rfl rfl { (unhideI HM1).fine with pc := hm }⟩

set_option maxRecDepth 100000 in
set_option maxHeartbeats 1000000 in
theorem do21 {w0 w : World} {p q : Nat} {vc vi vo : Value} {m : Ma} {xs bs : List Int} (h : Mach X w0 w p q vc vi vo m xs bs) (d s mm : Int) (hd : 0 ≤ d) (hd' : d ≤ 7) (hs : 0 ≤ s) (hs' : s ≤ 7) (hm : wd mm) :
    Calls Try.prog 67 #[.pointer (some ⟨p, 0, none⟩), .agg #[.int .i64 21, .int .i64 d, .int .i64 s, .int .i64 mm]] w fun e w' => ∃ vo', e = .returned (.tuple #[]) ∧ Mach X w0 w' p q vc vi vo' (m.jump (m.jumps 21) mm) xs bs := by
  have HM := hideI h
  have c0 := h.reg hd hd'
  have c1 := h.reg hs hs'
  have c7 := h.reg7
  obtain ⟨-, -, -, -, c12, c13, -, -, c16, c17, -, -, -⟩ := h.at
  have fz := h.flat
  have fq := h.frz
  have hp := h.pw
  have hqw := h.hqw
  have hpq := h.hpq
  have hrd := h.fine.reg hd hd'
  have hrs := h.fine.reg hs hs'
  have J := hideI (fun w (h : Mach X w0 w p q vc vi vo m xs bs) => jumps_any h 21)
  clear h
  generalize m.jumps 21 = jb at *
  cases jb
  all_goals
    unfold Ma.jump
    simp only [if_true, if_false, Bool.false_eq_true]
    go_enter Try.func67, Try.ntmps67
    go_wp2_with fail
    refine (unhideI J _ ((unhideI HM).new _)).mono ?_
    rintro e w1 ⟨rfl, k1⟩
    have HM1 := hideI (((unhideI HM).new _).step k1)
    obtain ⟨-, -, -, -, c12, -, -, -, -, -, -, -, -⟩ := (unhideI HM1).at
    have fz1 := (unhideI HM1).flat
    obtain ⟨b0, b1, b2, b3⟩ := ((Box.new w #[.int .i64 21, .int .i64 d, .int .i64 s, .int .i64 mm] 49).step k1).at4
    clear k1
    go_wp2_with fail
    all_goals
      go_end0
      first | exact ⟨_, rfl, unhideI HM1⟩ | exact ⟨_, rfl, (unhideI HM1).put (m' := { m with pc := mm }) 12 (.int .i64 mm) (by decide) rfl rfl rfl { (unhideI HM1).fine with pc := hm }⟩

set_option maxRecDepth 100000 in
set_option maxHeartbeats 1000000 in
theorem do22 {w0 w : World} {p q : Nat} {vc vi vo : Value} {m : Ma} {xs bs : List Int} (h : Mach X w0 w p q vc vi vo m xs bs) (d s mm : Int) (hd : 0 ≤ d) (hd' : d ≤ 7) (hs : 0 ≤ s) (hs' : s ≤ 7) (hm : wd mm) :
    Calls Try.prog 67 #[.pointer (some ⟨p, 0, none⟩), .agg #[.int .i64 22, .int .i64 d, .int .i64 s, .int .i64 mm]] w fun e w' => ∃ vo', e = .returned (.tuple #[]) ∧ Mach X w0 w' p q vc vi vo' (m.jump (m.jumps 22) mm) xs bs := by
  have HM := hideI h
  have c0 := h.reg hd hd'
  have c1 := h.reg hs hs'
  have c7 := h.reg7
  obtain ⟨-, -, -, -, c12, c13, -, -, c16, c17, -, -, -⟩ := h.at
  have fz := h.flat
  have fq := h.frz
  have hp := h.pw
  have hqw := h.hqw
  have hpq := h.hpq
  have hrd := h.fine.reg hd hd'
  have hrs := h.fine.reg hs hs'
  have J := hideI (fun w (h : Mach X w0 w p q vc vi vo m xs bs) => jumps_any h 22)
  clear h
  generalize m.jumps 22 = jb at *
  cases jb
  all_goals
    unfold Ma.jump
    simp only [if_true, if_false, Bool.false_eq_true]
    go_enter Try.func67, Try.ntmps67
    go_wp2_with fail
    refine (unhideI J _ ((unhideI HM).new _)).mono ?_
    rintro e w1 ⟨rfl, k1⟩
    have HM1 := hideI (((unhideI HM).new _).step k1)
    obtain ⟨-, -, -, -, c12, -, -, -, -, -, -, -, -⟩ := (unhideI HM1).at
    have fz1 := (unhideI HM1).flat
    obtain ⟨b0, b1, b2, b3⟩ := ((Box.new w #[.int .i64 22, .int .i64 d, .int .i64 s, .int .i64 mm] 49).step k1).at4
    clear k1
    go_wp2_with fail
    all_goals
      go_end0
      first | exact ⟨_, rfl, unhideI HM1⟩ | exact ⟨_, rfl, (unhideI HM1).put (m' := { m with pc := mm }) 12 (.int .i64 mm) (by decide) rfl rfl rfl { (unhideI HM1).fine with pc := hm }⟩

set_option maxRecDepth 100000 in
set_option maxHeartbeats 1000000 in
theorem do23 {w0 w : World} {p q : Nat} {vc vi vo : Value} {m : Ma} {xs bs : List Int} (h : Mach X w0 w p q vc vi vo m xs bs) (d s mm : Int) (hd : 0 ≤ d) (hd' : d ≤ 7) (hs : 0 ≤ s) (hs' : s ≤ 7) (hm : wd mm) :
    Calls Try.prog 67 #[.pointer (some ⟨p, 0, none⟩), .agg #[.int .i64 23, .int .i64 d, .int .i64 s, .int .i64 mm]] w fun e w' => ∃ vo', e = .returned (.tuple #[]) ∧ Mach X w0 w' p q vc vi vo' (m.jump (m.jumps 23) mm) xs bs := by
  have HM := hideI h
  have c0 := h.reg hd hd'
  have c1 := h.reg hs hs'
  have c7 := h.reg7
  obtain ⟨-, -, -, -, c12, c13, -, -, c16, c17, -, -, -⟩ := h.at
  have fz := h.flat
  have fq := h.frz
  have hp := h.pw
  have hqw := h.hqw
  have hpq := h.hpq
  have hrd := h.fine.reg hd hd'
  have hrs := h.fine.reg hs hs'
  have J := hideI (fun w (h : Mach X w0 w p q vc vi vo m xs bs) => jumps_any h 23)
  clear h
  generalize m.jumps 23 = jb at *
  cases jb
  all_goals
    unfold Ma.jump
    simp only [if_true, if_false, Bool.false_eq_true]
    go_enter Try.func67, Try.ntmps67
    go_wp2_with fail
    refine (unhideI J _ ((unhideI HM).new _)).mono ?_
    rintro e w1 ⟨rfl, k1⟩
    have HM1 := hideI (((unhideI HM).new _).step k1)
    obtain ⟨-, -, -, -, c12, -, -, -, -, -, -, -, -⟩ := (unhideI HM1).at
    have fz1 := (unhideI HM1).flat
    obtain ⟨b0, b1, b2, b3⟩ := ((Box.new w #[.int .i64 23, .int .i64 d, .int .i64 s, .int .i64 mm] 49).step k1).at4
    clear k1
    go_wp2_with fail
    all_goals
      go_end0
      first | exact ⟨_, rfl, unhideI HM1⟩ | exact ⟨_, rfl, (unhideI HM1).put (m' := { m with pc := mm }) 12 (.int .i64 mm) (by decide) rfl rfl rfl { (unhideI HM1).fine with pc := hm }⟩

set_option maxRecDepth 100000 in
set_option maxHeartbeats 1000000 in
theorem do24 {w0 w : World} {p q : Nat} {vc vi vo : Value} {m : Ma} {xs bs : List Int} (h : Mach X w0 w p q vc vi vo m xs bs) (d s mm : Int) (hd : 0 ≤ d) (hd' : d ≤ 7) (hs : 0 ≤ s) (hs' : s ≤ 7) (hm : wd mm) :
    Calls Try.prog 67 #[.pointer (some ⟨p, 0, none⟩), .agg #[.int .i64 24, .int .i64 d, .int .i64 s, .int .i64 mm]] w fun e w' => ∃ vo', e = .returned (.tuple #[]) ∧ Mach X w0 w' p q vc vi vo' (m.jump (m.jumps 24) mm) xs bs := by
  have HM := hideI h
  have c0 := h.reg hd hd'
  have c1 := h.reg hs hs'
  have c7 := h.reg7
  obtain ⟨-, -, -, -, c12, c13, -, -, c16, c17, -, -, -⟩ := h.at
  have fz := h.flat
  have fq := h.frz
  have hp := h.pw
  have hqw := h.hqw
  have hpq := h.hpq
  have hrd := h.fine.reg hd hd'
  have hrs := h.fine.reg hs hs'
  have J := hideI (fun w (h : Mach X w0 w p q vc vi vo m xs bs) => jumps_any h 24)
  clear h
  generalize m.jumps 24 = jb at *
  cases jb
  all_goals
    unfold Ma.jump
    simp only [if_true, if_false, Bool.false_eq_true]
    go_enter Try.func67, Try.ntmps67
    go_wp2_with fail
    refine (unhideI J _ ((unhideI HM).new _)).mono ?_
    rintro e w1 ⟨rfl, k1⟩
    have HM1 := hideI (((unhideI HM).new _).step k1)
    obtain ⟨-, -, -, -, c12, -, -, -, -, -, -, -, -⟩ := (unhideI HM1).at
    have fz1 := (unhideI HM1).flat
    obtain ⟨b0, b1, b2, b3⟩ := ((Box.new w #[.int .i64 24, .int .i64 d, .int .i64 s, .int .i64 mm] 49).step k1).at4
    clear k1
    go_wp2_with fail
    all_goals
      go_end0
      first | exact ⟨_, rfl, unhideI HM1⟩ | exact ⟨_, rfl, (unhideI HM1).put (m' := { m with pc := mm }) 12 (.int .i64 mm) (by decide) rfl rfl rfl { (unhideI HM1).fine with pc := hm }⟩

set_option maxRecDepth 100000 in
set_option maxHeartbeats 1000000 in
theorem do25 {w0 w : World} {p q : Nat} {vc vi vo : Value} {m : Ma} {xs bs : List Int} (h : Mach X w0 w p q vc vi vo m xs bs) (d s mm : Int) (hd : 0 ≤ d) (hd' : d ≤ 7) (hs : 0 ≤ s) (hs' : s ≤ 7) (hm : wd mm) :
    Calls Try.prog 67 #[.pointer (some ⟨p, 0, none⟩), .agg #[.int .i64 25, .int .i64 d, .int .i64 s, .int .i64 mm]] w fun e w' => ∃ vo', e = .returned (.tuple #[]) ∧ Mach X w0 w' p q vc vi vo' (m.jump (m.jumps 25) mm) xs bs := by
  have HM := hideI h
  have c0 := h.reg hd hd'
  have c1 := h.reg hs hs'
  have c7 := h.reg7
  obtain ⟨-, -, -, -, c12, c13, -, -, c16, c17, -, -, -⟩ := h.at
  have fz := h.flat
  have fq := h.frz
  have hp := h.pw
  have hqw := h.hqw
  have hpq := h.hpq
  have hrd := h.fine.reg hd hd'
  have hrs := h.fine.reg hs hs'
  have J := hideI (fun w (h : Mach X w0 w p q vc vi vo m xs bs) => jumps_any h 25)
  clear h
  generalize m.jumps 25 = jb at *
  cases jb
  all_goals
    unfold Ma.jump
    simp only [if_true, if_false, Bool.false_eq_true]
    go_enter Try.func67, Try.ntmps67
    go_wp2_with fail
    refine (unhideI J _ ((unhideI HM).new _)).mono ?_
    rintro e w1 ⟨rfl, k1⟩
    have HM1 := hideI (((unhideI HM).new _).step k1)
    obtain ⟨-, -, -, -, c12, -, -, -, -, -, -, -, -⟩ := (unhideI HM1).at
    have fz1 := (unhideI HM1).flat
    obtain ⟨b0, b1, b2, b3⟩ := ((Box.new w #[.int .i64 25, .int .i64 d, .int .i64 s, .int .i64 mm] 49).step k1).at4
    clear k1
    go_wp2_with fail
    all_goals
      go_end0
      first | exact ⟨_, rfl, unhideI HM1⟩ | exact ⟨_, rfl, (unhideI HM1).put (m' := { m with pc := mm }) 12 (.int .i64 mm) (by decide) rfl rfl rfl { (unhideI HM1).fine with pc := hm }⟩

set_option maxRecDepth 100000 in
set_option maxHeartbeats 1000000 in
theorem do26 {w0 w : World} {p q : Nat} {vc vi vo : Value} {m : Ma} {xs bs : List Int} (h : Mach X w0 w p q vc vi vo m xs bs) (d s mm : Int) (hd : 0 ≤ d) (hd' : d ≤ 7) (hs : 0 ≤ s) (hs' : s ≤ 7) (hm : wd mm) :
    Calls Try.prog 67 #[.pointer (some ⟨p, 0, none⟩), .agg #[.int .i64 26, .int .i64 d, .int .i64 s, .int .i64 mm]] w fun e w' => ∃ vo', e = .returned (.tuple #[]) ∧ Mach X w0 w' p q vc vi vo' ({ m.push m.pc with pc := mm }) xs bs := by
  have HM := hideI h
  have c0 := h.reg hd hd'
  have c1 := h.reg hs hs'
  have c7 := h.reg7
  obtain ⟨-, -, -, -, c12, c13, -, -, c16, c17, -, -, -⟩ := h.at
  have fz := h.flat
  have fq := h.frz
  have hp := h.pw
  have hqw := h.hqw
  have hpq := h.hpq
  have hrd := h.fine.reg hd hd'
  have hrs := h.fine.reg hs hs'
  have hpc := h.fine.pc
  have n1 : w.heap.size ≠ p := by omega
  have n2 : w.heap.size ≠ q := by omega
  clear h
  go_enter Try.func67, Try.ntmps67
  go_wp2_with fail
  refine (push_any ((unhideI HM).new _) _ hpc).mono ?_
  rintro e w1 ⟨rfl, M1, k1⟩
  have HM1 := hideI M1
  obtain ⟨-, -, -, -, d12, -, -, -, -, -, -, -, -⟩ := M1.at
  have fz1 := M1.flat
  obtain ⟨b0, b1, b2, b3⟩ := ((Box.new w #[.int .i64 26, .int .i64 d, .int .i64 s, .int .i64 mm] 49).kept k1 n1 n2).at4
  clear M1 k1
  go_wp2_with fail
  go_end0
  exact ⟨_, rfl, (unhideI HM1).put (m' := { m.push m.pc with pc := mm }) 12 (.int .i64 mm) (by decide) rfl rfl rfl { (unhideI HM1).fine with pc := hm }⟩
set_option maxRecDepth 100000 in
set_option maxHeartbeats 1000000 in
theorem do27 {w0 w : World} {p q : Nat} {vc vi vo : Value} {m : Ma} {xs bs : List Int} (h : Mach X w0 w p q vc vi vo m xs bs) (d s mm : Int) (hd : 0 ≤ d) (hd' : d ≤ 7) (hs : 0 ≤ s) (hs' : s ≤ 7) (hm : wd mm) :
    Calls Try.prog 67 #[.pointer (some ⟨p, 0, none⟩), .agg #[.int .i64 27, .int .i64 d, .int .i64 s, .int .i64 mm]] w fun e w' => ∃ vo', e = .returned (.tuple #[]) ∧ Mach X w0 w' p q vc vi vo' ({ m.pop with pc := m.ld (m.reg 7) }) xs bs := by
  have HM := hideI h
  have c0 := h.reg hd hd'
  have c1 := h.reg hs hs'
  have c7 := h.reg7
  obtain ⟨-, -, -, -, c12, c13, -, -, c16, c17, -, -, -⟩ := h.at
  have fz := h.flat
  have fq := h.frz
  have hp := h.pw
  have hqw := h.hqw
  have hpq := h.hpq
  have hrd := h.fine.reg hd hd'
  have hrs := h.fine.reg hs hs'
  have hpc := h.fine.ld (h.fine.reg (d := 7) (by decide) (by decide))
  clear h
  go_enter Try.func67, Try.ntmps67
  go_wp2_with fail
  refine (pop_any ((unhideI HM).new _)).mono ?_
  rintro e w1 ⟨rfl, M1, k1⟩
  have HM1 := hideI M1
  obtain ⟨-, -, -, -, d12, -, -, -, -, -, -, -, -⟩ := M1.at
  have fz1 := M1.flat
  clear M1 k1
  go_wp2_with fail
  go_end0
  exact ⟨_, rfl, (unhideI HM1).put (m' := { m.pop with pc := m.ld (m.reg 7) }) 12 (.int .i64 (m.ld (m.reg 7))) (by decide) rfl rfl rfl { (unhideI HM1).fine with pc := hpc }⟩
set_option maxRecDepth 100000 in
set_option maxHeartbeats 1000000 in
theorem do28 {w0 w : World} {p q : Nat} {vc vi vo : Value} {m : Ma} {xs bs : List Int} (h : Mach X w0 w p q vc vi vo m xs bs) (d s mm : Int) (hd : 0 ≤ d) (hd' : d ≤ 7) (hs : 0 ≤ s) (hs' : s ≤ 7) (hm : wd mm) :
    Calls Try.prog 67 #[.pointer (some ⟨p, 0, none⟩), .agg #[.int .i64 28, .int .i64 d, .int .i64 s, .int .i64 mm]] w fun e w' => ∃ vo', e = .returned (.tuple #[]) ∧ Mach X w0 w' p q vc vi vo' (m.push (m.reg s)) xs bs := by
  have HM := hideI h
  have c0 := h.reg hd hd'
  have c1 := h.reg hs hs'
  have c7 := h.reg7
  obtain ⟨-, -, -, -, c12, c13, -, -, c16, c17, -, -, -⟩ := h.at
  have fz := h.flat
  have fq := h.frz
  have hp := h.pw
  have hqw := h.hqw
  have hpq := h.hpq
  have hrd := h.fine.reg hd hd'
  have hrs := h.fine.reg hs hs'
  clear h
  go_enter Try.func67, Try.ntmps67
  go_wp2_with fail
  go_region_with (go_at_call 73; refine (push_any ((unhideI HM).new _).drew _ hrs).mono ?_; rintro e w1 ⟨rfl, M1, k1⟩; have HM1 := hideI M1; clear M1 k1)
  all_goals
    go_wp2_with fail
    go_end0
    exact ⟨_, rfl, unhideI HM1⟩
end Go.Proofs.Ytjlbenbfmookoaa
