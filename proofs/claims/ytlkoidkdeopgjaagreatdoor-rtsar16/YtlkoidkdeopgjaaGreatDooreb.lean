/-
  EmuD0, EmuD1, EmuD2.
-/
import Derived.Test.YtlkoidkdeopgjaaGreatDoorea
set_option maxHeartbeats 4000000
set_option maxRecDepth 100000
namespace Go.Proofs.YtlkoidkdeopgjaaGreatDoor
open Go.RowKit
set_option linter.unusedSimpArgs false
set_option linter.unusedVariables false
theorem do3 {w0 w : World} {p q : Nat} {vc vi vo : Value} {m : Ma} {xs bs : List Int} (h : Mach w0 w p q vc vi vo m xs bs) (d s mm : Int) (hd : 0 ≤ d) (hd' : d ≤ 7) (hs : 0 ≤ s) (hs' : s ≤ 7) (hm : wd mm) :
   Calls Tryz.prog 93 #[.pointer (some ⟨p, 0, none⟩), .agg #[.int .i64 3, .int .i64 d, .int .i64 s, .int .i64 mm]] w fun e w' => ∃ vo', e = .returned (.tuple #[]) ∧ Mach w0 w' p q vc vi vo' (m.setR d (m.ld (lw (m.reg s + mm)))) xs bs := by
 have HM := zH h
 have c0 := h.reg hd hd'
 have c1 := h.reg hs hs'
 have c7 := h.reg7
 obtain ⟨-, -, -, -, c12, c13, -, -, c16, c17, -, -, -⟩ := h.at
 have fz := h.flat
 have fq := h.frz
 have hp := h.pw
 have hqw := h.hqw
 have hpq := h.hpq
 have hrd := h.fine.reg hd hd'
 have hrs := h.fine.reg hs hs'
 have hl := lw_b (m.reg s + mm)
 have hv := h.fine.ld (d := lw (m.reg s + mm)) hl
 have cm : w.cell? ⟨q, (lw (m.reg s + mm)).toNat, none⟩ = some (.int .i64 (m.ld (lw (m.reg s + mm)))) := h.mem _ (by omega)
 have hwr := wrap_ok (x := m.reg s + mm) (by unfold wd at *; omega) (by unfold wd at *; omega)
 clear h
 go_enter Tryz.func93, Tryz.ntmps93
 go_wp2_with fail
 have hd8 : d < 8 := by omega
 have hs8 : s < 8 := by omega
 obtain ⟨hl0, hl1⟩ := hl
 have hl2 : lw (m.reg s + mm) < 65536 := by omega
 refine wp_region_head 26 (by kernel_rfl) (by kernel_rfl) ?_
 simp only [List.take_succ_cons, List.take_zero, List.drop_succ_cons, List.drop_zero]
 repeat (first | still_step | still_call (place_any _ _))
 refine wpStill_nil ?_
 go_wp2_with fail
 go_end0
 exact ⟨_, rfl, (((uI HM).sreg d (m.ld (lw (m.reg s + mm))) hd hd' hv).new _).drew⟩
theorem do4 {w0 w : World} {p q : Nat} {vc vi vo : Value} {m : Ma} {xs bs : List Int} (h : Mach w0 w p q vc vi vo m xs bs) (d s mm : Int) (hd : 0 ≤ d) (hd' : d ≤ 7) (hs : 0 ≤ s) (hs' : s ≤ 7) (hm : wd mm) :
   Calls Tryz.prog 93 #[.pointer (some ⟨p, 0, none⟩), .agg #[.int .i64 4, .int .i64 d, .int .i64 s, .int .i64 mm]] w fun e w' => ∃ vo', e = .returned (.tuple #[]) ∧ Mach w0 w' p q vc vi vo' (m.st (lw (m.reg d + mm)) (m.reg s)) xs bs := by
 have HM := zH h
 have c0 := h.reg hd hd'
 have c1 := h.reg hs hs'
 have c7 := h.reg7
 obtain ⟨-, -, -, -, c12, c13, -, -, c16, c17, -, -, -⟩ := h.at
 have fz := h.flat
 have fq := h.frz
 have hp := h.pw
 have hqw := h.hqw
 have hpq := h.hpq
 have hrd := h.fine.reg hd hd'
 have hrs := h.fine.reg hs hs'
 have hl := lw_b (m.reg d + mm)
 have cm : w.cell? ⟨q, (lw (m.reg d + mm)).toNat, none⟩ = some (.int .i64 (m.ld (lw (m.reg d + mm)))) := h.mem _ (by omega)
 have hwr := wrap_ok (x := m.reg d + mm) (by unfold wd at *; omega) (by unfold wd at *; omega)
 clear h
 go_enter Tryz.func93, Tryz.ntmps93
 go_wp2_with fail
 have hd8 : d < 8 := by omega
 have hs8 : s < 8 := by omega
 obtain ⟨hl0, hl1⟩ := hl
 have hl2 : lw (m.reg d + mm) < 65536 := by omega
 refine wp_region_head 26 (by kernel_rfl) (by kernel_rfl) ?_
 simp only [List.take_succ_cons, List.take_zero, List.drop_succ_cons, List.drop_zero]
 repeat (first | still_step | still_call (place_any _ _))
 refine wpStill_nil ?_
 go_wp2_with fail
 go_end0
 exact ⟨_, rfl, (((uI HM).sto (lw (m.reg d + mm)) (m.reg s) ⟨hl0, hl1⟩ hrs).new _).drew⟩
end Go.Proofs.YtlkoidkdeopgjaaGreatDoor
namespace Go.Proofs.YtlkoidkdeopgjaaGreatDoor
open Go.RowKit
set_option linter.unusedSimpArgs false
set_option linter.unusedVariables false
theorem do0 {w0 w : World} {p q : Nat} {vc vi vo : Value} {m : Ma} {xs bs : List Int} (h : Mach w0 w p q vc vi vo m xs bs) (d s mm : Int) (hd : 0 ≤ d) (hd' : d ≤ 7) (hs : 0 ≤ s) (hs' : s ≤ 7) (hm : wd mm) :
   Calls Tryz.prog 93 #[.pointer (some ⟨p, 0, none⟩), .agg #[.int .i64 0, .int .i64 d, .int .i64 s, .int .i64 mm]] w fun e w' => ∃ vo', e = .returned (.tuple #[]) ∧ Mach w0 w' p q vc vi vo' ({ m with how := 1 }) xs bs := by
 have HM := zH h
 have c0 := h.reg hd hd'
 have c1 := h.reg hs hs'
 have c7 := h.reg7
 obtain ⟨-, -, -, -, c12, c13, -, -, c16, c17, -, -, -⟩ := h.at
 have fz := h.flat
 have fq := h.frz
 have hp := h.pw
 have hqw := h.hqw
 have hpq := h.hpq
 have hrd := h.fine.reg hd hd'
 have hrs := h.fine.reg hs hs'
 clear h
 go_enter Tryz.func93, Tryz.ntmps93
 go_wp2_with fail
 go_end0
 exact ⟨_, rfl, ((uI HM).put (m' := { m with how := 1 }) 16 (.int .i64 1) (by decide) rfl rfl rfl { (uI HM).fine with }).new _⟩
theorem do32 {w0 w : World} {p q : Nat} {vc vi vo : Value} {m : Ma} {xs bs : List Int} (h : Mach w0 w p q vc vi vo m xs bs) (d s mm : Int) (hd : 0 ≤ d) (hd' : d ≤ 7) (hs : 0 ≤ s) (hs' : s ≤ 7) (hm : wd mm) :
   Calls Tryz.prog 93 #[.pointer (some ⟨p, 0, none⟩), .agg #[.int .i64 32, .int .i64 d, .int .i64 s, .int .i64 mm]] w fun e w' => ∃ vo', e = .returned (.tuple #[]) ∧ Mach w0 w' p q vc vi vo' ({ m with how := 2, trap := mm }) xs bs := by
 have HM := zH h
 have c0 := h.reg hd hd'
 have c1 := h.reg hs hs'
 have c7 := h.reg7
 obtain ⟨-, -, -, -, c12, c13, -, -, c16, c17, -, -, -⟩ := h.at
 have fz := h.flat
 have fq := h.frz
 have hp := h.pw
 have hqw := h.hqw
 have hpq := h.hpq
 have hrd := h.fine.reg hd hd'
 have hrs := h.fine.reg hs hs'
 clear h
 go_enter Tryz.func93, Tryz.ntmps93
 go_wp2_with fail
 go_region
 all_goals
   go_wp2_with fail
   go_end0
   have P1 := (uI HM).put (m' := { m with how := 2 }) 16 (.int .i64 2) (by decide) rfl rfl rfl { (uI HM).fine with }
   have P2 := P1.put (m' := { m with how := 2, trap := mm }) 17 (.int .i64 mm) (by decide) rfl rfl rfl { (uI HM).fine with }
   have R1 := (uI HM).put (m' := { m with trap := mm }) 17 (.int .i64 mm) (by decide) rfl rfl rfl { (uI HM).fine with }
   have R2 := R1.put (m' := { m with how := 2, trap := mm }) 16 (.int .i64 2) (by decide) rfl rfl rfl { (uI HM).fine with }
   first | exact ⟨_, rfl, (P2.new _).drew⟩ | exact ⟨_, rfl, (R2.new _).drew⟩
theorem do1 {w0 w : World} {p q : Nat} {vc vi vo : Value} {m : Ma} {xs bs : List Int} (h : Mach w0 w p q vc vi vo m xs bs) (d s mm : Int) (hd : 0 ≤ d) (hd' : d ≤ 7) (hs : 0 ≤ s) (hs' : s ≤ 7) (hm : wd mm) :
   Calls Tryz.prog 93 #[.pointer (some ⟨p, 0, none⟩), .agg #[.int .i64 1, .int .i64 d, .int .i64 s, .int .i64 mm]] w fun e w' => ∃ vo', e = .returned (.tuple #[]) ∧ Mach w0 w' p q vc vi vo' (m.setR d (m.reg s)) xs bs := by
 have HM := zH h
 have c0 := h.reg hd hd'
 have c1 := h.reg hs hs'
 have c7 := h.reg7
 obtain ⟨-, -, -, -, c12, c13, -, -, c16, c17, -, -, -⟩ := h.at
 have fz := h.flat
 have fq := h.frz
 have hp := h.pw
 have hqw := h.hqw
 have hpq := h.hpq
 have hrd := h.fine.reg hd hd'
 have hrs := h.fine.reg hs hs'
 clear h
 go_enter Tryz.func93, Tryz.ntmps93
 go_wp2_with fail
 go_region
 all_goals
   go_wp2_with fail
   go_end0
   exact ⟨_, rfl, (((uI HM).sreg d (m.reg s) hd hd' hrs).new _).drew⟩
theorem do2 {w0 w : World} {p q : Nat} {vc vi vo : Value} {m : Ma} {xs bs : List Int} (h : Mach w0 w p q vc vi vo m xs bs) (d s mm : Int) (hd : 0 ≤ d) (hd' : d ≤ 7) (hs : 0 ≤ s) (hs' : s ≤ 7) (hm : wd mm) :
   Calls Tryz.prog 93 #[.pointer (some ⟨p, 0, none⟩), .agg #[.int .i64 2, .int .i64 d, .int .i64 s, .int .i64 mm]] w fun e w' => ∃ vo', e = .returned (.tuple #[]) ∧ Mach w0 w' p q vc vi vo' (m.setR d mm) xs bs := by
 have HM := zH h
 have c0 := h.reg hd hd'
 have c1 := h.reg hs hs'
 have c7 := h.reg7
 obtain ⟨-, -, -, -, c12, c13, -, -, c16, c17, -, -, -⟩ := h.at
 have fz := h.flat
 have fq := h.frz
 have hp := h.pw
 have hqw := h.hqw
 have hpq := h.hpq
 have hrd := h.fine.reg hd hd'
 have hrs := h.fine.reg hs hs'
 clear h
 go_enter Tryz.func93, Tryz.ntmps93
 go_wp2_with fail
 go_region
 all_goals
   go_wp2_with fail
   go_end0
   exact ⟨_, rfl, (((uI HM).sreg d mm hd hd' hm).new _).drew⟩
end Go.Proofs.YtlkoidkdeopgjaaGreatDoor
namespace Go.Proofs.YtlkoidkdeopgjaaGreatDoor
open Go.RowKit
set_option linter.unusedSimpArgs false
set_option linter.unusedVariables false
theorem and_wd {x y : Int} (hx : wd x) (hy : wd y) : wd (andI x y) := by
 unfold wd at *
 have e : andI x y = IntKind.i64.wrap (((BitVec.ofInt 64 x &&& BitVec.ofInt 64 y).toNat : Nat) : Int) := rfl
 obtain ⟨a, rfl⟩ : ∃ a : Nat, x = a := ⟨x.toNat, by omega⟩
 obtain ⟨b, rfl⟩ : ∃ b : Nat, y = b := ⟨y.toNat, by omega⟩
 have f1 : (BitVec.ofInt 64 (a : Int)).toNat = a := by rw [BitVec.toNat_ofInt]; omega
 have f2 : (BitVec.ofInt 64 (b : Int)).toNat = b := by rw [BitVec.toNat_ofInt]; omega
 have hb : a &&& b < 2 ^ 16 := Nat.and_lt_two_pow _ (by omega)
 rw [e, BitVec.toNat_and, f1, f2, IntKind.wrap_i64]
 generalize a &&& b = z at *
 omega
theorem or_wd {x y : Int} (hx : wd x) (hy : wd y) : wd (orI x y) := by
 unfold wd at *
 have e : orI x y = IntKind.i64.wrap (((BitVec.ofInt 64 x ||| BitVec.ofInt 64 y).toNat : Nat) : Int) := rfl
 obtain ⟨a, rfl⟩ : ∃ a : Nat, x = a := ⟨x.toNat, by omega⟩
 obtain ⟨b, rfl⟩ : ∃ b : Nat, y = b := ⟨y.toNat, by omega⟩
 have f1 : (BitVec.ofInt 64 (a : Int)).toNat = a := by rw [BitVec.toNat_ofInt]; omega
 have f2 : (BitVec.ofInt 64 (b : Int)).toNat = b := by rw [BitVec.toNat_ofInt]; omega
 have hb : a ||| b < 2 ^ 16 := Nat.or_lt_two_pow (by omega) (by omega)
 rw [e, BitVec.toNat_or, f1, f2, IntKind.wrap_i64]
 generalize a ||| b = z at *
 omega
theorem xor_wd {x y : Int} (hx : wd x) (hy : wd y) : wd (xorI x y) := by
 unfold wd at *
 have e : xorI x y = IntKind.i64.wrap (((BitVec.ofInt 64 x ^^^ BitVec.ofInt 64 y).toNat : Nat) : Int) := rfl
 obtain ⟨a, rfl⟩ : ∃ a : Nat, x = a := ⟨x.toNat, by omega⟩
 obtain ⟨b, rfl⟩ : ∃ b : Nat, y = b := ⟨y.toNat, by omega⟩
 have f1 : (BitVec.ofInt 64 (a : Int)).toNat = a := by rw [BitVec.toNat_ofInt]; omega
 have f2 : (BitVec.ofInt 64 (b : Int)).toNat = b := by rw [BitVec.toNat_ofInt]; omega
 have hb : a ^^^ b < 2 ^ 16 := Nat.xor_lt_two_pow (by omega) (by omega)
 rw [e, BitVec.toNat_xor, f1, f2, IntKind.wrap_i64]
 generalize a ^^^ b = z at *
 omega
theorem do9 {w0 w : World} {p q : Nat} {vc vi vo : Value} {m : Ma} {xs bs : List Int} (h : Mach w0 w p q vc vi vo m xs bs) (d s mm : Int) (hd : 0 ≤ d) (hd' : d ≤ 7) (hs : 0 ≤ s) (hs' : s ≤ 7) (hm : wd mm) :
   Calls Tryz.prog 93 #[.pointer (some ⟨p, 0, none⟩), .agg #[.int .i64 9, .int .i64 d, .int .i64 s, .int .i64 mm]] w fun e w' => ∃ vo', e = .returned (.tuple #[]) ∧ Mach w0 w' p q vc vi vo' (m.become d (andI (m.reg d) (m.reg s)) false) xs bs := by
 have HM := zH h
 have c0 := h.reg hd hd'
 have c1 := h.reg hs hs'
 have c7 := h.reg7
 obtain ⟨-, -, -, -, c12, c13, -, -, c16, c17, -, -, -⟩ := h.at
 have fz := h.flat
 have fq := h.frz
 have hp := h.pw
 have hqw := h.hqw
 have hpq := h.hpq
 have hrd := h.fine.reg hd hd'
 have hrs := h.fine.reg hs hs'
 have hv := and_wd hrd hrs
 clear h
 go_enter Tryz.func93, Tryz.ntmps93
 go_wp2_with fail
 have hd8 : d < 8 := by omega
 have hs8 : s < 8 := by omega
 refine wp_region_head 20 (by kernel_rfl) (by kernel_rfl) ?_
 simp only [List.take_succ_cons, List.take_zero, List.drop_succ_cons, List.drop_zero]
 repeat (first | still_step | still_call (place_any _ _))
 refine wpStill_nil ?_
 go_wp2_with fail
 refine (become_any ((uI HM).new _).drew _ _ _ hd hd' hv).mono ?_
 rintro e w1 ⟨rfl, M1⟩
 have HM1 := zH M1
 clear M1
 go_wp2_with fail
 go_end0
 exact ⟨_, rfl, uI HM1⟩
theorem do10 {w0 w : World} {p q : Nat} {vc vi vo : Value} {m : Ma} {xs bs : List Int} (h : Mach w0 w p q vc vi vo m xs bs) (d s mm : Int) (hd : 0 ≤ d) (hd' : d ≤ 7) (hs : 0 ≤ s) (hs' : s ≤ 7) (hm : wd mm) :
   Calls Tryz.prog 93 #[.pointer (some ⟨p, 0, none⟩), .agg #[.int .i64 10, .int .i64 d, .int .i64 s, .int .i64 mm]] w fun e w' => ∃ vo', e = .returned (.tuple #[]) ∧ Mach w0 w' p q vc vi vo' (m.become d (orI (m.reg d) (m.reg s)) false) xs bs := by
 have HM := zH h
 have c0 := h.reg hd hd'
 have c1 := h.reg hs hs'
 have c7 := h.reg7
 obtain ⟨-, -, -, -, c12, c13, -, -, c16, c17, -, -, -⟩ := h.at
 have fz := h.flat
 have fq := h.frz
 have hp := h.pw
 have hqw := h.hqw
 have hpq := h.hpq
 have hrd := h.fine.reg hd hd'
 have hrs := h.fine.reg hs hs'
 have hv := or_wd hrd hrs
 clear h
 go_enter Tryz.func93, Tryz.ntmps93
 go_wp2_with fail
 have hd8 : d < 8 := by omega
 have hs8 : s < 8 := by omega
 refine wp_region_head 20 (by kernel_rfl) (by kernel_rfl) ?_
 simp only [List.take_succ_cons, List.take_zero, List.drop_succ_cons, List.drop_zero]
 repeat (first | still_step | still_call (place_any _ _))
 refine wpStill_nil ?_
 go_wp2_with fail
 refine (become_any ((uI HM).new _).drew _ _ _ hd hd' hv).mono ?_
 rintro e w1 ⟨rfl, M1⟩
 have HM1 := zH M1
 clear M1
 go_wp2_with fail
 go_end0
 exact ⟨_, rfl, uI HM1⟩
theorem do11 {w0 w : World} {p q : Nat} {vc vi vo : Value} {m : Ma} {xs bs : List Int} (h : Mach w0 w p q vc vi vo m xs bs) (d s mm : Int) (hd : 0 ≤ d) (hd' : d ≤ 7) (hs : 0 ≤ s) (hs' : s ≤ 7) (hm : wd mm) :
   Calls Tryz.prog 93 #[.pointer (some ⟨p, 0, none⟩), .agg #[.int .i64 11, .int .i64 d, .int .i64 s, .int .i64 mm]] w fun e w' => ∃ vo', e = .returned (.tuple #[]) ∧ Mach w0 w' p q vc vi vo' (m.become d (xorI (m.reg d) (m.reg s)) false) xs bs := by
 have HM := zH h
 have c0 := h.reg hd hd'
 have c1 := h.reg hs hs'
 have c7 := h.reg7
 obtain ⟨-, -, -, -, c12, c13, -, -, c16, c17, -, -, -⟩ := h.at
 have fz := h.flat
 have fq := h.frz
 have hp := h.pw
 have hqw := h.hqw
 have hpq := h.hpq
 have hrd := h.fine.reg hd hd'
 have hrs := h.fine.reg hs hs'
 have hv := xor_wd hrd hrs
 clear h
 go_enter Tryz.func93, Tryz.ntmps93
 go_wp2_with fail
 have hd8 : d < 8 := by omega
 have hs8 : s < 8 := by omega
 refine wp_region_head 20 (by kernel_rfl) (by kernel_rfl) ?_
 simp only [List.take_succ_cons, List.take_zero, List.drop_succ_cons, List.drop_zero]
 repeat (first | still_step | still_call (place_any _ _))
 refine wpStill_nil ?_
 go_wp2_with fail
 refine (become_any ((uI HM).new _).drew _ _ _ hd hd' hv).mono ?_
 rintro e w1 ⟨rfl, M1⟩
 have HM1 := zH M1
 clear M1
 go_wp2_with fail
 go_end0
 exact ⟨_, rfl, uI HM1⟩
end Go.Proofs.YtlkoidkdeopgjaaGreatDoor
