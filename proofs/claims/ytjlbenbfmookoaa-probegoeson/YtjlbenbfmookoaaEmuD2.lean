/-
  What instructions do (9, 10, 11).
-/
import Derived.Test.YtjlbenbfmookoaaEmuC
namespace Go.Proofs.Ytjlbenbfmookoaa
open Go.RowKit
set_option linter.unusedSimpArgs false
set_option linter.unusedVariables false
variable {X : Sd}

theorem and_wd {x y : Int} (hx : wd x) (hy : wd y) : wd (andI x y) := by
  unfold wd at *
  have e : andI x y = IntKind.i64.wrap (((BitVec.ofInt 64 x &&& BitVec.ofInt 64 y).toNat : Nat) : Int) := rfl
  obtain ⟨a, rfl⟩ : ∃ a : Nat, x = a := ⟨x.toNat, by omega⟩
  obtain ⟨b, rfl⟩ : ∃ b : Nat, y = b := ⟨y.toNat, by omega⟩
  have f1 : (BitVec.ofInt 64 (a : Int)).toNat = a := by rw [BitVec.toNat_ofInt]; omega
  have f2 : (BitVec.ofInt 64 (b : Int)).toNat = b := by rw [BitVec.toNat_ofInt]; omega
  have hb : a &&& b < 2 ^ 16 := Nat.and_lt_two_pow _ (by omega)
  rw [e, BitVec.toNat_and, f1, f2, IntKind.wrap_i64]
  generalize a &&& b = z at *
  omega
theorem or_wd {x y : Int} (hx : wd x) (hy : wd y) : wd (orI x y) := by
  unfold wd at *
  have e : orI x y = IntKind.i64.wrap (((BitVec.ofInt 64 x ||| BitVec.ofInt 64 y).toNat : Nat) : Int) := rfl
  obtain ⟨a, rfl⟩ : ∃ a : Nat, x = a := ⟨x.toNat, by omega⟩
  obtain ⟨b, rfl⟩ : ∃ b : Nat, y = b := ⟨y.toNat, by omega⟩
  have f1 : (BitVec.ofInt 64 (a : Int)).toNat = a := by rw [BitVec.toNat_ofInt]; omega
  have f2 : (BitVec.ofInt 64 (b : Int)).toNat = b := by rw [BitVec.toNat_ofInt]; omega
  have hb : a ||| b < 2 ^ 16 := Nat.or_lt_two_pow (by omega) (by omega)
  rw [e, BitVec.toNat_or, f1, f2, IntKind.wrap_i64]
  generalize a ||| b = z at *
  omega
theorem xor_wd {x y : Int} (hx : wd x) (hy : wd y) : wd (xorI x y) := by
  unfold wd at *
  have e : xorI x y = IntKind.i64.wrap (((BitVec.ofInt 64 x ^^^ BitVec.ofInt 64 y).toNat : Nat) : Int) := rfl
  obtain ⟨a, rfl⟩ : ∃ a : Nat, x = a := ⟨x.toNat, by omega⟩
  obtain ⟨b, rfl⟩ : ∃ b : Nat, y = b := ⟨y.toNat, by omega⟩
  have f1 : (BitVec.ofInt 64 (a : Int)).toNat = a := by rw [BitVec.toNat_ofInt]; omega
  have f2 : (BitVec.ofInt 64 (b : Int)).toNat = b := by rw [BitVec.toNat_ofInt]; omega
  have hb : a ^^^ b < 2 ^ 16 := Nat.xor_lt_two_pow (by omega) (by omega)
  rw [e, BitVec.toNat_xor, f1, f2, IntKind.wrap_i64]
  generalize a ^^^ b = z at *
  omega

set_option maxRecDepth 100000 in
set_option maxHeartbeats 400000 in
theorem do9 {w0 w : World} {p q : Nat} {vc vi vo : Value} {m : Ma} {xs bs : List Int} (h : Mach X w0 w p q vc vi vo m xs bs) (d s mm : Int) (hd : 0 ≤ d) (hd' : d ≤ 7) (hs : 0 ≤ s) (hs' : s ≤ 7) (hm : wd mm) :
    Calls Try.prog 67 #[.pointer (some ⟨p, 0, none⟩), .agg #[.int .i64 9, .int .i64 d, .int .i64 s, .int .i64 mm]] w fun e w' => ∃ vo', e = .returned (.tuple #[]) ∧ Mach X w0 w' p q vc vi vo' (m.become d (andI (m.reg d) (m.reg s)) false) xs bs := by
  have HM := hideI h
  have c0 := h.reg hd hd'
  have c1 := h.reg hs hs'
  have c7 := h.reg7
  obtain ⟨-, -, -, -, c12, c13, -, -, c16, c17, -, -, -⟩ := h.at
  have fz := h.flat
  have fq := h.frz
  have hp := h.pw
  have hqw := h.hqw
  have hpq := h.hpq
  have hrd := h.fine.reg hd hd'
  have hrs := h.fine.reg hs hs'
  have hv := and_wd hrd hrs
  clear h
  go_enter Try.func67, Try.ntmps67
  go_wp2_with fail
  have hd8 : d < 8 := by omega
  have hs8 : s < 8 := by omega
  refine wp_region_head 20 (by kernel_rfl) (by kernel_rfl) ?_
  simp only [List.take_succ_cons, List.take_zero, List.drop_succ_cons, List.drop_zero]
  repeat (first | still_step | still_call (place_any _ _))
  refine wpStill_nil ?_
  go_wp2_with fail
  refine (become_any ((unhideI HM).new _).drew _ _ _ hd hd' hv).mono ?_
  rintro e w1 ⟨rfl, M1⟩
  have HM1 := hideI M1
  clear M1
  go_wp2_with fail
  go_end0
  exact ⟨_, rfl, unhideI HM1⟩
set_option maxRecDepth 100000 in
set_option maxHeartbeats 400000 in
theorem do10 {w0 w : World} {p q : Nat} {vc vi vo : Value} {m : Ma} {xs bs : List Int} (h : Mach X w0 w p q vc vi vo m xs bs) (d s mm : Int) (hd : 0 ≤ d) (hd' : d ≤ 7) (hs : 0 ≤ s) (hs' : s ≤ 7) (hm : wd mm) :
    Calls Try.prog 67 #[.pointer (some ⟨p, 0, none⟩), .agg #[.int .i64 10, .int .i64 d, .int .i64 s, .int .i64 mm]] w fun e w' => ∃ vo', e = .returned (.tuple #[]) ∧ Mach X w0 w' p q vc vi vo' (m.become d (orI (m.reg d) (m.reg s)) false) xs bs := by
  have HM := hideI h
  have c0 := h.reg hd hd'
  have c1 := h.reg hs hs'
  have c7 := h.reg7
  obtain ⟨-, -, -, -, c12, c13, -, -, c16, c17, -, -, -⟩ := h.at
  have fz := h.flat
  have fq := h.frz
  have hp := h.pw
  have hqw := h.hqw
  have hpq := h.hpq
  have hrd := h.fine.reg hd hd'
  have hrs := h.fine.reg hs hs'
  have hv := or_wd hrd hrs
  clear h
  go_enter Try.func67, Try.ntmps67
  go_wp2_with fail
  have hd8 : d < 8 := by omega
  have hs8 : s < 8 := by omega
  refine wp_region_head 20 (by kernel_rfl) (by kernel_rfl) ?_
  simp only [List.take_succ_cons, List.take_zero, List.drop_succ_cons, List.drop_zero]
  repeat (first | still_step | still_call (place_any _ _))
  refine wpStill_nil ?_
  go_wp2_with fail
  refine (become_any ((unhideI HM).new _).drew _ _ _ hd hd' hv).mono ?_
  rintro e w1 ⟨rfl, M1⟩
  have HM1 := hideI M1
  clear M1
  go_wp2_with fail
  go_end0
  exact ⟨_, rfl, unhideI HM1⟩
set_option maxRecDepth 100000 in
set_option maxHeartbeats 400000 in
theorem do11 {w0 w : World} {p q : Nat} {vc vi vo : Value} {m : Ma} {xs bs : List Int} (h : Mach X w0 w p q vc vi vo m xs bs) (d s mm : Int) (hd : 0 ≤ d) (hd' : d ≤ 7) (hs : 0 ≤ s) (hs' : s ≤ 7) (hm : wd mm) :
    Calls Try.prog 67 #[.pointer (some ⟨p, 0, none⟩), .agg #[.int .i64 11, .int .i64 d, .int .i64 s, .int .i64 mm]] w fun e w' => ∃ vo', e = .returned (.tuple #[]) ∧ Mach X w0 w' p q vc vi vo' (m.become d (xorI (m.reg d) (m.reg s)) false) xs bs := by
  have HM := hideI h
  have c0 := h.reg hd hd'
  have c1 := h.reg hs hs'
  have c7 := h.reg7
  obtain ⟨-, -, -, -, c12, c13, -, -, c16, c17, -, -, -⟩ := h.at
  have fz := h.flat
  have fq := h.frz
  have hp := h.pw
  have hqw := h.hqw
  have hpq := h.hpq
  have hrd := h.fine.reg hd hd'
  have hrs := h.fine.reg hs hs'
  have hv := xor_wd hrd hrs
  clear h
  go_enter Try.func67, Try.ntmps67
  go_wp2_with fail
  have hd8 : d < 8 := by omega
  have hs8 : s < 8 := by omega
  refine wp_region_head 20 (by kernel_rfl) (by kernel_rfl) ?_
  simp only [List.take_succ_cons, List.take_zero, List.drop_succ_cons, List.drop_zero]
  repeat (first | still_step | still_call (place_any _ _))
  refine wpStill_nil ?_
  go_wp2_with fail
  refine (become_any ((unhideI HM).new _).drew _ _ _ hd hd' hv).mono ?_
  rintro e w1 ⟨rfl, M1⟩
  have HM1 := hideI M1
  clear M1
  go_wp2_with fail
  go_end0
  exact ⟨_, rfl, unhideI HM1⟩
end Go.Proofs.Ytjlbenbfmookoaa
