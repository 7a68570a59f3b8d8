/-
  InsF, InsG.
-/
import Derived.Test.YtlkoidkdeopgjaaGreatDoorChecked
import Derived.Test.YtlkoidkdeopgjaaGreatDoorka
import Derived.Deep.QuietTactic
import Derived.BigQuiet
set_option maxHeartbeats 4000000
set_option maxRecDepth 100000
namespace Go.Proofs.YtlkoidkdeopgjaaGreatDoor
open Go.RowKit
set_option linter.unusedSimpArgs false
set_option linter.unusedVariables false
def fo (o : Int) : Value := .tuple #[.agg #[.bool (hD o), .bool (hS o), .bool (hI o)], .int .i64 (ke o)]
theorem eq_no {o k : Int} (h : o ≠ k) : (o == k) = false := beq_eq_false_iff_ne.2 h
theorem kinds (o : Int) (h : kn o = true) : o = 0 ∨ o = 1 ∨ o = 2 ∨ o = 3 ∨ o = 4 ∨ o = 5 ∨ o = 6 ∨ o = 7 ∨ o = 8 ∨ o = 9 ∨ o = 10 ∨ o = 11 ∨ o = 12 ∨ o = 13 ∨ o = 14 ∨ o = 15 ∨ o = 16 ∨ o = 17 ∨ o = 18 ∨ o = 19 ∨ o = 20 ∨ o = 21 ∨ o = 22 ∨ o = 23 ∨ o = 24 ∨ o = 25 ∨ o = 26 ∨ o = 27 ∨ o = 28 ∨ o = 29 ∨ o = 30 ∨ o = 31 ∨ o = 32 := by
 unfold kn at h; simp only [decide_eq_true_eq] at h; omega
theorem fo_known (o : Int) (w : World) (h : kn o = true) : Calls Tryz.prog 123 #[.int .i64 o] w fun e w' => e = .returned (fo o) ∧ Below w.heap.size w w' := by
 rcases kinds o h with rfl | rfl | rfl | rfl | rfl | rfl | rfl | rfl | rfl | rfl | rfl | rfl | rfl | rfl | rfl | rfl | rfl | rfl | rfl | rfl | rfl | rfl | rfl | rfl | rfl | rfl | rfl | rfl | rfl | rfl | rfl | rfl | rfl
 all_goals
   clear h
   go_enter Tryz.func123, Tryz.ntmps123
   go_wp2
   refine bodyPost_ret (v := fo _) (by simp [results, Tryz.results123, go_sem, fo]; decide) rfl ⟨rfl, ?_⟩
   exact (Below.refl _ _).alloc (Nat.le_refl _) _
theorem unk (o : Int) (h : kn o = false) : ∀ k : Int, 0 ≤ k ∧ k ≤ 32 → o ≠ k := by
 unfold kn at h; simp only [decide_eq_false_iff_not] at h; omega
theorem fo_unknown (o : Int) (w : World) (h : kn o = false) : Calls Tryz.prog 123 #[.int .i64 o] w fun e w' => e = .returned (fo o) ∧ Below w.heap.size w w' := by
 have ev : fo o = .tuple #[.agg #[.bool false, .bool false, .bool false], .int .i64 1] := by unfold fo; rw [(kn_no h).1, (kn_no h).2.1, (kn_no h).2.2, ke_no h]
 rw [ev]
 clear ev
 replace h := unk o h
 have e0 := eq_no (h 0 (by omega))
 have e1 := eq_no (h 1 (by omega))
 have e2 := eq_no (h 2 (by omega))
 have e3 := eq_no (h 3 (by omega))
 have e4 := eq_no (h 4 (by omega))
 have e5 := eq_no (h 5 (by omega))
 have e6 := eq_no (h 6 (by omega))
 have e7 := eq_no (h 7 (by omega))
 have e8 := eq_no (h 8 (by omega))
 have e9 := eq_no (h 9 (by omega))
 have e10 := eq_no (h 10 (by omega))
 have e11 := eq_no (h 11 (by omega))
 have e12 := eq_no (h 12 (by omega))
 have e13 := eq_no (h 13 (by omega))
 have e14 := eq_no (h 14 (by omega))
 have e15 := eq_no (h 15 (by omega))
 have e16 := eq_no (h 16 (by omega))
 have e17 := eq_no (h 17 (by omega))
 have e18 := eq_no (h 18 (by omega))
 have e19 := eq_no (h 19 (by omega))
 have e20 := eq_no (h 20 (by omega))
 have e21 := eq_no (h 21 (by omega))
 have e22 := eq_no (h 22 (by omega))
 have e23 := eq_no (h 23 (by omega))
 have e24 := eq_no (h 24 (by omega))
 have e25 := eq_no (h 25 (by omega))
 have e26 := eq_no (h 26 (by omega))
 have e27 := eq_no (h 27 (by omega))
 have e28 := eq_no (h 28 (by omega))
 have e29 := eq_no (h 29 (by omega))
 have e30 := eq_no (h 30 (by omega))
 have e31 := eq_no (h 31 (by omega))
 have e32 := eq_no (h 32 (by omega))
 clear h
 go_enter Tryz.func123, Tryz.ntmps123
 go_wp2
 refine bodyPost_ret (v := .tuple #[.agg #[.bool false, .bool false, .bool false], .int .i64 1]) (by simp [results, Tryz.results123, go_sem]) rfl ⟨rfl, ?_⟩
 exact (Below.refl _ _).alloc (Nat.le_refl _) _
theorem fo_any (o : Int) (w : World) : Calls Tryz.prog 123 #[.int .i64 o] w fun e w' => e = .returned (fo o) ∧ Below w.heap.size w w' := by
 by_cases h : kn o = true
 · exact fo_known o w h
 · exact fo_unknown o w (by simpa using h)
end Go.Proofs.YtlkoidkdeopgjaaGreatDoor
namespace Go.Proofs.YtlkoidkdeopgjaaGreatDoor
open Go.RowKit
set_option linter.unusedSimpArgs false
set_option linter.unusedVariables false
theorem long_any (a b c : Bool) (w : World) : Calls Tryz.prog 124 #[.agg #[.bool a, .bool b, .bool c]] w fun e w' => e = .returned (.int .i64 (if c = true then 2 else 1)) ∧ Below w.heap.size w w' := by
 cases c
 all_goals
   go_enter Tryz.func124, Tryz.ntmps124
   go_wp2
   go_ret
   exact ⟨rfl, (Below.refl _ _).alloc (Nat.le_refl _) _⟩
theorem within_any (x t : Int) (w : World) : Calls Tryz.prog 173 #[.int .i64 x, .int .i64 t] w fun e w' => e = .returned (.bool (inR x t)) ∧ w' = w := by
 by_cases h : 0 ≤ x
 · by_cases h2 : x ≤ t
   · have hv : inR x t = true := by unfold inR; simp [h, h2]
     rw [hv]
     go_enter Tryz.func173, Tryz.ntmps173
     go_wp2
     go_ret
     exact ⟨rfl, rfl⟩
   · have hv : inR x t = false := by unfold inR; simp [h2]
     rw [hv]
     go_enter Tryz.func173, Tryz.ntmps173
     go_wp2
     go_ret
     exact ⟨rfl, rfl⟩
 · have hv : inR x t = false := by unfold inR; simp [h]
   rw [hv]
   go_enter Tryz.func173, Tryz.ntmps173
   go_wp2
   go_ret
   exact ⟨rfl, rfl⟩
theorem and7 (x : Int) : bits .and .i64 x 7 = x % 8 := by
 have e : bits .and .i64 x 7 = IntKind.i64.wrap (((BitVec.ofInt 64 x &&& BitVec.ofInt 64 7).toNat : Nat) : Int) := rfl
 have f : (BitVec.ofInt 64 7).toNat = 2 ^ 3 - 1 := by decide
 rw [e, BitVec.toNat_and, f, Nat.and_two_pow_sub_one_eq_mod, BitVec.toNat_ofInt, IntKind.wrap_i64]
 omega
theorem fromFirst_any (x : Int) (w : World) : Calls Tryz.prog 122 #[.int .i64 x] w fun e w' => e = .returned (.agg #[.int .i64 (x / 1024), .int .i64 (x / 128 % 8), .int .i64 (x / 16 % 8), .int .i64 0]) ∧ Below w.heap.size w w' := by
 have e1 := and7 (x / 128)
 have e2 := and7 (x / 16)
 go_enter Tryz.func122, Tryz.ntmps122
 go_wp2
 exact bodyPost_ret (v := .agg #[.int .i64 (x / 1024), .int .i64 (x / 128 % 8), .int .i64 (x / 16 % 8), .int .i64 0]) (by simp [results, Tryz.results122, go_sem]) rfl ⟨rfl, (Below.refl _ _).alloc (Nat.le_refl _) _⟩
def agg (i : Ins) : Value := .agg #[.int .i64 i.o, .int .i64 i.d, .int .i64 i.s, .int .i64 i.m]
def fag (o : Int) : Value := .agg #[.bool (hD o), .bool (hS o), .bool (hI o)]
theorem bt {u v x : World} (k1 : Below u.heap.size u v) (k2 : Below v.heap.size v x) : Below u.heap.size u x := k1.trans (k2.mono k1.size)
theorem bdr {B : Nat} {u v : World} (h : Below B u v) (q : Nat) : Below B u (v.drewN q) := ⟨h.os, h.tape, h.output, h.size, h.block⟩
theorem bcell {W w1 : World} (hb : Below W.heap.size W w1) : (∀ b o, b < W.heap.size → w1.cell? ⟨b, o, none⟩ = W.cell? ⟨b, o, none⟩) ∧ (∀ b o, b < W.heap.size → w1.frozen? ⟨b, o, none⟩ = W.frozen? ⟨b, o, none⟩) :=
 ⟨fun b o h => hb.cell (p := ⟨b, o, none⟩) h, fun b o h => hb.frozen (p := ⟨b, o, none⟩) h⟩
theorem lt1 {u v : World} {o : Obj} (k : Below (u.alloc o).heap.size (u.alloc o) v) : u.heap.size < v.heap.size := by have := k.size; simp at this; omega
theorem first_ok (i : Ins) (w : World) (h : wrg i = 0) : Calls Tryz.prog 125 #[agg i, fag i.o] w fun e w' => e = .returned (.int .i64 (fst i)) ∧ Below w.heap.size w w' := by
 obtain ⟨b0, b1, hd, hs, _⟩ := wr_fields h
 clear h
 obtain ⟨o, d, s, m⟩ := i
 unfold fst bare agg fag
 dsimp only at *
 have hend : Below w.heap.size w ((w.alloc (.cells #[.int .i64 o, .int .i64 d, .int .i64 s, .int .i64 m] 73)).alloc (.cells #[.bool (hD o), .bool (hS o), .bool (hI o)] 187)) := ((Below.refl _ _).alloc (Nat.le_refl _) _).alloc (by simp) _
 generalize hD o = a at *
 generalize hS o = b at *
 cases a <;> cases b <;> simp at hd hs
 all_goals
   go_enter Tryz.func125, Tryz.ntmps125
   go_wp2
   go_ret
   exact ⟨by simp, hend⟩
theorem long_fag (o : Int) (w : World) : Calls Tryz.prog 124 #[fag o] w fun e w' => e = .returned (.int .i64 (lng o)) ∧ Below w.heap.size w w' := long_any _ _ _ w
theorem three (a x : Bool) : (a = true ∧ x = false) ∨ a = false ∨ (a = true ∧ x = true) := by cases a <;> cases x <;> simp
theorem wrong_any (i : Ins) (w : World) : Calls Tryz.prog 119 #[agg i] w fun e w' => e = .returned (.int .i64 (wrg i)) ∧ Below w.heap.size w w' := by
 obtain ⟨o, d, s, m⟩ := i
 unfold agg
 dsimp only
 by_cases hk : kn o = true
 · have h0 := ke_yes hk
   have key : ∀ b, bad ⟨o, d, s, m⟩ = b → wrg ⟨o, d, s, m⟩ = (if b = true then (3 : Int) else 0) := by
     intro b hb
     unfold wrg
     dsimp only
     rw [if_pos hk, hb]
   rcases three (hD o) (inR d 7) with ⟨ha, hx⟩ | ha | ⟨ha, hx⟩
   · rw [key true (by unfold bad; simp [ha, hx])]
     clear key hk
     rw [if_pos rfl]
     go_enter Tryz.func119, Tryz.ntmps119
     go_wp2_with (first | (go_at_call 123; refine (fo_any _ _).mono ?_; rintro e w1 ⟨rfl, k1⟩; unfold fo; obtain ⟨hcl, hf⟩ := bcell k1; have hlt := lt1 k1) | (go_at_call 173; refine (within_any _ _ _).mono ?_; rintro e w2 ⟨rfl, hw⟩; subst w2))
     go_ret
     exact ⟨rfl, (bt ((Below.refl _ _).alloc (Nat.le_refl _) _) k1).alloc (Nat.le_of_lt hlt) _⟩
   all_goals
     rcases three (hS o) (inR s 7) with ⟨hb, hy⟩ | hb | ⟨hb, hy⟩
     · rw [key true (by unfold bad; simp [hb, hy])]
       clear key hk
       rw [if_pos rfl]
       go_enter Tryz.func119, Tryz.ntmps119
       go_wp2_with (first | (go_at_call 123; refine (fo_any _ _).mono ?_; rintro e w1 ⟨rfl, k1⟩; unfold fo; obtain ⟨hcl, hf⟩ := bcell k1; have hlt := lt1 k1) | (go_at_call 173; refine (within_any _ _ _).mono ?_; rintro e w2 ⟨rfl, hw⟩; subst w2))
       go_ret
       exact ⟨rfl, (bt ((Below.refl _ _).alloc (Nat.le_refl _) _) k1).alloc (Nat.le_of_lt hlt) _⟩
     all_goals
       rcases three (hI o) (inR m 65535) with ⟨hc, hz⟩ | hc | ⟨hc, hz⟩
       · rw [key true (by unfold bad; simp [hc, hz])]
         clear key hk
         rw [if_pos rfl]
         go_enter Tryz.func119, Tryz.ntmps119
         go_wp2_with (first | (go_at_call 123; refine (fo_any _ _).mono ?_; rintro e w1 ⟨rfl, k1⟩; unfold fo; obtain ⟨hcl, hf⟩ := bcell k1; have hlt := lt1 k1) | (go_at_call 173; refine (within_any _ _ _).mono ?_; rintro e w2 ⟨rfl, hw⟩; subst w2))
         go_ret
         exact ⟨rfl, (bt ((Below.refl _ _).alloc (Nat.le_refl _) _) k1).alloc (Nat.le_of_lt hlt) _⟩
       all_goals
         rw [key false (by unfold bad; simp_all)]
         clear key hk
         rw [if_neg (by decide)]
         go_enter Tryz.func119, Tryz.ntmps119
         go_wp2_with (first | (go_at_call 123; refine (fo_any _ _).mono ?_; rintro e w1 ⟨rfl, k1⟩; unfold fo; obtain ⟨hcl, hf⟩ := bcell k1; have hlt := lt1 k1) | (go_at_call 173; refine (within_any _ _ _).mono ?_; rintro e w2 ⟨rfl, hw⟩; subst w2))
         go_ret
         exact ⟨rfl, (bt ((Below.refl _ _).alloc (Nat.le_refl _) _) k1).alloc (Nat.le_of_lt hlt) _⟩
 · have hk' : kn o = false := by simpa using hk
   have h0 := ke_no hk'
   rw [wr_no hk']
   clear hk hk'
   go_enter Tryz.func119, Tryz.ntmps119
   go_wp2_with (go_at_call 123; refine (fo_any _ _).mono ?_; rintro e w1 ⟨rfl, k1⟩; unfold fo; obtain ⟨hcl, hf⟩ := bcell k1; have hlt := lt1 k1)
   go_ret
   exact ⟨rfl, (bt ((Below.refl _ _).alloc (Nat.le_refl _) _) k1).alloc (Nat.le_of_lt hlt) _⟩
theorem long_ok (o : Int) (w : World) : Calls Tryz.prog 116 #[.int .i64 o] w fun e w' => e = .returned (.tuple #[.int .i64 (if kn o = true then lng o else 0), .int .i64 (ke o)]) ∧ Below w.heap.size w w' := by
 by_cases hk : kn o = true
 · have h0 := ke_yes hk
   rw [if_pos hk, h0]
   clear hk
   go_enter Tryz.func116, Tryz.ntmps116
   go_wp2_with (first | (go_at_call 123; refine (fo_any _ _).mono ?_; rintro e w1 ⟨rfl, k1⟩; unfold fo; obtain ⟨hcl, hf⟩ := bcell k1) | (go_at_call 124; refine (long_fag o _).mono ?_; rintro e w2 ⟨rfl, k2⟩))
   go_ret2
   exact ⟨rfl, bt (k1.alloc k1.size _) k2⟩
 · have hk' : kn o = false := by simpa using hk
   have h0 := ke_no hk'
   rw [if_neg hk, h0]
   clear hk hk'
   go_enter Tryz.func116, Tryz.ntmps116
   go_wp2_with (go_at_call 123; refine (fo_any _ _).mono ?_; rintro e w1 ⟨rfl, k1⟩; unfold fo; obtain ⟨hcl, hf⟩ := bcell k1)
   go_ret2
   exact ⟨rfl, k1.alloc k1.size _⟩
theorem uses_any (o : Int) (w : World) : Calls Tryz.prog 205 #[.int .i64 o] w fun e w' => e = .returned (.tuple #[.bool (hD o), .bool (hS o), .bool (hI o), .int .i64 (ke o)]) ∧ Below w.heap.size w w' := by
 go_enter Tryz.func205, Tryz.ntmps205
 go_wp2_with (go_at_call 123; refine (fo_any _ _).mono ?_; rintro e w1 ⟨rfl, k1⟩; unfold fo; obtain ⟨hcl, hf⟩ := bcell k1)
 go_quiet (fail)
 go_wp2
 exact bodyPost_ret (v := .tuple #[.bool (hD o), .bool (hS o), .bool (hI o), .int .i64 (ke o)]) (by simp [results, Tryz.results205, go_sem]) rfl ⟨rfl, bdr (k1.alloc k1.size _) _⟩
end Go.Proofs.YtlkoidkdeopgjaaGreatDoor
