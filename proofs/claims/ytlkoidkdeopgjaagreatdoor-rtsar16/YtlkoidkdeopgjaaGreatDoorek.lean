/-
  EmuS.
-/
import Derived.Test.YtlkoidkdeopgjaaGreatDooreb
import Derived.Test.YtlkoidkdeopgjaaGreatDoorec
import Derived.Test.YtlkoidkdeopgjaaGreatDoored
import Derived.Test.YtlkoidkdeopgjaaGreatDoorei
import Derived.Test.YtlkoidkdeopgjaaGreatDoorej
set_option maxHeartbeats 4000000
set_option maxRecDepth 100000
namespace Go.Proofs.YtlkoidkdeopgjaaGreatDoor
open Go.RowKit
set_option linter.unusedSimpArgs false
set_option linter.unusedVariables false
theorem do_any {w0 w : World} {p q : Nat} {vc vi vo : Value} {m : Ma} {xs bs : List Int} (h : Mach w0 w p q vc vi vo m xs bs) (i : Ins) (ho : 0 ≤ i.o) (ho' : i.o ≤ 32) (hd : 0 ≤ i.d) (hd' : i.d ≤ 7) (hs : 0 ≤ i.s) (hs' : i.s ≤ 7) (hm : wd i.m) :
   Calls Tryz.prog 93 #[.pointer (some ⟨p, 0, none⟩), agg i] w fun e w' => ∃ vo', e = .returned (.tuple #[]) ∧ Mach w0 w' p q vc vi vo' (m.act i bs) xs bs := by
 obtain ⟨o, d, s, mm⟩ := i
 unfold agg
 dsimp only at *
 have hc : o = 0 ∨ o = 1 ∨ o = 2 ∨ o = 3 ∨ o = 4 ∨ o = 5 ∨ o = 6 ∨ o = 7 ∨ o = 8 ∨ o = 9 ∨ o = 10 ∨ o = 11 ∨ o = 12 ∨ o = 13 ∨ o = 14 ∨ o = 15 ∨ o = 16 ∨ o = 17 ∨ o = 18 ∨ o = 19 ∨ o = 20 ∨ o = 21 ∨ o = 22 ∨ o = 23 ∨ o = 24 ∨ o = 25 ∨ o = 26 ∨ o = 27 ∨ o = 28 ∨ o = 29 ∨ o = 30 ∨ o = 31 ∨ o = 32 := by omega
 rcases hc with rfl | rfl | rfl | rfl | rfl | rfl | rfl | rfl | rfl | rfl | rfl | rfl | rfl | rfl | rfl | rfl | rfl | rfl | rfl | rfl | rfl | rfl | rfl | rfl | rfl | rfl | rfl | rfl | rfl | rfl | rfl | rfl | rfl
 · exact do0 h d s mm hd hd' hs hs' hm
 · exact do1 h d s mm hd hd' hs hs' hm
 · exact do2 h d s mm hd hd' hs hs' hm
 · exact do3 h d s mm hd hd' hs hs' hm
 · exact do4 h d s mm hd hd' hs hs' hm
 · exact do5 h d s mm hd hd' hs hs' hm
 · exact do6 h d s mm hd hd' hs hs' hm
 · exact do7 h d s mm hd hd' hs hs' hm
 · exact do8 h d s mm hd hd' hs hs' hm
 · exact do9 h d s mm hd hd' hs hs' hm
 · exact do10 h d s mm hd hd' hs hs' hm
 · exact do11 h d s mm hd hd' hs hs' hm
 · exact do12 h d s mm hd hd' hs hs' hm
 · exact do13 h d s mm hd hd' hs hs' hm
 · exact do14 h d s mm hd hd' hs hs' hm
 · exact do15 h d s mm hd hd' hs hs' hm
 · exact do16 h d s mm hd hd' hs hs' hm
 · exact do17 h d s mm hd hd' hs hs' hm
 · exact do18 h d s mm hd hd' hs hs' hm
 · exact do19 h d s mm hd hd' hs hs' hm
 · exact do20 h d s mm hd hd' hs hs' hm
 · exact do21 h d s mm hd hd' hs hs' hm
 · exact do22 h d s mm hd hd' hs hs' hm
 · exact do23 h d s mm hd hd' hs hs' hm
 · exact do24 h d s mm hd hd' hs hs' hm
 · exact do25 h d s mm hd hd' hs hs' hm
 · exact do26 h d s mm hd hd' hs hs' hm
 · exact do27 h d s mm hd hd' hs hs' hm
 · exact do28 h d s mm hd hd' hs hs' hm
 · exact do29 h d s mm hd hd' hs hs' hm
 · exact do30 h d s mm hd hd' hs hs' hm
 · exact do31 h d s mm hd hd' hs hs' hm
 · exact do32 h d s mm hd hd' hs hs' hm
theorem fit_ok {i : Ins} {x : Int} (h : fit i x = true) : wrg i = 0 := by unfold fit at h; simp at h; exact h.1
theorem one_ok (l : List Int) (h : (one l).2 ≠ 0) : 0 ≤ (one l).1.o ∧ (one l).1.o ≤ 32 ∧ 0 ≤ (one l).1.d ∧ (one l).1.d ≤ 7 ∧ 0 ≤ (one l).1.s ∧ (one l).1.s ≤ 7 ∧ wd (one l).1.m ∧ 1 ≤ (one l).2 ∧ (one l).2 ≤ 2 := by
 match l with
 | [] => exact absurd rfl h
 | x :: r =>
   by_cases hi : hI (x / 1024) = true
   · match r with
     | [] => rw [one_end hi] at h; exact absurd rfl h
     | y :: r =>
       rw [one_two hi] at h ⊢
       by_cases hf : fit (with2 x y) x = true
       · rw [if_pos hf] at h ⊢
         have hw := fit_ok hf
         obtain ⟨a, b, _, _, c⟩ := wr_fields hw
         have := c hi
         have e1 : (with2 x y).d = x / 128 % 8 := rfl
         have e2 : (with2 x y).s = x / 16 % 8 := rfl
         refine ⟨a, b, ?_, ?_, ?_, ?_, this, ?_, ?_⟩ <;> simp only [e1, e2] <;> omega
       · rw [if_neg hf] at h; exact absurd rfl h
   · rw [one_one hi] at h ⊢
     by_cases hf : fit (with2 x 0) x = true
     · rw [if_pos hf] at h ⊢
       have hw := fit_ok hf
       obtain ⟨a, b, _, _, c⟩ := wr_fields hw
       have e1 : (with2 x 0).d = x / 128 % 8 := rfl
       have e2 : (with2 x 0).s = x / 16 % 8 := rfl
       refine ⟨a, b, ?_, ?_, ?_, ?_, (by show (0:Int) ≤ 0 ∧ (0:Int) ≤ 65535; omega), ?_, ?_⟩ <;> simp only [e1, e2] <;> omega
     · rw [if_neg hf] at h; exact absurd rfl h
theorem oneA_ok (l : List Int) (k : Int) (h : (oneA l k).2 ≠ 0) : 0 ≤ (oneA l k).1.o ∧ (oneA l k).1.o ≤ 32 ∧ 0 ≤ (oneA l k).1.d ∧ (oneA l k).1.d ≤ 7 ∧ 0 ≤ (oneA l k).1.s ∧ (oneA l k).1.s ≤ 7 ∧ wd (oneA l k).1.m ∧ 1 ≤ (oneA l k).2 ∧ (oneA l k).2 ≤ 2 := by
 unfold oneA at *
 split
 · rename_i hk; rw [if_pos hk] at h; exact one_ok _ h
 · rename_i hk; rw [if_neg hk] at h; exact absurd rfl h
theorem step_any {w0 w : World} {p q : Nat} {vc vi vo : Value} {m : Ma} {xs bs : List Int} (h : Mach w0 w p q vc vi vo m xs bs) (ht : 0 ≤ m.took) (ht' : m.took ≤ 1000000) :
   Calls Tryz.prog 67 #[.pointer (some ⟨p, 0, none⟩)] w fun e w' => ∃ vo', e = .returned (.tuple #[]) ∧ Mach w0 w' p q vc vi vo' (m.step xs bs) xs bs := by
 have HM := zH h
 obtain ⟨-, -, -, -, c12, -, c14, -, c16, -, -, -, c20⟩ := h.at
 have fz := h.flat
 have hp := h.pw
 have hpc := h.fine.pc
 have IC : Hid (Ints w0 vc xs) := h.code
 have ON := fun w' hw => iOne_any xs vc m.pc w' hw
 have OK := zH (oneA_ok xs m.pc)
 have hst : Hid (m.step xs bs = if (oneA xs m.pc).2 = 0 then { m with took := m.took + 1, how := 4 } else if (({ m with took := m.took + 1, pc := lw (m.pc + (oneA xs m.pc).2) } : Ma).act (oneA xs m.pc).1 bs).how = 0 then (({ m with took := m.took + 1, pc := lw (m.pc + (oneA xs m.pc).2) } : Ma).act (oneA xs m.pc).1 bs) else { ({ m with took := m.took + 1, pc := lw (m.pc + (oneA xs m.pc).2) } : Ma).act (oneA xs m.pc).1 bs with pc := m.pc }) := by unfold Hid; rfl
 rw [uI hst]
 clear hst
 have PT := zH (h.put (m' := { m with took := m.took + 1 }) 20 (.int .i64 (m.took + 1)) (by decide) rfl rfl rfl { h.fine with })
 have hwr := wrap_ok (x := m.took + 1) (by omega) (by omega)
 have KL := zH h.low
 clear h
 generalize oneA xs m.pc = R at *
 obtain ⟨i, n⟩ := R
 dsimp only at *
 unfold wd at hpc
 by_cases hn : n = 0
 · subst hn
   rw [if_pos rfl]
   clear OK
   go_enter Tryz.func67, Tryz.ntmps67
   go_wp2_with fail
   refine (ON _ ((uI IC).step (uI PT).low)).mono ?_
   rintro e w1 ⟨rfl, k1⟩
   unfold agg
   have HM1 := zH ((uI PT).step k1)
   obtain ⟨-, -, -, -, d12, -, -, -, d16, -, -, -, -⟩ := (uI HM1).at
   have fz1 := (uI HM1).flat
   have hp1 := (uI HM1).pw
   have P1 := zH ((uI HM1).put (m' := { m with took := m.took + 1, how := 4 }) 16 (.int .i64 4) (by decide) rfl rfl rfl { (uI HM1).fine with })
   go_wp2_with fail
   first
     | (go_end0; exact ⟨_, rfl, (uI P1).new _⟩)
     | exact bodyPost_ret (v := .tuple #[]) (by simp [results, Tryz.results67]) rfl ⟨_, rfl, (uI P1).new _⟩
 · obtain ⟨o1, o2, o3, o4, o5, o6, o7, o8, o9⟩ := uI OK hn
   rw [if_neg hn]
   clear OK
   have hn1 : (n == 0) = false := by simp [hn]
   have hwr2 := wrap_ok (x := m.pc + n) (by omega) (by omega)
   have hl := lw_b (m.pc + n)
   have D := zH (fun w (h : Mach w0 w p q vc vi vo ({ m with took := m.took + 1, pc := lw (m.pc + n) } : Ma) xs bs) => do_any h i o1 o2 o3 o4 o5 o6 o7)
   unfold agg at D
   have PC := zH (fun w (h : Mach w0 w p q vc vi vo ({ m with took := m.took + 1 } : Ma) xs bs) => (h.put (m' := { m with took := m.took + 1, pc := lw (m.pc + n) }) 12 (.int .i64 (lw (m.pc + n))) (by decide) rfl rfl rfl { h.fine with pc := hl }).new (.cells #[.int .i64 i.o, .int .i64 i.d, .int .i64 i.s, .int .i64 i.m] 73))
   generalize ({ m with took := m.took + 1, pc := lw (m.pc + n) } : Ma).act i bs = m3 at *
   have hpc2 : wd m.pc := hpc
   by_cases hh : m3.how = 0
   · rw [if_pos hh]
     have hh1 : (m3.how != 0) = false := by simp [hh]
     go_enter Tryz.func67, Tryz.ntmps67
     go_wp2_with fail
     refine (ON _ ((uI IC).step (uI PT).low)).mono ?_
     rintro e w1 ⟨rfl, k1⟩
     unfold agg
     have HM1 := zH ((uI PT).step k1)
     obtain ⟨-, -, -, -, d12, -, -, -, d16, -, -, -, -⟩ := (uI HM1).at
     have fz1 := (uI HM1).flat
     have hp1 := (uI HM1).pw
     go_wp2_with (go_at_call 92; refine (place_any _ _).mono ?_; rintro e w2 ⟨rfl, hw⟩; subst w2)
     refine (uI D _ (uI PC _ (uI HM1))).mono ?_
     rintro e w3 ⟨vo3, rfl, M3⟩
     have HM3 := zH M3
     obtain ⟨-, -, -, -, e12, -, -, -, e16, -, -, -, -⟩ := M3.at
     have fz3 := M3.flat
     clear M3
     go_wp2_with fail
     go_end0
     exact ⟨_, rfl, uI HM3⟩
   · rw [if_neg hh]
     have hh1 : (m3.how != 0) = true := by simp [hh]
     go_enter Tryz.func67, Tryz.ntmps67
     go_wp2_with fail
     refine (ON _ ((uI IC).step (uI PT).low)).mono ?_
     rintro e w1 ⟨rfl, k1⟩
     unfold agg
     have HM1 := zH ((uI PT).step k1)
     obtain ⟨-, -, -, -, d12, -, -, -, d16, -, -, -, -⟩ := (uI HM1).at
     have fz1 := (uI HM1).flat
     have hp1 := (uI HM1).pw
     go_wp2_with (go_at_call 92; refine (place_any _ _).mono ?_; rintro e w2 ⟨rfl, hw⟩; subst w2)
     refine (uI D _ (uI PC _ (uI HM1))).mono ?_
     rintro e w3 ⟨vo3, rfl, M3⟩
     have HM3 := zH M3
     obtain ⟨-, -, -, -, e12, -, -, -, e16, -, -, -, -⟩ := M3.at
     have fz3 := M3.flat
     clear M3
     go_wp2_with fail
     go_end0
     exact ⟨_, rfl, (uI HM3).put (m' := { m3 with pc := m.pc }) 12 (.int .i64 m.pc) (by decide) rfl rfl rfl { (uI HM3).fine with pc := hpc2 }⟩
end Go.Proofs.YtlkoidkdeopgjaaGreatDoor
