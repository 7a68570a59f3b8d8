/-
  AsW.
-/
import Derived.Test.YtlkoidkdeopgjaaGreatDoorkc
set_option maxHeartbeats 4000000
set_option maxRecDepth 100000
namespace Go.Proofs.YtlkoidkdeopgjaaGreatDoor
open Go.RowKit
set_option linter.unusedSimpArgs false
set_option linter.unusedVariables false
def may (o : Int) : Bool := hI o && (o != 32)
def emp (s : ByteArray) : Bool := s.toList.isEmpty
def isZ (i : Ins) : Bool := (i.o == 0) && (i.d == 0) && (i.s == 0) && (i.m == 0)
def wrgL (x : Ln) : Int :=
 if emp x.lab = false then (if nm x.lab = true then (if emp x.ref = true ∧ isZ x.i = true then 0 else 8) else 7)
 else if wrg x.i ≠ 0 then wrg x.i
 else if emp x.ref = true then 0
 else if nm x.ref = true then (if may x.i.o = true ∧ x.i.m = 0 then 0 else 8) else 7
def aggL (x : Ln) : Value := .agg #[.string x.lab, .int .i64 x.i.o, .int .i64 x.i.d, .int .i64 x.i.s, .int .i64 x.i.m, .string x.ref]
theorem may_any (o : Int) (w : World) : Calls Tryz.prog 172 #[.int .i64 o] w fun e w' => e = .returned (.bool (may o)) ∧ Below w.heap.size w w' := by
 have U := fun w => uses_any o w
 unfold may
 generalize hI o = c at *
 cases c
 · go_enter Tryz.func172, Tryz.ntmps172
   go_wp2_with fail
   refine (U _).mono ?_
   rintro e w1 ⟨rfl, k1⟩
   have K1 := zH k1
   clear k1
   go_wp2_with fail
   go_ret
   exact ⟨rfl, uI K1⟩
 · go_enter Tryz.func172, Tryz.ntmps172
   go_wp2_with fail
   refine (U _).mono ?_
   rintro e w1 ⟨rfl, k1⟩
   have K1 := zH k1
   clear k1
   go_wp2_with fail
   go_ret
   exact ⟨by simp, uI K1⟩
def wlb (x : Ln) : Int := if nm x.lab = true then (if emp x.ref = true ∧ isZ x.i = true then 0 else 8) else 7
theorem wlb_any (x : Ln) (w : World) : Calls Tryz.prog 171 #[aggL x] w fun e w' => e = .returned (.int .i64 (wlb x)) ∧ Below w.heap.size w w' := by
 obtain ⟨lab, ⟨o, d, s, m⟩, ref⟩ := x
 have hwl : wlb ⟨lab, ⟨o, d, s, m⟩, ref⟩ = if nm lab = true then (if emp ref = true ∧ isZ ⟨o, d, s, m⟩ = true then 0 else 8) else 7 := rfl
 unfold aggL
 dsimp only
 have NA := fun w => named_any lab w
 have K0 := zH (below_a w (.cells #[.string lab, .int .i64 o, .int .i64 d, .int .i64 s, .int .i64 m, .string ref] 75))
 generalize wlb ⟨lab, ⟨o, d, s, m⟩, ref⟩ = R at *
 by_cases h1 : nm lab = true
 · rw [h1] at NA
   rw [if_pos h1] at hwl
   clear h1
   by_cases h2 : ref.toList.isEmpty = true
   · have h2' : emp ref = true := h2
     by_cases ho : o = 0
     · by_cases hd : d = 0
       · by_cases hs : s = 0
         · by_cases hm : m = 0
           · obtain rfl : R = 0 := by rw [hwl, if_pos ⟨h2', by unfold isZ; simp [ho, hd, hs, hm]⟩]
             subst ho hd hs hm
             clear hwl h2'
             go_enter Tryz.func171, Tryz.ntmps171
             go_wp2_with fail
             refine (NA _).mono ?_
             rintro e w1 ⟨rfl, hw⟩
             subst w1
             go_wp2_with fail
             go_ret
             exact ⟨rfl, uI K0⟩
           · obtain rfl : R = 8 := by rw [hwl, if_neg (by unfold isZ; simp [hm])]
             have hm' : (m == 0) = false := beq_eq_false_iff_ne.2 hm
             subst ho hd hs
             clear hwl h2' hm
             go_enter Tryz.func171, Tryz.ntmps171
             go_wp2_with fail
             refine (NA _).mono ?_
             rintro e w1 ⟨rfl, hw⟩
             subst w1
             go_wp2_with fail
             go_ret
             exact ⟨rfl, uI K0⟩
         · obtain rfl : R = 8 := by rw [hwl, if_neg (by unfold isZ; simp [hs])]
           have hm' : (s == 0) = false := beq_eq_false_iff_ne.2 hs
           subst ho hd
           clear hwl h2' hs
           go_enter Tryz.func171, Tryz.ntmps171
           go_wp2_with fail
           refine (NA _).mono ?_
           rintro e w1 ⟨rfl, hw⟩
           subst w1
           go_wp2_with fail
           go_ret
           exact ⟨rfl, uI K0⟩
       · obtain rfl : R = 8 := by rw [hwl, if_neg (by unfold isZ; simp [hd])]
         have hm' : (d == 0) = false := beq_eq_false_iff_ne.2 hd
         subst ho
         clear hwl h2' hd
         go_enter Tryz.func171, Tryz.ntmps171
         go_wp2_with fail
         refine (NA _).mono ?_
         rintro e w1 ⟨rfl, hw⟩
         subst w1
         go_wp2_with fail
         go_ret
         exact ⟨rfl, uI K0⟩
     · obtain rfl : R = 8 := by rw [hwl, if_neg (by unfold isZ; simp [ho])]
       have hm' : (o == 0) = false := beq_eq_false_iff_ne.2 ho
       clear hwl h2' ho
       go_enter Tryz.func171, Tryz.ntmps171
       go_wp2_with fail
       refine (NA _).mono ?_
       rintro e w1 ⟨rfl, hw⟩
       subst w1
       go_wp2_with fail
       go_ret
       exact ⟨rfl, uI K0⟩
   · replace h2 : ref.toList.isEmpty = false := by simpa using h2
     obtain rfl : R = 8 := by rw [hwl, if_neg (by unfold emp; simp [h2])]
     clear hwl
     go_enter Tryz.func171, Tryz.ntmps171
     go_wp2_with fail
     refine (NA _).mono ?_
     rintro e w1 ⟨rfl, hw⟩
     subst w1
     go_wp2_with fail
     go_ret
     exact ⟨rfl, uI K0⟩
 · replace h1 : nm lab = false := by simpa using h1
   rw [h1] at NA
   obtain rfl : R = 7 := by rw [hwl, if_neg (by simp [h1])]
   clear h1 hwl
   go_enter Tryz.func171, Tryz.ntmps171
   go_wp2_with fail
   refine (NA _).mono ?_
   rintro e w1 ⟨rfl, hw⟩
   subst w1
   go_wp2_with fail
   go_ret
   exact ⟨rfl, uI K0⟩
theorem wrongL_any (x : Ln) (w : World) : Calls Tryz.prog 115 #[aggL x] w fun e w' => e = .returned (.int .i64 (wrgL x)) ∧ Below w.heap.size w w' := by
 have LA := fun w => wlb_any x w
 obtain ⟨lab, i, ref⟩ := x
 have WA := fun w => wrong_any i w
 have NA := fun w => named_any ref w
 have MA := fun w => may_any i.o w
 unfold agg at WA
 have hwl : wrgL ⟨lab, i, ref⟩ = if emp lab = false then wlb ⟨lab, i, ref⟩ else if wrg i ≠ 0 then wrg i else if emp ref = true then 0 else if nm ref = true then (if may i.o = true ∧ i.m = 0 then 0 else 8) else 7 := rfl
 unfold aggL at LA ⊢
 dsimp only at LA ⊢
 obtain ⟨o, d, s, m⟩ := i
 dsimp only at *
 have B0 := zH (Box.new w #[.string lab, .int .i64 o, .int .i64 d, .int .i64 s, .int .i64 m, .string ref] 75)
 have K0 := zH (below_a w (.cells #[.string lab, .int .i64 o, .int .i64 d, .int .i64 s, .int .i64 m, .string ref] 75))
 generalize wrgL ⟨lab, ⟨o, d, s, m⟩, ref⟩ = R at *
 generalize wlb ⟨lab, ⟨o, d, s, m⟩, ref⟩ = V at *
 generalize wrg ⟨o, d, s, m⟩ = q at *
 by_cases h1 : lab.toList.isEmpty = true
 · rw [if_neg (by unfold emp; simp [h1])] at hwl
   clear LA
   by_cases h2 : q = 0
   · rw [if_neg (by simp [h2])] at hwl
     subst h2
     by_cases h3 : ref.toList.isEmpty = true
     · obtain rfl : R = 0 := by rw [hwl, if_pos (show emp ref = true from h3)]
       clear hwl NA MA
       go_enter Tryz.func115, Tryz.ntmps115
       go_wp2_with fail
       refine (WA _).mono ?_
       rintro e w1 ⟨rfl, k1⟩
       have B1 := zH ((uI B0).step k1)
       have K1 := zH (bt (uI K0) k1)
       have c0 := (uI B1).2.1 0 _ rfl
       have c1 := (uI B1).2.1 1 _ rfl
       have c2 := (uI B1).2.1 2 _ rfl
       have c3 := (uI B1).2.1 3 _ rfl
       have c4 := (uI B1).2.1 4 _ rfl
       have c5 := (uI B1).2.1 5 _ rfl
       clear k1
       go_wp2_with fail
       go_ret
       exact ⟨rfl, uI K1⟩
     · replace h3 : ref.toList.isEmpty = false := by simpa using h3
       rw [if_neg (show ¬ emp ref = true by unfold emp; simp [h3])] at hwl
       by_cases h4 : nm ref = true
       · rw [if_pos h4] at hwl
         rw [h4] at NA
         clear h4
         by_cases h5 : may o = true
         · rw [h5] at MA
           by_cases h6 : m = 0
           · obtain rfl : R = 0 := by rw [hwl, if_pos ⟨h5, h6⟩]
             subst h6
             clear hwl h5
             go_enter Tryz.func115, Tryz.ntmps115
             go_wp2_with fail
             refine (WA _).mono ?_
             rintro e w1 ⟨rfl, k1⟩
             have B1 := zH ((uI B0).step k1)
             have K1 := zH (bt (uI K0) k1)
             have c0 := (uI B1).2.1 0 _ rfl
             have c1 := (uI B1).2.1 1 _ rfl
             have c2 := (uI B1).2.1 2 _ rfl
             have c3 := (uI B1).2.1 3 _ rfl
             have c4 := (uI B1).2.1 4 _ rfl
             have c5 := (uI B1).2.1 5 _ rfl
             clear k1
             go_wp2_with fail
             refine (NA _).mono ?_
             rintro e w2 ⟨rfl, hw⟩
             subst w2
             go_wp2_with fail
             refine (MA _).mono ?_
             rintro e w3 ⟨rfl, k3⟩
             have B3 := zH ((uI B1).step k3)
             have K3 := zH (bt (uI K1) k3)
             clear c0 c1 c2 c3 c4 c5
             have c0 := (uI B3).2.1 0 _ rfl
             have c1 := (uI B3).2.1 1 _ rfl
             have c2 := (uI B3).2.1 2 _ rfl
             have c3 := (uI B3).2.1 3 _ rfl
             have c4 := (uI B3).2.1 4 _ rfl
             have c5 := (uI B3).2.1 5 _ rfl
             clear k3
             go_wp2_with fail
             go_ret
             exact ⟨rfl, uI K3⟩
           · obtain rfl : R = 8 := by rw [hwl, if_neg (fun h => h6 h.2)]
             have h6' : (m != 0) = true := by simp [h6]
             clear hwl h5 h6
             go_enter Tryz.func115, Tryz.ntmps115
             go_wp2_with fail
             refine (WA _).mono ?_
             rintro e w1 ⟨rfl, k1⟩
             have B1 := zH ((uI B0).step k1)
             have K1 := zH (bt (uI K0) k1)
             have c0 := (uI B1).2.1 0 _ rfl
             have c1 := (uI B1).2.1 1 _ rfl
             have c2 := (uI B1).2.1 2 _ rfl
             have c3 := (uI B1).2.1 3 _ rfl
             have c4 := (uI B1).2.1 4 _ rfl
             have c5 := (uI B1).2.1 5 _ rfl
             clear k1
             go_wp2_with fail
             refine (NA _).mono ?_
             rintro e w2 ⟨rfl, hw⟩
             subst w2
             go_wp2_with fail
             refine (MA _).mono ?_
             rintro e w3 ⟨rfl, k3⟩
             have B3 := zH ((uI B1).step k3)
             have K3 := zH (bt (uI K1) k3)
             clear c0 c1 c2 c3 c4 c5
             have c0 := (uI B3).2.1 0 _ rfl
             have c1 := (uI B3).2.1 1 _ rfl
             have c2 := (uI B3).2.1 2 _ rfl
             have c3 := (uI B3).2.1 3 _ rfl
             have c4 := (uI B3).2.1 4 _ rfl
             have c5 := (uI B3).2.1 5 _ rfl
             clear k3
             go_wp2_with fail
             go_ret
             exact ⟨rfl, uI K3⟩
         · obtain rfl : R = 8 := by rw [hwl, if_neg (fun h => h5 h.1)]
           replace h5 : may o = false := by simpa using h5
           rw [h5] at MA
           clear hwl h5
           go_enter Tryz.func115, Tryz.ntmps115
           go_wp2_with fail
           refine (WA _).mono ?_
           rintro e w1 ⟨rfl, k1⟩
           have B1 := zH ((uI B0).step k1)
           have K1 := zH (bt (uI K0) k1)
           have c0 := (uI B1).2.1 0 _ rfl
           have c1 := (uI B1).2.1 1 _ rfl
           have c2 := (uI B1).2.1 2 _ rfl
           have c3 := (uI B1).2.1 3 _ rfl
           have c4 := (uI B1).2.1 4 _ rfl
           have c5 := (uI B1).2.1 5 _ rfl
           clear k1
           go_wp2_with fail
           refine (NA _).mono ?_
           rintro e w2 ⟨rfl, hw⟩
           subst w2
           go_wp2_with fail
           refine (MA _).mono ?_
           rintro e w3 ⟨rfl, k3⟩
           have B3 := zH ((uI B1).step k3)
           have K3 := zH (bt (uI K1) k3)
           clear c0 c1 c2 c3 c4 c5
           have c0 := (uI B3).2.1 0 _ rfl
           have c1 := (uI B3).2.1 1 _ rfl
           have c2 := (uI B3).2.1 2 _ rfl
           have c3 := (uI B3).2.1 3 _ rfl
           have c4 := (uI B3).2.1 4 _ rfl
           have c5 := (uI B3).2.1 5 _ rfl
           clear k3
           go_wp2_with fail
           go_ret
           exact ⟨rfl, uI K3⟩
       · obtain rfl : R = 7 := by rw [hwl, if_neg h4]
         replace h4 : nm ref = false := by simpa using h4
         rw [h4] at NA
         clear hwl h4 MA
         go_enter Tryz.func115, Tryz.ntmps115
         go_wp2_with fail
         refine (WA _).mono ?_
         rintro e w1 ⟨rfl, k1⟩
         have B1 := zH ((uI B0).step k1)
         have K1 := zH (bt (uI K0) k1)
         have c0 := (uI B1).2.1 0 _ rfl
         have c1 := (uI B1).2.1 1 _ rfl
         have c2 := (uI B1).2.1 2 _ rfl
         have c3 := (uI B1).2.1 3 _ rfl
         have c4 := (uI B1).2.1 4 _ rfl
         have c5 := (uI B1).2.1 5 _ rfl
         clear k1
         go_wp2_with fail
         refine (NA _).mono ?_
         rintro e w2 ⟨rfl, hw⟩
         subst w2
         go_wp2_with fail
         go_ret
         exact ⟨rfl, uI K1⟩
   · obtain rfl : R = q := by rw [hwl, if_pos h2]
     have h2' : (R != 0) = true := by simp [h2]
     clear hwl h2 NA MA
     go_enter Tryz.func115, Tryz.ntmps115
     go_wp2_with fail
     refine (WA _).mono ?_
     rintro e w1 ⟨rfl, k1⟩
     have B1 := zH ((uI B0).step k1)
     have K1 := zH (bt (uI K0) k1)
     have c0 := (uI B1).2.1 0 _ rfl
     have c1 := (uI B1).2.1 1 _ rfl
     have c2 := (uI B1).2.1 2 _ rfl
     have c3 := (uI B1).2.1 3 _ rfl
     have c4 := (uI B1).2.1 4 _ rfl
     have c5 := (uI B1).2.1 5 _ rfl
     clear k1
     go_wp2_with fail
     go_ret
     exact ⟨rfl, uI K1⟩
 · replace h1 : lab.toList.isEmpty = false := by simpa using h1
   obtain rfl : R = V := by rw [hwl, if_pos (show emp lab = false from h1)]
   clear hwl NA MA WA
   go_enter Tryz.func115, Tryz.ntmps115
   go_wp2_with fail
   refine (LA _).mono ?_
   rintro e w1 ⟨rfl, k1⟩
   have K1 := zH (bt (uI K0) k1)
   clear k1
   go_wp2_with fail
   go_ret
   exact ⟨rfl, uI K1⟩
end Go.Proofs.YtlkoidkdeopgjaaGreatDoor
