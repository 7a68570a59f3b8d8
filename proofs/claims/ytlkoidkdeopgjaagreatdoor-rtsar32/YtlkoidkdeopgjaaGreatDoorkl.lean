/-
  LkL.
-/
import Derived.Test.YtlkoidkdeopgjaaGreatDoorkk
set_option maxHeartbeats 4000000
set_option maxRecDepth 100000
namespace Go.Proofs.YtlkoidkdeopgjaaGreatDoor
open Go.RowKit Go.Maps
set_option linter.unusedSimpArgs false
set_option linter.unusedVariables false
theorem link_any_go (us : List Un) (v : Value) (entry : ByteArray) (w : World) (hU : Uns w v us) (hen : entry.size ≤ maxLen) (hm : us.length ≤ 400) (h2 : (srv us 0 ⟨[], []⟩).2.1 = 0) (h3 : hasA (srv us 0 ⟨[], []⟩).1.owners entry.toList = true) :
   Calls Tryz.prog 45 #[v, .string entry] w fun e w' => LinkRet2 w (linkL us entry.toList) e w' := by
 have HU := zH hU
 obtain ⟨ao, cap, rfl, hmax, -⟩ := hU
 unfold maxLen at hmax
 have BI0 := zH ((Box.new w #[.slice none 0 0, .slice none 0 0, .slice none 0 0] 81).step (below_a _ (.cells #[.int .i64 0, .int .i64 0] 83)))
 have BF0 := zH (Box.new (w.alloc (.cells #[.slice none 0 0, .slice none 0 0, .slice none 0 0] 81)) #[.int .i64 0, .int .i64 0] 83)
 have KW0 := zH (bt (below_a w (.cells #[.slice none 0 0, .slice none 0 0, .slice none 0 0] 81)) (below_a _ (.cells #[.int .i64 0, .int .i64 0] 83)))
 have S0 : ((w.alloc (.cells #[.slice none 0 0, .slice none 0 0, .slice none 0 0] 81)).alloc (.cells #[.int .i64 0, .int .i64 0] 83)).heap.size = w.heap.size + 1 + 1 := by simp
 simp only [World.size_alloc] at BF0
 have SA := surveyed_any us (.slice ao us.length cap) _ ((uI HU).step (uI KW0)) hm
 have LG := fun P hP => link_go (e := entry.toList) hm h2 h3 (P := P) hP
 have SG := fun P hP => srv_good hm h2 (P := P) hP
 have SN := srv_new us 0 ⟨[], []⟩ h2 entry.toList h3 rfl
 have SR := (srv_parts us 0 ⟨[], []⟩ h2).2
 obtain ⟨m, hm1, hm2, -⟩ := SN
 rw [Nat.zero_add] at hm2
 generalize hS : srv us 0 ⟨[], []⟩ = S at *
 obtain ⟨⟨pa, O⟩, er, at'⟩ := S
 unfold SrvRet at SA
 dsimp only at *
 subst h2
 rw [hm2] at LG
 have HLG := zH LG
 have HSG := zH SG
 have HSR := zH SR
 clear LG SG SR hS
 generalize hL : linkL us entry.toList = L at *
 have HL := zH hL
 clear hL
 go_enter Tryz.func45, Tryz.ntmps45
 go_wp2_with fail
 generalize (w.alloc (.cells #[.slice none 0 0, .slice none 0 0, .slice none 0 0] 81)).alloc (.cells #[.int .i64 0, .int .i64 0] 83) = w2 at *
 refine SA.mono ?_
 rintro e w3 ⟨ptr, rfl, k3, sr⟩
 obtain ⟨pk, ow, vp, P, rfl, e1, e2, e3, e4, e5, e6, e7, e8, e9⟩ := sr trivial
 clear sr
 have KA := zH (below_a w3 (.cells #[.int .i64 0, .int .i64 at'] 83))
 have BI3 := zH (((uI BI0).step k3).step (uI KA))
 have BF3 := zH (((uI BF0).step k3).step (uI KA))
 have BG3 := zH (Box.new w3 #[.int .i64 0, .int .i64 at'] 83)
 have LK3 : Hid (LkAt ⟨pk, ow, w2.heap.size + 3, .slice ao us.length cap, vp, O⟩ ⟨P, [], 0⟩ (.slice none 0 0) w3) := ⟨e4, e5, e6, World.ownsRow_nil _ _ _ _, e8, e9, e3⟩
 have LK4 := zH (lk_kpt (uI LK3) rfl (Kpt.of (uI KA)))
 have k2 := zH (bt k3 (uI KA))
 have b2 := (uI LK4).1.2.1 2 _ rfl
 have M4 := zH (uI LK4).2.1
 have FT : Hid (∀ k, FFoot ⟨pk, ow, w2.heap.size + 3, .slice ao us.length cap, vp, O⟩ pk pk (P.map (·.2)) (.slice none 0 0) k → w2.heap.size ≤ k ∧ k < w3.heap.size) := fun k hk => by
   refine ⟨?_, lk_lt (uI LK3) rfl hk⟩
   rcases hk with rfl | rfl | h | h | h | rfl | rfl
   · exact e1
   · exact e2
   · have := (e6.1.lt k h).1; omega
   · cases h
   · obtain ⟨p, hp, rfl⟩ := List.mem_map.1 h
     have := (e6.2 p hp).2; omega
   · exact e1
   · exact e1
 obtain ⟨sg1, sg2⟩ := (uI HSG) P e7
 have HG := zH sg1
 have HLG2 := zH ((uI HLG) P e7)
 obtain ⟨g0, g1⟩ := (uI BG3).at2
 have g2 := (uI BG3).2.2
 have s3 := k3.size
 clear k3 SA BI0 BF0 e4 e5 e6 e7 HLG HSG sg1
 have s4 : (w3.alloc (.cells #[.int .i64 0, .int .i64 at'] 83)).heap.size = w3.heap.size + 1 := by simp
 have hmz : (m : Int) < (us.length : Int) := by omega
 have WA := words_anyL ⟨pk, ow, w2.heap.size + 3, .slice ao us.length cap, vp, O⟩ (P.map (·.2)) w2 us ((uI HU).step (uI KW0)) _ (uI k2) ⟨P, [], 0⟩ (.slice none 0 0) m (uI LK4) (uI HG) rfl sg2.symm (by show m < P.length; omega) rfl (fun u hu => plcA_right ((uI HSR) u hu)) (fun k hk => ((uI FT) k hk).1)
 unfold WrdRet at WA
 have HLS := zH (uI HLG2)
 have LEN : (putL ⟨P, [], 0⟩ m).P.length = us.length := by rw [putL_len]; exact sg2
 rw [Int.toNat_natCast] at HLS
 generalize hR : wrdL us O 400 0 (putL ⟨P, [], 0⟩ m) [] = R at *
 obtain ⟨⟨zs, er, ef⟩, s5⟩ := R
 dsimp only at WA
 clear hR HL HLG2
 go_wp2_with (at_lookup; refine wpList_look_ok rfl (.tmp 30) (.tmp 31) rfl ow O rfl (uI M4) entry rfl hen ?_; rw [h3, hm2])
 generalize hw4 : w3.alloc (.cells #[.int .i64 0, .int .i64 at'] 83) = w4 at *
 refine WA.mono ?_
 rintro e w5 ⟨vr, vo5, rfl, i5, o5, l5, g5, n5, k5, f5⟩
 have nI : ¬ FFoot ⟨pk, ow, w2.heap.size + 3, .slice ao us.length cap, vp, O⟩ pk pk (P.map (·.2)) (.slice none 0 0) w.heap.size := fun h => by have := (uI FT) _ h; omega
 have nF : ¬ FFoot ⟨pk, ow, w2.heap.size + 3, .slice ao us.length cap, vp, O⟩ pk pk (P.map (·.2)) (.slice none 0 0) (w.heap.size + 1) := fun h => by have := (uI FT) _ h; omega
 have nG : ¬ FFoot ⟨pk, ow, w2.heap.size + 3, .slice ao us.length cap, vp, O⟩ pk pk (P.map (·.2)) (.slice none 0 0) w3.heap.size := fun h => by have := (uI FT) _ h; omega
 have BI5 := zH ((uI BI3).kpt k5 nI)
 have BF5 := zH ((uI BF3).kpt k5 nF)
 have BG5 := zH (((uI BG3).kpt k5 nG))
 have KW5 := zH ((bt (uI KW0) (uI k2)).trans ((k5.below (B := w2.heap.size) (by omega) (fun k hk => ((uI FT) k hk).1)).mono (by omega)))
 have nG5 : ¬ FFoot ⟨pk, ow, w2.heap.size + 3, .slice ao us.length cap, vp, O⟩ pk pk (P.map (·.2)) vo5 w3.heap.size := fun h => by
   rcases f5 _ h with h | h
   · exact nG h
   · omega
 have s5z := k5.size
 have I5 := zH i5
 have O5 := zH o5
 have L5 := zH l5
 have G5 := zH g5
 have N5 := zH n5
 have K5 := zH k5
 clear i5 o5 l5 g5 n5 f5 k5 WA g0 g1 g2 BI3 BF3 BG3 LK3 LK4 M4
 obtain ⟨g0, g1⟩ := (uI BG5).at2
 have g2 := (uI BG5).2.2
 have BG6 := zH (((uI BG5).set (j := 0) (u := .int .i64 er) (by simp)).set (j := 1) (u := .int .i64 ef) (by simp))
 have KS : Kpt (fun k => k = w3.heap.size) w5 ((w5.setCell ⟨w3.heap.size, 0, none⟩ (.int .i64 er)).setCell ⟨w3.heap.size, 1, none⟩ (.int .i64 ef)) := Kpt.set2 _ _ _ _
 have BI6 := zH ((uI BI5).kpt KS (by omega))
 have BF6 := zH ((uI BF5).kpt KS (by omega))
 have KW6 := zH ((uI KW5).trans (KS.below (by omega) (fun k hk => by omega)))
 have S6 : ((w5.setCell ⟨w3.heap.size, 0, none⟩ (.int .i64 er)).setCell ⟨w3.heap.size, 1, none⟩ (.int .i64 ef)).heap.size = w5.heap.size := by simp
 by_cases her : er = 0
 · subst her
   have hLe : L = (⟨zs, s5.order, sptL us s5.P s5.order⟩, 0, 0) := uI HLS
   have L6 := zH (lk_kpt (uI L5) (uI N5) (KS.mono (fun k hk => by rw [hk]; exact nG5)))
   have I6 : Hid (Ints _ vr zs) := zH (lies_kpt (uI I5) KS (fun b hb _ h => by have := ((uI O5) b hb).1; omega))
   obtain ⟨oo, oc, rfl⟩ := own_slice (uI L6).2.2.2.1
   obtain ⟨-, ro, rc, rfl, -⟩ := id (uI I6)
   have hul : us.length = s5.P.length := by
     have h1 := congrArg List.length (uI N5)
     simp only [List.length_map] at h1
     omega
   have KW26 := zH ((uI k2).trans (((uI K5).below (B := w2.heap.size) (by omega) (fun k hk => ((uI FT) k hk).1)).trans (KS.below (B := w2.heap.size) (by omega) (fun k hk => by omega))))
   have SP := fun U hb hl => spots_any ⟨pk, ow, w2.heap.size + 3, .slice ao us.length cap, vp, O⟩ (P.map (·.2)) w2 us ((uI HU).step (uI KW0)) U hb s5 (.slice oo s5.order.length oc) hl (uI G5) (uI N5) hul (fun u hu => plcA_right ((uI HSR) u hu))
   unfold SptRet at SP
   generalize sptL us s5.P s5.order = SL at *
   subst hLe
   go_wp2_with fail
   generalize (w5.setCell ⟨w3.heap.size, 0, none⟩ (.int .i64 0)).setCell ⟨w3.heap.size, 1, none⟩ (.int .i64 ef) = w6 at *
   clear g0 g1 g2
   obtain ⟨g0, g1⟩ := (uI BG6).at2
   go_wp2_with fail
   clear g0 g1
   have D6 : Below w6.heap.size w6 w6.drew := ⟨rfl, rfl, rfl, Nat.le_refl _, fun _ _ => rfl⟩
   have L7 := zH (lk_kpt (uI L6) (uI N5) (Kpt.of D6))
   have KW27 := zH ((uI KW26).trans (D6.mono (uI KW26).size))
   have KW7 := zH (bt (uI KW6) D6)
   have BI7 := zH ((uI BI6).step D6)
   have BF7 := zH ((uI BF6).step D6)
   have I7 := zH (Lies.step (uI I6) D6)
   have S7 : w6.drew.heap.size = w6.heap.size := rfl
   have HS7 := zH S7
   have p3 := (uI L7).1.2.1 3 _ rfl
   dsimp only at p3
   have hpk7 := (uI L7).1.1
   refine reg_start (fun W => W.cell? ⟨pk, 3, none⟩ = some (.slice oo s5.order.length oc)) (by kernel_rfl) ?_
   clear S7 D6
   generalize w6.drew = w7 at *
   refine reg_seg 0 6 5 (by kernel_rfl) (by decide) (by kernel_rfl) (by kernel_rfl) (fun _ _ _ _ _ h => h) ?_
   simp only [List.take_succ_cons, List.take_zero, List.drop_succ_cons, List.drop_zero]
   repeat (refine wpSteady_step (fun K hK => ?_); go_simp; first | (refine steady_of ?_ (fun W hW => ?_) (hK _ ?_); rotate_left; (obtain hcW := hW; go_simp; first | done | rfl); clear hK K) | (refine hK _ ?_; clear hK K))
   refine wpSteady_nil ?_
   refine reg_seg 8 1 4 (by kernel_rfl) (by decide) (by kernel_rfl) (by kernel_rfl) (fun _ _ _ _ _ h => h) ?_
   simp only [List.take_succ_cons, List.take_zero, List.drop_succ_cons, List.drop_zero]
   repeat (refine wpSteady_step (fun K hK => ?_); go_simp; first | (refine steady_of ?_ (fun W hW => ?_) (hK _ ?_); rotate_left; (obtain hcW := hW; go_simp; first | done | rfl); clear hK K) | (refine hK _ ?_; clear hK K))
   refine wpSteady_nil ?_
   refine reg_one 6 3 (by kernel_rfl) (by kernel_rfl) p3 ?_
   simp only [List.take_succ_cons, List.take_zero, List.drop_succ_cons, List.drop_zero]
   go_wp2_with fail
   refine (SP w7 (uI KW27) (uI L7)).mono ?_
   rintro e w8 ⟨v8, rfl, i8, o8, k8⟩
   have p8 := cell_keep k8 hpk7 p3
   have BI8 := zH ((uI BI7).step k8)
   have BF8 := zH ((uI BF7).step k8)
   have KW8 := zH (bt (uI KW7) k8)
   have I8 := zH (Lies.step (uI I7) k8)
   have U8 : Hid (Ints w8 (.slice oo s5.order.length oc) s5.order) := zH (Lies.step (Lies.owned (uI L7).2.2.2.1) k8)
   have SP8 := zH i8
   have s8 := k8.size
   obtain ⟨-, so, sc, rfl, -⟩ := i8
   clear k8
   obtain ⟨q0, q1, q2⟩ := (uI BI8).at3
   have q3 := (uI BI8).2.2
   go_wp2_with fail
   first | refine next_nil ?_ | refine next_go ?_
   refine reg_seg 7 1 2 (by kernel_rfl) (by decide) (by kernel_rfl) (by kernel_rfl) (fun _ _ _ _ _ h => h) ?_
   simp only [List.take_succ_cons, List.take_zero, List.drop_succ_cons, List.drop_zero]
   repeat (refine wpSteady_step (fun K hK => ?_); go_simp; first | (refine steady_of ?_ (fun W hW => ?_) (hK _ ?_); rotate_left; (obtain hcW := hW; go_simp; first | done | rfl); clear hK K) | (refine hK _ ?_; clear hK K))
   refine wpSteady_nil ?_
   refine reg_one 9 1 (by kernel_rfl) (by kernel_rfl) p8 ?_
   simp only [List.take_succ_cons, List.take_zero, List.drop_succ_cons, List.drop_zero]
   go_wp2_with fail
   first | refine next_nil ?_ | refine next_go ?_
   have KX : Kpt (fun k => k = w.heap.size) w8 (((w8.setCell ⟨w.heap.size, 0, none⟩ (.slice ro zs.length rc)).setCell ⟨w.heap.size, 1, none⟩ (.slice oo s5.order.length oc)).setCell ⟨w.heap.size, 2, none⟩ (.slice so SL.length sc)) := (Kpt.set2 _ _ _ _).trans (Kpt.setCell (X := fun k => k = w.heap.size) _ _ rfl) (fun _ h => h) (fun _ h _ => h)
   have BI9 := zH ((((uI BI8).set (j := 0) (u := .slice ro zs.length rc) (by simp)).set (j := 1) (u := .slice oo s5.order.length oc) (by simp)).set (j := 2) (u := .slice so SL.length sc) (by simp))
   have BF9 := zH ((uI BF8).kpt KX (by omega))
   have p9 : (((w8.setCell ⟨w.heap.size, 0, none⟩ (.slice ro zs.length rc)).setCell ⟨w.heap.size, 1, none⟩ (.slice oo s5.order.length oc)).setCell ⟨w.heap.size, 2, none⟩ (.slice so SL.length sc)).cell? ⟨pk, 3, none⟩ = some (.slice oo s5.order.length oc) := by rw [KX.cell (by omega) (by omega)]; exact p8
   have I9 : Hid (Ints _ (.slice ro zs.length rc) zs) := zH (lies_kpt (uI I8) KX (fun b hb _ h => by have := ((uI O5) b hb).1; omega))
   have U9 : Hid (Ints _ (.slice oo s5.order.length oc) s5.order) := zH (lies_kpt (uI U8) KX (fun b hb _ h => by
     have h1 := ((uI L7).2.2.2.1.lt b hb).1
     dsimp only at h1
     omega))
   have S9 : Hid (Spts _ (.slice so SL.length sc) SL) := zH (lies_kpt (uI SP8) KX (fun b hb _ h => by have := o8 b hb; omega))
   have KW9 := zH ((uI KW8).trans (KX.below (Nat.le_of_lt (by omega)) (fun k hk => by omega)))
   have s9 : (((w8.setCell ⟨w.heap.size, 0, none⟩ (.slice ro zs.length rc)).setCell ⟨w.heap.size, 1, none⟩ (.slice oo s5.order.length oc)).setCell ⟨w.heap.size, 2, none⟩ (.slice so SL.length sc)).heap.size = w8.heap.size := by simp
   clear KX q0 q1 q2 q3 BI8 BF8 I8 U8 SP8 KW8
   generalize ((w8.setCell ⟨w.heap.size, 0, none⟩ (.slice ro zs.length rc)).setCell ⟨w.heap.size, 1, none⟩ (.slice oo s5.order.length oc)).setCell ⟨w.heap.size, 2, none⟩ (.slice so SL.length sc) = w9 at *
   obtain ⟨f0, f1⟩ := (uI BF9).at2
   have f2 := (uI BF9).2.2
   obtain ⟨q0, q1, q2⟩ := (uI BI9).at3
   have q3 := (uI BI9).2.2
   refine reg_one 10 0 (by kernel_rfl) (by kernel_rfl) p9 ?_
   simp only [List.take_succ_cons, List.take_zero, List.drop_succ_cons, List.drop_zero]
   go_wp2_with fail
   first | refine next_nil ?_ | refine next_go ?_
   have KY : Kpt (fun k => k = w.heap.size + 1) w9 ((w9.setCell ⟨w.heap.size + 1, 0, none⟩ (.int .i64 0)).setCell ⟨w.heap.size + 1, 1, none⟩ (.int .i64 0)) := Kpt.set2 _ _ _ _
   have p10 : ((w9.setCell ⟨w.heap.size + 1, 0, none⟩ (.int .i64 0)).setCell ⟨w.heap.size + 1, 1, none⟩ (.int .i64 0)).cell? ⟨pk, 3, none⟩ = some (.slice oo s5.order.length oc) := by rw [KY.cell (by omega) (by omega)]; exact p9
   refine reg_end (by kernel_rfl) p10 ?_
   go_wp2_with fail
   refine bodyPost_ret (v := .tuple #[.agg #[.slice ro zs.length rc, .slice oo s5.order.length oc, .slice so SL.length sc], .agg #[.int .i64 0, .int .i64 0]]) (by simp [results, Tryz.results45, go_sem, f0, f1, f2, q0, q1, q2, q3]) rfl ?_
   exact ⟨_, _, _, rfl, lies_kpt (uI I9) KY (fun b hb _ h => by have := ((uI O5) b hb).1; omega), lies_kpt (uI U9) KY (fun b hb _ h => by
     have h1 := ((uI L7).2.2.2.1.lt b hb).1
     dsimp only at h1
     omega), lies_kpt (uI S9) KY (fun b hb _ h => by have := o8 b hb; omega), (uI KW9).trans (KY.below (Nat.le_of_lt (by omega)) (fun k hk => by omega)), fun k hk => by
     rcases hk with h | h | h
     · have := ((uI O5) k h).1; omega
     · have h1 := ((uI L7).2.2.2.1.lt k h).1
       dsimp only at h1
       omega
     · have := o8 k h; omega⟩
 · have hLe : L = (im0, er, ef) := by rw [uI HLS]; unfold imL; dsimp only; rw [if_neg her]
   have her2 : (er != 0) = true := by simpa using her
   subst hLe
   go_wp2_with fail
   generalize (w5.setCell ⟨w3.heap.size, 0, none⟩ (.int .i64 er)).setCell ⟨w3.heap.size, 1, none⟩ (.int .i64 ef) = w6 at *
   clear g0 g1 g2
   obtain ⟨g0, g1⟩ := (uI BG6).at2
   obtain ⟨f0, f1⟩ := (uI BF6).at2
   have f2 := (uI BF6).2.2
   obtain ⟨q0, q1, q2⟩ := (uI BI6).at3
   have q3 := (uI BI6).2.2
   go_wp2_with fail
   go_region_with fail
   all_goals
     go_wp2_with fail
     exact bodyPost_ret (v := .tuple #[.agg #[.slice none 0 0, .slice none 0 0, .slice none 0 0], .agg #[.int .i64 er, .int .i64 ef]]) (by simp [results, Tryz.results45, go_sem, f0, f1, f2, q0, q1, q2, q3]) rfl (im0_ret (Below.drew (by repeat (first | exact uI KW6 | refine Below.setCell ?_ (by first | exact Nat.le_refl _ | (simp; done) | omega | (simp; omega)) _ | refine Below.alloc ?_ (by first | (simp; done) | omega | (simp; omega)) _))) _ _)
theorem link_any2 (us : List Un) (v : Value) (entry : ByteArray) (w : World) (hU : Uns w v us) (hen : entry.size ≤ maxLen) :
   Calls Tryz.prog 45 #[v, .string entry] w fun e w' => LinkRet2 w (linkL us entry.toList) e w' := by
 by_cases hm : us.length ≤ 400
 · by_cases h2 : (srv us 0 ⟨[], []⟩).2.1 = 0
   · by_cases h3 : hasA (srv us 0 ⟨[], []⟩).1.owners entry.toList = true
     · exact link_any_go us v entry w hU hen hm h2 h3
     · exact link_any_none us v entry w hU hen hm h2 h3
   · exact link_any_bad us v entry w hU hen hm h2
 · exact link_any_many us v entry w hU hen hm
end Go.Proofs.YtlkoidkdeopgjaaGreatDoor
