/-
  LkL0.
-/
import Derived.Test.YtlkoidkdeopgjaaGreatDoorkj
set_option maxHeartbeats 4000000
set_option maxRecDepth 100000
namespace Go.Proofs.YtlkoidkdeopgjaaGreatDoor
open Go.RowKit Go.Maps
set_option linter.unusedSimpArgs false
set_option linter.unusedVariables false
def LinkRet2 (w : World) (R : Im × Int × Int) (e : Ending) (w' : World) : Prop := ∃ vw vu vs, e = .returned (.tuple #[.agg #[vw, vu, vs], .agg #[.int .i64 R.2.1, .int .i64 R.2.2]]) ∧ Ints w' vw R.1.words ∧ Ints w' vu R.1.units ∧ Spts w' vs R.1.spots ∧ Below w.heap.size w w' ∧ ∀ k, vw.ownBlock = some k ∨ vu.ownBlock = some k ∨ vs.ownBlock = some k → w.heap.size ≤ k
theorem Spts.step {w w' : World} {v : Value} {l : List (ByteArray × Int)} (h : Spts w v l) (k : Below w.heap.size w w') : Spts w' v l := Lies.step h k
theorem im0_ret {w w' : World} (h : Below w.heap.size w w') (a b : Int) : LinkRet2 w (im0, a, b) (.returned (.tuple #[.agg #[.slice none 0 0, .slice none 0 0, .slice none 0 0], .agg #[.int .i64 a, .int .i64 b]])) w' := ⟨_, _, _, rfl, Lies.nil _ _, Lies.nil _ _, Lies.nil _ _, h, fun k hk => by rcases hk with h | h | h <;> cases h⟩
theorem link_many {us : List Un} {e : List UInt8} (h : 400 < us.length) : linkL us e = (im0, 5, 0) := by unfold linkL; rw [if_neg (by omega)]
theorem link_bad {us : List Un} {e : List UInt8} (h : us.length ≤ 400) (h2 : (srv us 0 ⟨[], []⟩).2.1 ≠ 0) : linkL us e = (im0, (srv us 0 ⟨[], []⟩).2.1, ((srv us 0 ⟨[], []⟩).2.2 : Int)) := by unfold linkL; rw [if_pos h, if_neg h2]
theorem link_none {us : List Un} {e : List UInt8} (h : us.length ≤ 400) (h2 : (srv us 0 ⟨[], []⟩).2.1 = 0) (h3 : hasA (srv us 0 ⟨[], []⟩).1.owners e = false) : linkL us e = (im0, 6, (us.length : Int)) := by unfold linkL; rw [if_pos h, if_pos h2, if_neg (by simp [h3])]
theorem link_go {us : List Un} {e : List UInt8} (h : us.length ≤ 400) (h2 : (srv us 0 ⟨[], []⟩).2.1 = 0) (h3 : hasA (srv us 0 ⟨[], []⟩).1.owners e = true) {P : List (Pt × Nat)} (hP : P.map (·.1) = (srv us 0 ⟨[], []⟩).1.parts) : linkL us e = imL us (wrdL us (srv us 0 ⟨[], []⟩).1.owners 400 0 (putL ⟨P, [], 0⟩ (atA (srv us 0 ⟨[], []⟩).1.owners e).toNat) []) := by
 unfold linkL; rw [if_pos h, if_pos h2, if_pos h3, wrdS_of us _ e P hP]
theorem link_any_many (us : List Un) (v : Value) (entry : ByteArray) (w : World) (hU : Uns w v us) (hen : entry.size ≤ maxLen) (hm : ¬ us.length ≤ 400) :
   Calls Tryz.prog 45 #[v, .string entry] w fun e w' => LinkRet2 w (linkL us entry.toList) e w' := by
 have HU := zH hU
 obtain ⟨ao, cap, rfl, hmax, -⟩ := hU
 unfold maxLen at hmax
 have BI0 := zH ((Box.new w #[.slice none 0 0, .slice none 0 0, .slice none 0 0] 81).step (below_a _ (.cells #[.int .i64 0, .int .i64 0] 83)))
 have BF0 := zH (Box.new (w.alloc (.cells #[.slice none 0 0, .slice none 0 0, .slice none 0 0] 81)) #[.int .i64 0, .int .i64 0] 83)
 have KW0 := zH (bt (below_a w (.cells #[.slice none 0 0, .slice none 0 0, .slice none 0 0] 81)) (below_a _ (.cells #[.int .i64 0, .int .i64 0] 83)))
 have S0 : ((w.alloc (.cells #[.slice none 0 0, .slice none 0 0, .slice none 0 0] 81)).alloc (.cells #[.int .i64 0, .int .i64 0] 83)).heap.size = w.heap.size + 1 + 1 := by simp
 simp only [World.size_alloc] at BF0
 rw [link_many (by omega)]
 obtain ⟨f0, f1⟩ := (uI BF0).at2
 have f2 := (uI BF0).2.2
 obtain ⟨q0, q1, q2⟩ := (uI BI0).at3
 have q3 := (uI BI0).2.2
 go_enter Tryz.func45, Tryz.ntmps45
 go_wp2_with fail
 exact bodyPost_ret (v := .tuple #[.agg #[.slice none 0 0, .slice none 0 0, .slice none 0 0], .agg #[.int .i64 5, .int .i64 0]]) (by simp [results, Tryz.results45, go_sem, f0, f1, f2, q0, q1, q2, q3]) rfl (im0_ret (by repeat (first | exact Below.refl _ _ | refine Below.setCell ?_ (by first | exact Nat.le_refl _ | (simp; done) | omega | (simp; omega)) _ | refine Below.alloc ?_ (by first | (simp; done) | omega | (simp; omega)) _)) _ _)
theorem link_any_bad (us : List Un) (v : Value) (entry : ByteArray) (w : World) (hU : Uns w v us) (hen : entry.size ≤ maxLen) (hm : us.length ≤ 400) (h2 : ¬ (srv us 0 ⟨[], []⟩).2.1 = 0) :
   Calls Tryz.prog 45 #[v, .string entry] w fun e w' => LinkRet2 w (linkL us entry.toList) e w' := by
 have HU := zH hU
 obtain ⟨ao, cap, rfl, hmax, -⟩ := hU
 unfold maxLen at hmax
 have BI0 := zH ((Box.new w #[.slice none 0 0, .slice none 0 0, .slice none 0 0] 81).step (below_a _ (.cells #[.int .i64 0, .int .i64 0] 83)))
 have BF0 := zH (Box.new (w.alloc (.cells #[.slice none 0 0, .slice none 0 0, .slice none 0 0] 81)) #[.int .i64 0, .int .i64 0] 83)
 have KW0 := zH (bt (below_a w (.cells #[.slice none 0 0, .slice none 0 0, .slice none 0 0] 81)) (below_a _ (.cells #[.int .i64 0, .int .i64 0] 83)))
 have S0 : ((w.alloc (.cells #[.slice none 0 0, .slice none 0 0, .slice none 0 0] 81)).alloc (.cells #[.int .i64 0, .int .i64 0] 83)).heap.size = w.heap.size + 1 + 1 := by simp
 simp only [World.size_alloc] at BF0
 have SA := surveyed_any us (.slice ao us.length cap) _ ((uI HU).step (uI KW0)) hm
 rw [link_bad hm h2]
 generalize hS : srv us 0 ⟨[], []⟩ = S at *
 obtain ⟨sv, er, at'⟩ := S
 dsimp only at *
 have her : (er != 0) = true := by simpa using h2
 go_enter Tryz.func45, Tryz.ntmps45
 go_wp2_with fail
 generalize (w.alloc (.cells #[.slice none 0 0, .slice none 0 0, .slice none 0 0] 81)).alloc (.cells #[.int .i64 0, .int .i64 0] 83) = w2 at *
 refine SA.mono ?_
 rintro e w3 ⟨ptr, rfl, k3, -⟩
 have BI3 := zH (((uI BI0).step k3).step (below_a w3 (.cells #[.int .i64 er, .int .i64 at'] 83)))
 have BF3 := zH (((uI BF0).step k3).step (below_a w3 (.cells #[.int .i64 er, .int .i64 at'] 83)))
 have BG3 := zH (Box.new w3 #[.int .i64 er, .int .i64 at'] 83)
 have KW3 := zH (bt (bt (uI KW0) k3) (below_a w3 (.cells #[.int .i64 er, .int .i64 at'] 83)))
 have s3 := k3.size
 obtain ⟨f0, f1⟩ := (uI BF3).at2
 have f2 := (uI BF3).2.2
 obtain ⟨g0, g1⟩ := (uI BG3).at2
 obtain ⟨q0, q1, q2⟩ := (uI BI3).at3
 have q3 := (uI BI3).2.2
 clear k3 SA BI0 BF0
 go_wp2_with fail
 generalize w3.alloc (.cells #[.int .i64 er, .int .i64 at'] 83) = w4 at *
 go_region_with fail
 all_goals
   go_wp2_with fail
   exact bodyPost_ret (v := .tuple #[.agg #[.slice none 0 0, .slice none 0 0, .slice none 0 0], .agg #[.int .i64 er, .int .i64 at']]) (by simp [results, Tryz.results45, go_sem, f0, f1, f2, q0, q1, q2, q3]) rfl (im0_ret (Below.drew (by repeat (first | exact uI KW3 | refine Below.setCell ?_ (by first | exact Nat.le_refl _ | (simp; done) | omega | (simp; omega)) _ | refine Below.alloc ?_ (by first | (simp; done) | omega | (simp; omega)) _))) _ _)
theorem link_any_none (us : List Un) (v : Value) (entry : ByteArray) (w : World) (hU : Uns w v us) (hen : entry.size ≤ maxLen) (hm : us.length ≤ 400) (h2 : (srv us 0 ⟨[], []⟩).2.1 = 0) (h3 : ¬ hasA (srv us 0 ⟨[], []⟩).1.owners entry.toList = true) :
   Calls Tryz.prog 45 #[v, .string entry] w fun e w' => LinkRet2 w (linkL us entry.toList) e w' := by
 have HU := zH hU
 obtain ⟨ao, cap, rfl, hmax, -⟩ := hU
 unfold maxLen at hmax
 have BI0 := zH ((Box.new w #[.slice none 0 0, .slice none 0 0, .slice none 0 0] 81).step (below_a _ (.cells #[.int .i64 0, .int .i64 0] 83)))
 have BF0 := zH (Box.new (w.alloc (.cells #[.slice none 0 0, .slice none 0 0, .slice none 0 0] 81)) #[.int .i64 0, .int .i64 0] 83)
 have KW0 := zH (bt (below_a w (.cells #[.slice none 0 0, .slice none 0 0, .slice none 0 0] 81)) (below_a _ (.cells #[.int .i64 0, .int .i64 0] 83)))
 have S0 : ((w.alloc (.cells #[.slice none 0 0, .slice none 0 0, .slice none 0 0] 81)).alloc (.cells #[.int .i64 0, .int .i64 0] 83)).heap.size = w.heap.size + 1 + 1 := by simp
 simp only [World.size_alloc] at BF0
 have SA := surveyed_any us (.slice ao us.length cap) _ ((uI HU).step (uI KW0)) hm
 replace h3 : hasA (srv us 0 ⟨[], []⟩).1.owners entry.toList = false := by simpa using h3
 rw [link_none hm h2 h3]
 generalize hS : srv us 0 ⟨[], []⟩ = S at *
 obtain ⟨⟨pa, O⟩, er, at'⟩ := S
 unfold SrvRet at SA
 dsimp only at *
 subst h2
 go_enter Tryz.func45, Tryz.ntmps45
 go_wp2_with fail
 generalize (w.alloc (.cells #[.slice none 0 0, .slice none 0 0, .slice none 0 0] 81)).alloc (.cells #[.int .i64 0, .int .i64 0] 83) = w2 at *
 refine SA.mono ?_
 rintro e w3 ⟨ptr, rfl, k3, sr⟩
 obtain ⟨pk, ow, vp, P, rfl, e1, e2, e3, e4, e5, -⟩ := sr trivial
 clear sr
 have BI3 := zH (((uI BI0).step k3).step (below_a w3 (.cells #[.int .i64 0, .int .i64 at'] 83)))
 have BF3 := zH (((uI BF0).step k3).step (below_a w3 (.cells #[.int .i64 0, .int .i64 at'] 83)))
 have BG3 := zH (Box.new w3 #[.int .i64 0, .int .i64 at'] 83)
 have KW3 := zH (bt (bt (uI KW0) k3) (below_a w3 (.cells #[.int .i64 0, .int .i64 at'] 83)))
 have M4 := zH (e5.step (below_a w3 (.cells #[.int .i64 0, .int .i64 at'] 83)))
 have b2 := (e4.step (below_a w3 (.cells #[.int .i64 0, .int .i64 at'] 83))).2.1 2 _ rfl
 have s3 := k3.size
 obtain ⟨f0, f1⟩ := (uI BF3).at2
 have f2 := (uI BF3).2.2
 obtain ⟨g0, g1⟩ := (uI BG3).at2
 obtain ⟨q0, q1, q2⟩ := (uI BI3).at3
 have q3 := (uI BI3).2.2
 clear k3 SA BI0 BF0 e4 e5
 go_wp2_with (at_lookup; refine wpList_look_ok rfl (.tmp 30) (.tmp 31) rfl ow O rfl (uI M4) entry rfl hen ?_; rw [h3])
 exact bodyPost_ret (v := .tuple #[.agg #[.slice none 0 0, .slice none 0 0, .slice none 0 0], .agg #[.int .i64 6, .int .i64 us.length]]) (by simp [results, Tryz.results45, go_sem, f0, f1, f2, q0, q1, q2, q3]) rfl (im0_ret (by repeat (first | exact uI KW3 | refine Below.setCell ?_ (by first | exact Nat.le_refl _ | (simp; done) | omega | (simp; omega)) _ | refine Below.alloc ?_ (by first | (simp; done) | omega | (simp; omega)) _)) _ _)
end Go.Proofs.YtlkoidkdeopgjaaGreatDoor
