/-
  pairlegallaw16.alive: two instructions run, and are seen.
-/
import Derived.Test.YtjlbenbfmookoaaPrTa
namespace Go.Proofs.Ytjlbenbfmookoaa
open Go.RowKit
set_option linter.unusedSimpArgs false
set_option linter.unusedVariables false

def two16 : List Ins := [⟨2, 1, 0, 5⟩, ⟨0, 0, 0, 0⟩]
theorem two_enc : encA two16 = ([2176, 5, 0], 0, 0) := by decide
theorem two_run : (runW [2176, 5, 0] zeroSt [] 10 (fun _ => false) (tkT 10) []).1.2 = 0 ∧ (runW [2176, 5, 0] zeroSt [] 10 (fun _ => false) (tkT 10) []).1.1.how = 1 ∧ (runW [2176, 5, 0] zeroSt [] 10 (fun _ => false) (tkT 10) []).2.length = 2 ∧ ((runW [2176, 5, 0] zeroSt [] 10 (fun _ => false) (tkT 10) []).2.map (fun x => x.r 1))[0]? = some 5 ∧ ((runW [2176, 5, 0] zeroSt [] 10 (fun _ => false) (tkT 10) []).2.map (fun x => x.a))[1]? = some 2 := by
  refine ⟨?_, ?_, ?_, ?_, ?_⟩ <;> kernel_rfl
theorem two_of {L : List Sht} (h1 : L.length = 2) (h2 : (L.map (fun x => x.r 1))[0]? = some 5) (h3 : (L.map (fun x => x.a))[1]? = some 2) : (L.flatMap shC)[6]? = some (.int .i64 5) ∧ (L.flatMap shC)[17]? = some (.int .i64 2) := by
  match L, h1 with
  | [x, y], _ =>
    simp at h2 h3
    refine ⟨?_, ?_⟩
    · show some (Value.int .i64 (x.r 1)) = _; rw [h2]
    · show some (Value.int .i64 y.a) = _; rw [h3]
set_option maxRecDepth 100000 in
set_option maxHeartbeats 2000000 in
theorem alive16 (w : World) : Calls Try.prog 17 #[] w fun e w' => e = .returned (.bool true) ∧ Below w.heap.size w w' := by
  have E := fun v w h => encode_any two16 v w h
  rw [two_enc] at E
  have R := hideI (fun vc vm vi w hc hm hi => trace_any [2176, 5, 0] zeroSt [] 10 10 vc vm vi w hc hm hi (by simp))
  rw [show (10 : Int).toNat = 10 from rfl] at R
  obtain ⟨q0, q1, q2, q3, q4⟩ := two_run
  generalize runW [2176, 5, 0] zeroSt [] 10 (fun _ => false) (tkT 10) [] = RR at *
  obtain ⟨⟨mm, er⟩, L⟩ := RR
  dsimp only at q0 q1 q2 q3 q4 R
  subst q0
  have Q := hideI (And.intro q1 (And.intro q2 (two_of q2 q3 q4)))
  clear q1 q2 q3 q4
  go_enter Try.func17, Try.ntmps17
  go_wp2_with fail
  refine (E _ _ ?h).mono ?_
  case h =>
    refine ⟨rfl, _, 2, rfl, Nat.le_refl _, by decide, (fun h => by cases h), fun _ => ⟨w.heap.size, 0, rfl, by simp, fun j hj => ?_⟩⟩
    have hj' : j = 0 ∨ j = 1 ∨ j = 2 ∨ j = 3 ∨ j = 4 ∨ j = 5 ∨ j = 6 ∨ j = 7 := by simp [two16] at hj; omega
    rcases hj' with rfl | rfl | rfl | rfl | rfl | rfl | rfl | rfl <;> simp [go_sem, cells4, two16]
  rintro e w1 ⟨v1, rfl, i1, _, k1⟩
  have I1 := hideI i1
  obtain ⟨ao, cap, rfl, _, _⟩ := i1.at
  clear i1
  have K1 := hideI (bt (bt (below_a _ _) k1) (below_a w1 (.cells #[.int .i64 0, .int .i64 0] 74)))
  have l1 := (bt (below_a _ _) k1).size
  clear k1
  go_wp2_with fail
  refine (unhideI R _ (.slice none 0 0) _ _ ((unhideI I1).step (below_a _ _)) (Lies.nil _ _) (Lies.nil _ _)).mono ?_
  rintro e w2 ⟨k2, -, h2⟩
  obtain ⟨v2, vo, vm, rfl, s2, i2, o2, -, -⟩ := h2 ⟨by decide, by decide⟩
  have KF := (Box.new w1 #[.int .i64 0, .int .i64 0] 74).step k2
  have KK := hideI (bt (unhideI K1) k2)
  have l2 := k2.size
  rw [World.size_alloc] at l2
  obtain ⟨mo, mcap, rfl, _, _⟩ := i2.at
  obtain ⟨oo, ocap, rfl, _, _⟩ := o2.at
  obtain ⟨q1, q2, q3, q4⟩ := unhideI Q
  dsimp only at s2
  obtain ⟨-, so, scap, rfl, -, -, -, sat⟩ := s2
  obtain ⟨sb, soff, rfl, hsb, hsc⟩ := sat (by omega)
  have t6 := (hsc 6 (by omega)).trans q3
  have t17 := (hsc 17 (by omega)).trans q4
  clear i2 o2 k2 R E I1 Q q3 q4 h2 hsc sat
  have hd1 : decide ((1 : Int) < 2) = true := by decide
  rw [q2]
  unfold ranV
  go_wp2_with (refine wpList_store_row rfl 33 (.tmp 4) (.tmp 18) rfl w2.heap.size (ranC mm (.slice oo mm.out.length ocap) (.slice mo (memL mm.mem).length mcap)) rfl rfl 33 #[.int .i64 0, .int .i64 0, .slice none 0 0, .int .i64 0, .int .i64 0, .int .i64 0, .int .i64 0, .int .i64 0, .int .i64 0, .int .i64 0, .int .i64 0, .int .i64 0, .int .i64 0, .bool false, .bool false, .bool false, .bool false, .int .i64 0, .slice none 0 0] (heap_new _ _) Try.sizeRan rfl (ranC_one _ _ _ _ _ _ _) ?_; have SN := hideI (store_new w2 #[.int .i64 0, .int .i64 0, .slice none 0 0, .int .i64 0, .int .i64 0, .int .i64 0, .int .i64 0, .int .i64 0, .int .i64 0, .int .i64 0, .int .i64 0, .int .i64 0, .int .i64 0, .bool false, .bool false, .bool false, .bool false, .int .i64 0, .slice none 0 0] (ranC mm (.slice oo mm.out.length ocap) (.slice mo (memL mm.mem).length mcap)) 33); have SH := hideI (store_heap w2 #[.int .i64 0, .int .i64 0, .slice none 0 0, .int .i64 0, .int .i64 0, .int .i64 0, .int .i64 0, .int .i64 0, .int .i64 0, .int .i64 0, .int .i64 0, .int .i64 0, .int .i64 0, .bool false, .bool false, .bool false, .bool false, .int .i64 0, .slice none 0 0] (ranC mm (.slice oo mm.out.length ocap) (.slice mo (memL mm.mem).length mcap)) 33); generalize (w2.alloc (.cells #[.int .i64 0, .int .i64 0, .slice none 0 0, .int .i64 0, .int .i64 0, .int .i64 0, .int .i64 0, .int .i64 0, .int .i64 0, .int .i64 0, .int .i64 0, .int .i64 0, .int .i64 0, .bool false, .bool false, .bool false, .bool false, .int .i64 0, .slice none 0 0] 33)).setRow w2.heap.size (ranC mm (.slice oo mm.out.length ocap) (.slice mo (memL mm.mem).length mcap)) = w3 at *; have p0 := (unhideI SN).1.2.1 0 _ rfl; rw [q1] at p0; obtain ⟨f0, f1⟩ := (KF.step (unhideI SN).2).at2; have u6 := cell_keep (unhideI SN).2 hsb t6; have u17 := cell_keep (unhideI SN).2 hsb t17)
  go_ret
  exact ⟨rfl, bt (unhideI KK) (unhideI SN).2⟩
end Go.Proofs.Ytjlbenbfmookoaa
