/-
  pairlegallaw3.alive: three instructions run.
-/
import Derived.Test.YtjlbenbfmookoaaEmuR
import Derived.Test.YtjlbenbfmookoaaInsE2
namespace Go.Proofs.Ytjlbenbfmookoaa
open Go.RowKit
set_option linter.unusedSimpArgs false
set_option linter.unusedVariables false

def three3 : List Ins := [⟨2, 1, 0, 65⟩, ⟨30, 0, 1, 0⟩, ⟨0, 0, 0, 0⟩]
theorem three_enc : encA three3 = ([2176, 65, 30736, 0], 0, 0) := by decide
def zeroSt : St := { r := fun _ => 0, c := false, z := false, n := false, v := false, pc := 0, mem := [] }
theorem three_run : (runA [2176, 65, 30736, 0] zeroSt [] 10).2 = 0 ∧ (runA [2176, 65, 30736, 0] zeroSt [] 10).1.how = 1 ∧ (runA [2176, 65, 30736, 0] zeroSt [] 10).1.took = 3 ∧ (runA [2176, 65, 30736, 0] zeroSt [] 10).1.out = [65] := by
  refine ⟨?_, ?_, ?_, ?_⟩ <;> kernel_rfl
/-- A block made, and at once stored into. -/
theorem store_new (w : World) (a b : Array Value) (T : TypeId) : Box ((w.alloc (.cells a T)).setRow w.heap.size b) w.heap.size b.toList ∧ Below w.heap.size w ((w.alloc (.cells a T)).setRow w.heap.size b) :=
  ⟨Box.heap (setRow_heap _ _ _ b _ _ (heap_new w (.cells a T))), Below.row (below_a _ _) (Nat.le_refl _) _⟩

theorem store_heap (w : World) (a b : Array Value) (T : TypeId) : ((w.alloc (.cells a T)).setRow w.heap.size b).heap[w.heap.size]? = some (.cells b T (0, 0)) := setRow_heap _ _ _ b _ _ (heap_new w (.cells a T))
theorem byts_one {w : World} {oo : Option Addr} {n cap : Nat} {x : Int} {l : List Int} (h : Byts w (.slice oo n cap) l) (hl : l = [x]) : n = 1 ∧ ∃ b off, oo = some ⟨b, off, none⟩ ∧ w.cell? ⟨b, off, none⟩ = some (.int .u8 x) := by
  subst hl
  obtain ⟨ao, c, e, _, hat⟩ := h.at
  obtain ⟨b, off, rfl, _, hc⟩ := hat (by simp)
  have e2 := hc 0 (by simp)
  simp at e e2
  exact ⟨e.2.1, b, off, e.1, e2⟩
set_option maxRecDepth 100000 in
set_option maxHeartbeats 1000000 in
theorem alive3 (w : World) : Calls Try.prog 25 #[] w fun e w' => e = .returned (.bool true) ∧ Below w.heap.size w w' := by
  have E := fun v w h => encode_any three3 v w h
  rw [three_enc] at E
  have R := hideI (fun vc vm vi w hc hm hi => run_any [2176, 65, 30736, 0] zeroSt [] 10 vc vm vi w hc hm hi (by simp))
  obtain ⟨q0, q1, q2, q3⟩ := three_run
  generalize runA [2176, 65, 30736, 0] zeroSt [] 10 = RR at *
  obtain ⟨mm, er⟩ := RR
  dsimp only at q0 q1 q2 q3 R
  subst q0
  have Q := hideI (And.intro q1 (And.intro q2 q3))
  clear q1 q2 q3
  go_enter Try.func25, Try.ntmps25
  go_wp2_with fail
  refine (E _ _ ?h).mono ?_
  case h =>
    refine ⟨rfl, _, 3, rfl, Nat.le_refl _, by decide, (fun h => by cases h), fun _ => ⟨w.heap.size, 0, rfl, by simp, fun j hj => ?_⟩⟩
    have hj' : j = 0 ∨ j = 1 ∨ j = 2 ∨ j = 3 ∨ j = 4 ∨ j = 5 ∨ j = 6 ∨ j = 7 ∨ j = 8 ∨ j = 9 ∨ j = 10 ∨ j = 11 := by simp [three3] at hj; omega
    rcases hj' with rfl | rfl | rfl | rfl | rfl | rfl | rfl | rfl | rfl | rfl | rfl | rfl <;> simp [go_sem, cells4, three3]
  rintro e w1 ⟨v1, rfl, i1, _, k1⟩
  have I1 := hideI i1
  obtain ⟨ao, cap, rfl, _, _⟩ := i1.at
  clear i1
  have K1 := hideI (bt (bt (below_a _ _) k1) (below_a w1 (.cells #[.int .i64 0, .int .i64 0] 74)))
  have l1 := (bt (below_a _ _) k1).size
  clear k1
  go_wp2_with fail
  refine (unhideI R _ (.slice none 0 0) _ _ ((unhideI I1).step (below_a _ _)) (Lies.nil _ _) (Lies.nil _ _)).mono ?_
  rintro e w2 ⟨vo, vm, rfl, i2, o2, k2, _⟩
  have KF := (Box.new w1 #[.int .i64 0, .int .i64 0] 74).step k2
  have KK := hideI (bt (unhideI K1) k2)
  have l2 := k2.size
  rw [World.size_alloc] at l2
  obtain ⟨mo, mcap, rfl, _, _⟩ := i2.at
  have O2 := hideI o2
  obtain ⟨oo, ocap, rfl, _, _⟩ := o2.at
  clear i2 o2 k2 R E I1
  unfold ranV
  go_wp2_with ((refine wpList_store_row rfl 33 (.tmp 3) (.tmp 17) rfl w2.heap.size (ranC mm (.slice oo mm.out.length ocap) (.slice mo (memL mm.mem).length mcap)) rfl rfl 33 #[.int .i64 0, .int .i64 0, .slice none 0 0, .int .i64 0, .int .i64 0, .int .i64 0, .int .i64 0, .int .i64 0, .int .i64 0, .int .i64 0, .int .i64 0, .int .i64 0, .int .i64 0, .bool false, .bool false, .bool false, .bool false, .int .i64 0, .slice none 0 0] (heap_new _ _) Try.sizeRan rfl (ranC_one _ _ _ _ _ _ _) ?_; have SN := store_new w2 #[.int .i64 0, .int .i64 0, .slice none 0 0, .int .i64 0, .int .i64 0, .int .i64 0, .int .i64 0, .int .i64 0, .int .i64 0, .int .i64 0, .int .i64 0, .int .i64 0, .int .i64 0, .bool false, .bool false, .bool false, .bool false, .int .i64 0, .slice none 0 0] (ranC mm (.slice oo mm.out.length ocap) (.slice mo (memL mm.mem).length mcap)) 33; generalize (w2.alloc (.cells #[.int .i64 0, .int .i64 0, .slice none 0 0, .int .i64 0, .int .i64 0, .int .i64 0, .int .i64 0, .int .i64 0, .int .i64 0, .int .i64 0, .int .i64 0, .int .i64 0, .int .i64 0, .bool false, .bool false, .bool false, .bool false, .int .i64 0, .slice none 0 0] 33)).setRow w2.heap.size (ranC mm (.slice oo mm.out.length ocap) (.slice mo (memL mm.mem).length mcap)) = w3 at *; obtain ⟨PD, k3⟩ := SN; have K3 := hideI (bt (unhideI KK) k3); have p0 := PD.2.1 0 _ rfl; have p2 := PD.2.1 2 _ rfl; have p4 := PD.2.1 4 _ rfl; rw [(unhideI Q).1] at p0; rw [(unhideI Q).2.1] at p4; obtain ⟨f0, f1⟩ := (KF.step k3).at2; have O3 : Byts w3 (.slice oo mm.out.length ocap) mm.out := Lies.step (unhideI O2) k3; obtain ⟨hn, b, off, hoo, c65⟩ := byts_one O3 (unhideI Q).2.2; rw [hn, hoo] at p2; clear PD k3 KF O3))
  go_ret
  exact ⟨rfl, unhideI K3⟩
end Go.Proofs.Ytjlbenbfmookoaa
