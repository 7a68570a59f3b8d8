/-
  probe.Until, whole.
-/
import Derived.Test.YtjlbenbfmookoaaEmuR
import Derived.Test.YtjlbenbfmookoaaPrU
import Derived.Test.YtjlbenbfmookoaaPrHa
namespace Go.Proofs.Ytjlbenbfmookoaa
open Go.RowKit
set_option linter.unusedSimpArgs false
set_option linter.unusedVariables false

/-- What Until answers. -/
def URet (w : World) (bs : List Int) (R : Ma × Int) (e : Ending) (w' : World) : Prop :=
  ∃ vo vm', e = .returned (.tuple #[ranV R.1 vo vm', .int .i64 R.2]) ∧ Ints w' vm' (memL R.1.mem) ∧ Byts w' vo R.1.out ∧ Below w.heap.size w w' ∧ (R.2 = 0 → R.1.Fine bs) ∧ (∀ k, vo.ownBlock = some k → w.heap.size ≤ k) ∧ (∀ k, vm'.ownBlock = some k → w.heap.size ≤ k)

set_option maxRecDepth 100000 in
set_option maxHeartbeats 2000000 in
theorem until_any (xs : List Int) (s : St) (bs : List Int) (F : Int) (pl : List Int) (vc vm vi vp : Value) (w : World) (hc : Ints w vc xs) (hm : Ints w vm s.mem) (hi : Byts w vi bs) (hp : Ints w vp pl) (hb : ∀ x ∈ bs, 0 ≤ x ∧ x ≤ 255) :
    Calls Try.prog 11 #[vc, s.val vm, vi, .int .i64 F, vp] w fun e w' => URet w bs (runW xs s bs F (isAt pl) (fun s _ _ => s) ()).1 e w' := by
  generalize hRR : runW xs s bs F (isAt pl) (fun s _ _ => s) () = RW
  have HRR := hideI hRR
  clear hRR
  obtain ⟨⟨m, er⟩, u9⟩ := RW
  have HC := hideI hc
  have HI := hideI hi
  have HM := hideI hm
  have HB := hideI hb
  have hcl := hideI (Lies.blkLt hc)
  have hil := hideI (Lies.blkLt hi)
  obtain ⟨mo, mcap, rfl, hmm, _⟩ := hm.at
  have K2 := hideI (bt (below_a w (.cells (s.cells (.slice mo s.mem.length mcap)) 27)) (below_a _ (.cells ran0 33)))
  have HP := hideI (marked_any pl vp ((w.alloc (.cells (s.cells (.slice mo s.mem.length mcap)) 27)).alloc (.cells ran0 33)) (hp.step (unhideI K2)))
  have G2 : Hid (((w.alloc (.cells (s.cells (.slice mo s.mem.length mcap)) 27)).alloc (.cells ran0 33)).heap[w.heap.size + 1]? = some (.cells ran0 33 (0, 0))) := by
    have h := heap_new (w.alloc (.cells (s.cells (.slice mo s.mem.length mcap)) 27)) (.cells ran0 33)
    rw [World.size_alloc] at h
    exact h
  have S2 : Hid (Box ((w.alloc (.cells (s.cells (.slice mo s.mem.length mcap)) 27)).alloc (.cells ran0 33)) w.heap.size (s.cells (.slice mo s.mem.length mcap)).toList) := (Box.new w _ 27).step (below_a _ _)
  have z2 : Hid (((w.alloc (.cells (s.cells (.slice mo s.mem.length mcap)) 27)).alloc (.cells ran0 33)).heap.size = w.heap.size + 1 + 1) := by unfold Hid; rw [World.size_alloc, World.size_alloc]
  clear hc hm hi hb hp
  unfold St.val St.cells at *
  unfold ran0 at *
  generalize hW2 : (w.alloc (.cells #[.int .i64 (s.r 0), .int .i64 (s.r 1), .int .i64 (s.r 2), .int .i64 (s.r 3), .int .i64 (s.r 4), .int .i64 (s.r 5), .int .i64 (s.r 6), .int .i64 (s.r 7), .bool s.c, .bool s.z, .bool s.n, .bool s.v, .int .i64 s.pc, .slice mo s.mem.length mcap] 27)).alloc (.cells #[.int .i64 0, .int .i64 0, .slice none 0 0, .int .i64 0, .int .i64 0, .int .i64 0, .int .i64 0, .int .i64 0, .int .i64 0, .int .i64 0, .int .i64 0, .int .i64 0, .int .i64 0, .bool false, .bool false, .bool false, .bool false, .int .i64 0, .slice none 0 0] 33) = w2 at *
  go_enter Try.func11, Try.ntmps11
  go_wp2_with fail
  refine (unhideI HP).mono ?_
  rintro e w3 ⟨rb, rfl, r3, l3, k3⟩
  have hz2 := unhideI z2
  have K4 := hideI ((unhideI K2).trans ((bt k3 (below_a w3 (.cells #[.slice (some ⟨rb, 0, none⟩) 65536 65536] 65))).mono (unhideI K2).size))
  have I4 : Hid (InvU w3.heap.size rb pl (w3.alloc (.cells #[.slice (some ⟨rb, 0, none⟩) 65536 65536] 65))) := ⟨Box.new w3 #[.slice (some ⟨rb, 0, none⟩) 65536 65536] 65, r3.alloc _⟩
  have G4 := hideI (((bt k3 (below_a w3 (.cells #[.slice (some ⟨rb, 0, none⟩) 65536 65536] 65))).block (w.heap.size + 1) (by omega)).trans (unhideI G2))
  have S4 := (unhideI S2).step (bt k3 (below_a w3 (.cells #[.slice (some ⟨rb, 0, none⟩) 65536 65536] 65)))
  have l4 : Hid (w.heap.size + 1 < rb ∧ w.heap.size + 1 < w3.heap.size) := ⟨by omega, by have := k3.size; omega⟩
  have hw4 : w.heap.size + 1 < (w3.alloc (.cells #[.slice (some ⟨rb, 0, none⟩) 65536 65536] 65)).heap.size := by rw [World.size_alloc]; have := (unhideI l4).2; omega
  have x0 := S4.2.1 0 _ rfl
  have x1 := S4.2.1 1 _ rfl
  have x2 := S4.2.1 2 _ rfl
  have x3 := S4.2.1 3 _ rfl
  have x4 := S4.2.1 4 _ rfl
  have x5 := S4.2.1 5 _ rfl
  have x6 := S4.2.1 6 _ rfl
  have x7 := S4.2.1 7 _ rfl
  have x8 := S4.2.1 8 _ rfl
  have x9 := S4.2.1 9 _ rfl
  have x10 := S4.2.1 10 _ rfl
  have x11 := S4.2.1 11 _ rfl
  have x12 := S4.2.1 12 _ rfl
  have x13 := S4.2.1 13 _ rfl
  clear r3 k3 HP G2 S2 K2 hW2 hz2 S4
  generalize hW4 : w3.alloc (.cells #[.slice (some ⟨rb, 0, none⟩) 65536 65536] 65) = w4 at *
  have KW := hideI (watched_any (g0 := ()) (looks_until w3.heap.size rb pl) xs s bs F vc (.slice mo s.mem.length mcap) vi w4 ((unhideI HC).step (unhideI K4)) ((unhideI HM).step (unhideI K4)) (Lies.step (unhideI HI) (unhideI K4)) (unhideI HB) () (unhideI I4)
    (fun c hn hc hf => by have := unhideI hcl hn c hc; have := unhideI l4; rcases hf with rfl | rfl <;> omega) (fun c hn hc hf => by have := unhideI hil hn c hc; have := unhideI l4; rcases hf with rfl | rfl <;> omega))
  clear HC HI HM HB hcl hil I4
  rw [unhideI HRR] at KW
  clear HRR
  go_wp2_with fail
  refine (unhideI KW).mono ?_
  rintro e w5 ⟨vo, vm5, rfl, i5, o5, k5, f5, n6, n5, g9, -, -⟩
  dsimp only at *
  have hl4 := unhideI l4
  have g5 := hideI ((k5.block (w.heap.size + 1) hw4 (fun h => by rcases h with h | h <;> omega)).trans (unhideI G4))
  have KK : Hid (Below w.heap.size w w5) := (unhideI K4).trans (k5.below (unhideI K4).size fun k hk => by rcases hk with rfl | rfl <;> omega)
  obtain ⟨a5, c5, rfl, _, _⟩ := i5.at
  obtain ⟨b5, d5, rfl, _, _⟩ := o5.at
  have I5 := hideI i5
  have O5 := hideI o5
  have F5 : Hid (∀ k, (Value.slice a5 (memL m.mem).length c5).ownBlock = some k → k ≠ w.heap.size + 1) := fun k hk => by have := n5 k hk; omega
  have E5 : Hid (∀ k, (Value.slice b5 m.out.length d5).ownBlock = some k → k ≠ w.heap.size + 1) := fun k hk => by have := n6 k hk; omega
  have F6 : Hid (∀ k, (Value.slice a5 (memL m.mem).length c5).ownBlock = some k → w.heap.size ≤ k) := fun k hk => by have := n5 k hk; omega
  have E6 : Hid (∀ k, (Value.slice b5 m.out.length d5).ownBlock = some k → w.heap.size ≤ k) := fun k hk => by have := n6 k hk; omega
  have FI := hideI f5
  clear n5 n6 i5 o5 k5 f5 hl4 l4 KW K4
  generalize hL : memL m.mem = L5 at *
  unfold ranV
  go_wp2_with (refine wpList_store_row rfl 33 (.tmp 10) (.tmp 24) rfl (w.heap.size + 1) (ranC m (.slice b5 m.out.length d5) (.slice a5 L5.length c5)) rfl rfl 33 #[.int .i64 0, .int .i64 0, .slice none 0 0, .int .i64 0, .int .i64 0, .int .i64 0, .int .i64 0, .int .i64 0, .int .i64 0, .int .i64 0, .int .i64 0, .int .i64 0, .int .i64 0, .bool false, .bool false, .bool false, .bool false, .int .i64 0, .slice none 0 0] (unhideI g5) Try.sizeRan rfl (ranC_one _ _ _ _ _ _ _) ?_; have HG := hideI (setRow_heap _ (w.heap.size + 1) _ (ranC m (.slice b5 m.out.length d5) (.slice a5 L5.length c5)) _ _ (unhideI g5)); have HK := hideI (Below.row (unhideI KK) (by omega : w.heap.size ≤ w.heap.size + 1) (ranC m (.slice b5 m.out.length d5) (.slice a5 L5.length c5))); have I6 := hideI (Lies.blk (w' := w5.setRow (w.heap.size + 1) (ranC m (.slice b5 m.out.length d5) (.slice a5 L5.length c5))) (unhideI I5) (by rw [size_setRow]; exact Nat.le_refl _) fun k hk => setRow_other _ _ _ _ (unhideI F5 k hk)); have O6 := hideI (Lies.blk (w' := w5.setRow (w.heap.size + 1) (ranC m (.slice b5 m.out.length d5) (.slice a5 L5.length c5))) (unhideI O5) (by rw [size_setRow]; exact Nat.le_refl _) fun k hk => setRow_other _ _ _ _ (unhideI E5 k hk)))
  exact bodyPost_ret (results_row_tmp Try.results11 _ _ (w.heap.size + 1) 33 (ranC m (.slice b5 m.out.length d5) (.slice a5 L5.length c5)) (0, 0) _ _ rfl rfl (unhideI HG) Try.underlying33 rfl Try.sizeRan) rfl
    ⟨.slice b5 m.out.length d5, .slice a5 L5.length c5, rfl, by show Ints _ _ (memL m.mem); rw [hL]; exact unhideI I6, unhideI O6, unhideI HK, unhideI FI, unhideI E6, unhideI F6⟩
end Go.Proofs.Ytjlbenbfmookoaa
