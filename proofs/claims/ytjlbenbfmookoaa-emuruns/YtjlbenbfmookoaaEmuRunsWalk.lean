/-
  EmuRuns, walked.
-/
import Derived.Test.YtjlbenbfmookoaaR3R
import Derived.Test.YtjlbenbfmookoaaRefT
import Derived.Test.YtjlbenbfmookoaaOpenE
namespace Go.Proofs.Ytjlbenbfmookoaa
open Go.RowKit
set_option linter.unusedSimpArgs false
set_option linter.unusedVariables false

theorem storeN (w : World) (a b : Array Value) (T : TypeId) : Below w.heap.size w ((w.alloc (.cells a T)).setRow w.heap.size b) := Below.row (below_a _ _) (Nat.le_refl _) _
theorem storeH (w : World) (a b : Array Value) (T : TypeId) : ((w.alloc (.cells a T)).setRow w.heap.size b).heap[w.heap.size]? = some (.cells b T (0, 0)) := setRow_heap _ _ _ b _ _ (heap_new w (.cells a T))
theorem row_keep {w w' : World} {b : Nat} {o : Obj} (k : Below w.heap.size w w') (h : w.heap[b]? = some o) : w'.heap[b]? = some o := by rw [k.block b (Array.getElem?_eq_some_iff.1 h).1]; exact h
set_option maxRecDepth 100000 in
set_option maxHeartbeats 4000000 in
theorem walk_emuRuns (xs : List Int) (s : St) (bs : List Int) (F : Int) (vc vm vi : Value) (w : World) (hc : Ints w vc xs) {P0 P3 : Prop} (_ : P0) (hm : Ints w vm s.mem) (hi : Byts w vi bs) (hb : ∀ x ∈ bs, 0 ≤ x ∧ x ≤ 255) (_ : P3) :
    Calls Try.prog 7 #[vc, s.val vm, vi, .int .i64 F] w fun e w' => e = .returned (.bool true) ∧ Below w.heap.size w w' := by
  have HC := hideI hc
  have HI := hideI hi
  have HM := hideI hm
  have RA := hideI (fun w hc hm hi => run_any xs s bs F vc vm vi w hc hm hi hb)
  have RB := hideI (fun w hc hm hi => run3_any xs s bs F vc vm vi w hc hm hi hb)
  have WA := hideI (fun w hm => wrongS_any s vm w hm)
  have WB := hideI (fun w hm => rwrongS_any s vm w hm)
  have SR := hideI (fun m l va vb oa ob w ha hb hc hd => sameR_yes m l va vb oa ob w ha hb hc hd)
  obtain ⟨co, ccap, rfl, _, _⟩ := hc.at
  obtain ⟨mo, mcap, rfl, _, _⟩ := hm.at
  obtain ⟨io, icap, rfl, _, _⟩ := hi.at
  clear hc hm hi hb
  generalize runA xs s bs F = A at *
  obtain ⟨ma, ea⟩ := A
  dsimp only at RA
  have ee : (ea == ea) = true := by simp
  have ww : (s.wrong == s.wrong) = true := by simp
  generalize s.wrong = er at *
  unfold St.val at *
  have K1 := hideI (below_a w (.cells (s.cells (.slice mo s.mem.length mcap)) 27))
  have S1 := hideI (heap_new w (.cells (s.cells (.slice mo s.mem.length mcap)) 27))
  generalize hSC : s.cells (.slice mo s.mem.length mcap) = SC at *
  have hsz : SC.size = 14 := by rw [← hSC]; rfl
  have HSC := hideI hSC
  clear hSC
  go_enter Try.func7, Try.ntmps7
  go_wp2_with (refine wpList_load_row rfl 27 (.tmp 5) rfl w.heap.size rfl _ _ _ _ (unhideI S1) Try.underlying27 rfl (by rw [hsz]; exact Try.sizeState3) ?_)
  generalize w.alloc (.cells SC 27) = w1 at *
  refine (unhideI RA w1 ((unhideI HC).step (unhideI K1)) ((unhideI HM).step (unhideI K1)) (Lies.step (unhideI HI) (unhideI K1))).mono ?_
  rintro e w2 ⟨vo, vmm, rfl, i2, o2, k2, _⟩
  have K2 := hideI (bt (unhideI K1) k2)
  have S2 := hideI (row_keep k2 (unhideI S1))
  have I2 := hideI i2
  have O2 := hideI o2
  obtain ⟨m2, c2, rfl, _, _⟩ := i2.at
  obtain ⟨n2, d2, rfl, _, _⟩ := o2.at
  clear i2 o2 k2 S1 K1
  unfold ranV
  have SN := hideI (storeN w2 #[.int .i64 0, .int .i64 0, .slice none 0 0, .int .i64 0, .int .i64 0, .int .i64 0, .int .i64 0, .int .i64 0, .int .i64 0, .int .i64 0, .int .i64 0, .int .i64 0, .int .i64 0, .bool false, .bool false, .bool false, .bool false, .int .i64 0, .slice none 0 0] (ranC ma (.slice n2 ma.out.length d2) (.slice m2 (memL ma.mem).length c2)) 33)
  have SH := hideI (storeH w2 #[.int .i64 0, .int .i64 0, .slice none 0 0, .int .i64 0, .int .i64 0, .int .i64 0, .int .i64 0, .int .i64 0, .int .i64 0, .int .i64 0, .int .i64 0, .int .i64 0, .int .i64 0, .bool false, .bool false, .bool false, .bool false, .int .i64 0, .slice none 0 0] (ranC ma (.slice n2 ma.out.length d2) (.slice m2 (memL ma.mem).length c2)) 33)
  have S3 := hideI (row_keep (unhideI SN) (unhideI S2))
  go_wp2_with (first | (refine wpList_store_row rfl 33 (.tmp 9) (.tmp 19) rfl w2.heap.size (ranC ma (.slice n2 ma.out.length d2) (.slice m2 (memL ma.mem).length c2)) rfl rfl 33 #[.int .i64 0, .int .i64 0, .slice none 0 0, .int .i64 0, .int .i64 0, .int .i64 0, .int .i64 0, .int .i64 0, .int .i64 0, .int .i64 0, .int .i64 0, .int .i64 0, .int .i64 0, .bool false, .bool false, .bool false, .bool false, .int .i64 0, .slice none 0 0] (heap_new _ _) Try.sizeRan rfl (ranC_one _ _ _ _ _ _ _) ?_) | (refine wpList_load_row rfl 27 (.tmp 5) rfl w.heap.size rfl _ _ _ _ (unhideI S3) Try.underlying27 rfl (by rw [hsz]; exact Try.sizeState3) ?_))
  have K3 := hideI (bt (unhideI K2) (unhideI SN))
  have I3 := hideI (Ints.step (unhideI I2) (unhideI SN))
  have O3 := hideI (Lies.step (unhideI O2) (unhideI SN))
  clear SN I2 O2 K2 S2
  generalize (w2.alloc (.cells #[.int .i64 0, .int .i64 0, .slice none 0 0, .int .i64 0, .int .i64 0, .int .i64 0, .int .i64 0, .int .i64 0, .int .i64 0, .int .i64 0, .int .i64 0, .int .i64 0, .int .i64 0, .bool false, .bool false, .bool false, .bool false, .int .i64 0, .slice none 0 0] 33)).setRow w2.heap.size (ranC ma (.slice n2 ma.out.length d2) (.slice m2 (memL ma.mem).length c2)) = w3 at *
  generalize w2.heap.size = pa at *
  refine (unhideI RB w3 ((unhideI HC).step (unhideI K3)) ((unhideI HM).step (unhideI K3)) (Lies.step (unhideI HI) (unhideI K3))).mono ?_
  intro e w4 hR
  unfold RunRet at hR
  obtain ⟨vo4, vm4, rfl, i4, o4, k4⟩ := hR
  have K4 := hideI (bt (unhideI K3) k4)
  have S4 := hideI (row_keep k4 (unhideI S3))
  have H4 := hideI (row_keep k4 (unhideI SH))
  have IA := hideI (Ints.step (unhideI I3) k4)
  have OA := hideI (Lies.step (unhideI O3) k4)
  have IB := hideI i4
  have OB := hideI o4
  obtain ⟨m4, c4, rfl, _, _⟩ := i4.at
  obtain ⟨n4, d4, rfl, _, _⟩ := o4.at
  clear i4 o4 k4 S3 K3 SH I3 O3
  unfold ranV
  have SN := hideI (storeN w4 #[.int .i64 0, .int .i64 0, .slice none 0 0, .int .i64 0, .int .i64 0, .int .i64 0, .int .i64 0, .int .i64 0, .int .i64 0, .int .i64 0, .int .i64 0, .int .i64 0, .int .i64 0, .bool false, .bool false, .bool false, .bool false, .int .i64 0, .slice none 0 0] (ranC ma (.slice n4 ma.out.length d4) (.slice m4 (memL ma.mem).length c4)) 33)
  have SH := hideI (storeH w4 #[.int .i64 0, .int .i64 0, .slice none 0 0, .int .i64 0, .int .i64 0, .int .i64 0, .int .i64 0, .int .i64 0, .int .i64 0, .int .i64 0, .int .i64 0, .int .i64 0, .int .i64 0, .bool false, .bool false, .bool false, .bool false, .int .i64 0, .slice none 0 0] (ranC ma (.slice n4 ma.out.length d4) (.slice m4 (memL ma.mem).length c4)) 33)
  go_wp2_with (refine wpList_store_row rfl 33 (.tmp 11) (.tmp 27) rfl w4.heap.size (ranC ma (.slice n4 ma.out.length d4) (.slice m4 (memL ma.mem).length c4)) rfl rfl 33 #[.int .i64 0, .int .i64 0, .slice none 0 0, .int .i64 0, .int .i64 0, .int .i64 0, .int .i64 0, .int .i64 0, .int .i64 0, .int .i64 0, .int .i64 0, .int .i64 0, .int .i64 0, .bool false, .bool false, .bool false, .bool false, .int .i64 0, .slice none 0 0] (heap_new _ _) Try.sizeRan rfl (ranC_one _ _ _ _ _ _ _) ?_)
  have K5 := hideI (bt (unhideI K4) (unhideI SN))
  have S5 := hideI (row_keep (unhideI SN) (unhideI S4))
  have H5 := hideI (row_keep (unhideI SN) (unhideI H4))
  have IA5 := hideI (Ints.step (unhideI IA) (unhideI SN))
  have OA5 := hideI (Lies.step (unhideI OA) (unhideI SN))
  have IB5 := hideI (Ints.step (unhideI IB) (unhideI SN))
  have OB5 := hideI (Lies.step (unhideI OB) (unhideI SN))
  clear SN K4 S4 H4 IA OA IB OB
  generalize (w4.alloc (.cells #[.int .i64 0, .int .i64 0, .slice none 0 0, .int .i64 0, .int .i64 0, .int .i64 0, .int .i64 0, .int .i64 0, .int .i64 0, .int .i64 0, .int .i64 0, .int .i64 0, .int .i64 0, .bool false, .bool false, .bool false, .bool false, .int .i64 0, .slice none 0 0] 33)).setRow w4.heap.size (ranC ma (.slice n4 ma.out.length d4) (.slice m4 (memL ma.mem).length c4)) = w5 at *
  generalize w4.heap.size = pb at *
  have HQ := hideI (fun (W : World) (k : Below w5.heap.size w5 W) => (show W.heap[w.heap.size]? = some (.cells SC 27 (0, 0)) ∧ W.heap[pa]? = some (.cells (ranC ma (.slice n2 ma.out.length d2) (.slice m2 (memL ma.mem).length c2)) 33 (0, 0)) ∧ W.heap[pb]? = some (.cells (ranC ma (.slice n4 ma.out.length d4) (.slice m4 (memL ma.mem).length c4)) 33 (0, 0)) from ⟨row_keep k (unhideI S5), row_keep k (unhideI H5), row_keep k (unhideI SH)⟩))
  refine reg_start (fun W => W.heap[w.heap.size]? = some (.cells SC 27 (0, 0)) ∧ W.heap[pa]? = some (.cells (ranC ma (.slice n2 ma.out.length d2) (.slice m2 (memL ma.mem).length c2)) 33 (0, 0)) ∧ W.heap[pb]? = some (.cells (ranC ma (.slice n4 ma.out.length d4) (.slice m4 (memL ma.mem).length c4)) 33 (0, 0))) (by kernel_rfl) ?_
  have T := hideI (Below.refl w5.heap.size w5).drew
  generalize w5.drew = W at *
  refine reg_seg 0 1 15 (by kernel_rfl) (by decide) (by kernel_rfl) (by kernel_rfl) (fun _ _ _ _ _ h => h) ?_
  simp only [List.take_succ_cons, List.take_zero, List.drop_succ_cons, List.drop_zero]
  refine steady_load_row rfl 27 (.tmp 5) rfl w.heap.size rfl 27 SC (0, 0) _ (fun W hW => hW.1) Try.underlying27 rfl (by rw [hsz]; exact Try.sizeState3) ?_
  refine wpSteady_nil ?_
  refine reg_seg 2 1 14 (by kernel_rfl) (by decide) (by kernel_rfl) (by kernel_rfl) (fun _ _ _ _ _ h => h) ?_
  simp only [List.take_succ_cons, List.take_zero, List.drop_succ_cons, List.drop_zero]
  refine steady_load_row rfl 27 (.tmp 5) rfl w.heap.size rfl 27 SC (0, 0) _ (fun W hW => hW.1) Try.underlying27 rfl (by rw [hsz]; exact Try.sizeState3) ?_
  refine wpSteady_nil ?_
  refine reg_one 1 13 (by kernel_rfl) (by kernel_rfl) (unhideI HQ W (unhideI T)) ?_
  simp only [List.take_succ_cons, List.take_zero, List.drop_succ_cons, List.drop_zero]
  go_wp2_with fail
  refine (unhideI WA W ((unhideI HM).step (bt (unhideI K5) (unhideI T)))).mono ?_
  rintro e wn ⟨rfl, hwn⟩
  have T2 := hideI (bt (unhideI T) (show Below W.heap.size W wn by rw [hwn]; exact below_a _ _))
  clear hwn T
  go_wp2_with fail
  first | refine next_nil ?_ | refine next_go ?_
  refine reg_one 3 12 (by kernel_rfl) (by kernel_rfl) (unhideI HQ wn (unhideI T2)) ?_
  simp only [List.take_succ_cons, List.take_zero, List.drop_succ_cons, List.drop_zero]
  go_wp2_with fail
  refine (unhideI WB wn ((unhideI HM).step (bt (unhideI K5) (unhideI T2)))).mono ?_
  rintro e wm ⟨rfl, km⟩
  have T3 := hideI (bt (unhideI T2) km)
  clear km T2
  go_wp2_with fail
  first | refine next_nil ?_ | refine next_go ?_
  refine reg_seg 4 2 10 (by kernel_rfl) (by decide) (by kernel_rfl) (by kernel_rfl) (fun _ _ _ _ _ h => h) ?_
  simp only [List.take_succ_cons, List.take_zero, List.drop_succ_cons, List.drop_zero]
  repeat (refine wpSteady_step (fun K hK => ?_); go_simp; first | (refine steady_of ?_ (fun W hW => ?_) (hK _ ?_); rotate_left; (obtain ⟨hr1, hr2, hr3⟩ := hW; go_simp; first | done | rfl); clear hK K) | (refine hK _ ?_; clear hK K))
  refine wpSteady_nil ?_
  refine reg_seg 6 5 5 (by kernel_rfl) (by decide) (by kernel_rfl) (by kernel_rfl) (fun _ _ _ _ _ h => h) ?_
  simp only [List.take_succ_cons, List.take_zero, List.drop_succ_cons, List.drop_zero]
  repeat (refine wpSteady_step (fun K hK => ?_); go_simp; first | (refine steady_of ?_ (fun W hW => ?_) (hK _ ?_); rotate_left; (obtain ⟨hr1, hr2, hr3⟩ := hW; go_simp; first | done | rfl); clear hK K) | (refine hK _ ?_; clear hK K))
  refine wpSteady_nil ?_
  refine reg_seg 11 2 3 (by kernel_rfl) (by decide) (by kernel_rfl) (by kernel_rfl) (fun _ _ _ _ _ h => h) ?_
  simp only [List.take_succ_cons, List.take_zero, List.drop_succ_cons, List.drop_zero]
  refine steady_load_row rfl 33 (.tmp 9) rfl pa rfl 33 (ranC ma (.slice n2 ma.out.length d2) (.slice m2 (memL ma.mem).length c2)) (0, 0) _ (fun W hW => hW.2.1) Try.underlying33 rfl Try.sizeRan ?_
  refine steady_load_row rfl 33 (.tmp 11) rfl pb rfl 33 (ranC ma (.slice n4 ma.out.length d4) (.slice m4 (memL ma.mem).length c4)) (0, 0) _ (fun W hW => hW.2.2) Try.underlying33 rfl Try.sizeRan ?_
  refine wpSteady_nil ?_
  refine reg_one 13 2 (by kernel_rfl) (by kernel_rfl) (unhideI HQ wm (unhideI T3)) ?_
  simp only [List.take_succ_cons, List.take_zero, List.drop_succ_cons, List.drop_zero]
  go_wp2_with fail
  refine (unhideI SR ma (memL ma.mem) _ _ _ _ wm (Ints.step (unhideI IA5) (unhideI T3)) (Ints.step (unhideI IB5) (unhideI T3)) (Lies.step (unhideI OA5) (unhideI T3)) (Lies.step (unhideI OB5) (unhideI T3))).mono ?_
  rintro e wk ⟨rfl, kk⟩
  have T4 := hideI (bt (unhideI T3) kk)
  clear kk T3
  go_wp2_with fail
  first | refine next_nil ?_ | refine next_go ?_
  refine reg_seg 14 2 0 (by kernel_rfl) (by decide) (by kernel_rfl) (by kernel_rfl) (fun _ _ _ _ _ h => h) ?_
  simp only [List.take_succ_cons, List.take_zero, List.drop_succ_cons, List.drop_zero]
  repeat (refine wpSteady_step (fun K hK => ?_); go_simp; first | (refine steady_of ?_ (fun W hW => ?_) (hK _ ?_); rotate_left; (obtain ⟨hr1, hr2, hr3⟩ := hW; go_simp; first | done | rfl); clear hK K) | (refine hK _ ?_; clear hK K))
  refine wpSteady_nil ?_
  refine reg_end (by kernel_rfl) (unhideI HQ wk (unhideI T4)) ?_
  go_wp2_with fail
  go_ret
  exact ⟨rfl, bt (unhideI K5) (unhideI T4)⟩
end Go.Proofs.Ytjlbenbfmookoaa
