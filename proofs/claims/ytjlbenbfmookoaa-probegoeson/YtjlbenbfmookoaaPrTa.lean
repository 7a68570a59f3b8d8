/-
  probe.Trace, whole.
-/
import Derived.Test.YtjlbenbfmookoaaEmuR
import Derived.Test.YtjlbenbfmookoaaPrT
import Derived.Test.YtjlbenbfmookoaaPrHa
namespace Go.Proofs.Ytjlbenbfmookoaa
open Go.RowKit
set_option linter.unusedSimpArgs false
set_option linter.unusedVariables false

theorem looks_trace (b bm mo : Nat) (hmo : mo ≤ 10000) : Looks (σ := List Sht) (γ := Value) (fun l v w => InvT b bm mo l v w) (fun v => FootT b bm v) (fun _ => false) (tkT mo) .nilFunc (.func (.func 26) #[] #[.pointer (some ⟨b, 0, none⟩), .pointer (some ⟨bm, 0, none⟩)]) where
  lt := fun _ _ _ _ h hk => by rcases hk with rfl | rfl | hk; exact h.box.1; exact h.bmx.1; exact own_lt16 h.own _ hk
  keep := fun _ _ _ _ h k => h.keep k
  stops := .inl ⟨rfl, fun _ => rfl⟩
  took := .inr ⟨_, _, rfl, fun _ _ => by kernel_rfl, fun s g u a b _ h => note_any h a b hmo⟩
/-- What Trace answers. -/
def TRet (w : World) (bs : List Int) (most : Int) (R : (Ma × Int) × List Sht) (e : Ending) (w' : World) : Prop :=
  Below w.heap.size w w' ∧ ((most < 0 ∨ 10000 < most) → e = .returned (.tuple #[.slice none 0 0, .agg ran0, .int .i64 3])) ∧ ((0 ≤ most ∧ most ≤ 10000) → ∃ v vo vm', e = .returned (.tuple #[v, ranV R.1.1 vo vm', .int .i64 R.1.2]) ∧ Lies w' 17 v R.2.length (R.2.flatMap shC) ∧ Ints w' vm' (memL R.1.1.mem) ∧ Byts w' vo R.1.1.out ∧ (R.1.2 = 0 → R.1.1.Fine bs) ∧ R.2.length ≤ 10000)
theorem results_tmp_row_tmp {P : Program} {fn : Func} {p u y : Tmp} {ty : TypeId} (h : fn.results = #[.tmp y, .cell p ty, .tmp u]) (tmps : Array Value) (w : World) (g : Nat) (t : TypeId) (cs : Array Value) (fr : Nat × Nat) (d : TypeDesc) (x z : Value)
    (hp : tmps.getD p undef = .pointer (some ⟨g, 0, none⟩)) (hx : tmps.getD u undef = x) (hz : tmps.getD y undef = z) (hg : w.heap[g]? = some (.cells cs t fr))
    (hu : P.underlying ty = some d) (hd : (match d with | .struct _ | .array _ _ => true | _ => false) = true) (hi : (P.info? ty).map (·.size) = some cs.size) :
    (results fn tmps).run P w = .ok (.tuple #[z, .agg cs, x]) w := by
  unfold results
  rw [h]
  have hp' : tmps[p]?.getD undef = .pointer (some ⟨g, 0, none⟩) := by simpa using hp
  have hx' : tmps[u]?.getD undef = x := by simpa using hx
  have hz' : tmps[y]?.getD undef = z := by simpa using hz
  simp [hp', hx', hz', asAddr, run_loadVar_row w g t ty cs fr d hg hu hd hi]

set_option maxRecDepth 100000 in
set_option maxHeartbeats 4000000 in
theorem trace_any (xs : List Int) (s : St) (bs : List Int) (F : Int) (most : Int) (vc vm vi : Value) (w : World) (hc : Ints w vc xs) (hm : Ints w vm s.mem) (hi : Byts w vi bs) (hb : ∀ x ∈ bs, 0 ≤ x ∧ x ≤ 255) :
    Calls Try.prog 10 #[vc, s.val vm, vi, .int .i64 F, .int .i64 most] w fun e w' => TRet w bs most (runW xs s bs F (fun _ => false) (tkT most.toNat) []) e w' := by
  generalize hRR : runW xs s bs F (fun _ => false) (tkT most.toNat) [] = RW
  have HRR := hideI hRR
  clear hRR
  obtain ⟨⟨m, er⟩, L⟩ := RW
  have HC := hideI hc
  have HI := hideI hi
  have HM := hideI hm
  have HB := hideI hb
  have hcl := hideI (Lies.blkLt hc)
  have hil := hideI (Lies.blkLt hi)
  obtain ⟨mo, mcap, rfl, hmm, _⟩ := hm.at
  have K2 := hideI (bt (bt (below_a w (.cells (s.cells (.slice mo s.mem.length mcap)) 27)) (below_a _ (.cells #[.int .i64 most] 3))) (below_a _ (.cells ran0 33)))
  have G2 : Hid ((((w.alloc (.cells (s.cells (.slice mo s.mem.length mcap)) 27)).alloc (.cells #[.int .i64 most] 3)).alloc (.cells ran0 33)).heap[w.heap.size + 1 + 1]? = some (.cells ran0 33 (0, 0))) := by
    have h := heap_new ((w.alloc (.cells (s.cells (.slice mo s.mem.length mcap)) 27)).alloc (.cells #[.int .i64 most] 3)) (.cells ran0 33)
    rw [World.size_alloc, World.size_alloc] at h
    exact h
  have S2 : Hid (Box (((w.alloc (.cells (s.cells (.slice mo s.mem.length mcap)) 27)).alloc (.cells #[.int .i64 most] 3)).alloc (.cells ran0 33)) w.heap.size (s.cells (.slice mo s.mem.length mcap)).toList) := (Box.new w _ 27).step (bt (below_a _ _) (below_a _ _))
  have M2 : Hid (Box (((w.alloc (.cells (s.cells (.slice mo s.mem.length mcap)) 27)).alloc (.cells #[.int .i64 most] 3)).alloc (.cells ran0 33)) (w.heap.size + 1) [.int .i64 most]) := by
    have h := (Box.new (w.alloc (.cells (s.cells (.slice mo s.mem.length mcap)) 27)) #[.int .i64 most] 3).step (below_a _ (.cells ran0 33))
    rw [World.size_alloc] at h
    exact h
  have z2 : Hid ((((w.alloc (.cells (s.cells (.slice mo s.mem.length mcap)) 27)).alloc (.cells #[.int .i64 most] 3)).alloc (.cells ran0 33)).heap.size = w.heap.size + 1 + 1 + 1) := by unfold Hid; rw [World.size_alloc, World.size_alloc, World.size_alloc]
  clear hc hm hi hb
  unfold St.val St.cells at *
  unfold ran0 at K2 G2 S2 M2 z2
  generalize hW2 : ((w.alloc (.cells #[.int .i64 (s.r 0), .int .i64 (s.r 1), .int .i64 (s.r 2), .int .i64 (s.r 3), .int .i64 (s.r 4), .int .i64 (s.r 5), .int .i64 (s.r 6), .int .i64 (s.r 7), .bool s.c, .bool s.z, .bool s.n, .bool s.v, .int .i64 s.pc, .slice mo s.mem.length mcap] 27)).alloc (.cells #[.int .i64 most] 3)).alloc (.cells #[.int .i64 0, .int .i64 0, .slice none 0 0, .int .i64 0, .int .i64 0, .int .i64 0, .int .i64 0, .int .i64 0, .int .i64 0, .int .i64 0, .int .i64 0, .int .i64 0, .int .i64 0, .bool false, .bool false, .bool false, .bool false, .int .i64 0, .slice none 0 0] 33) = w2 at *
  have c0 := (unhideI M2).2.1 0 _ rfl
  have l0 := (unhideI M2).1
  by_cases hq : most < 0 ∨ 10000 < most
  · have hend : ∀ e w', Below w.heap.size w w' → e = .returned (.tuple #[.slice none 0 0, .agg ran0, .int .i64 3]) → TRet w bs most ((m, er), L) e w' := fun e w' k h => ⟨k, fun _ => h, fun h9 => by omega⟩
    rcases hq with hq | hq
    · have d1 : decide (most < 0) = true := by simpa using hq
      go_enter Try.func10, Try.ntmps10
      go_wp2_with (refine wpList_store_row rfl 33 (.tmp 11) (.tmp 23) rfl (w.heap.size + 1 + 1) #[.int .i64 0, .int .i64 0, .slice none 0 0, .int .i64 0, .int .i64 0, .int .i64 0, .int .i64 0, .int .i64 0, .int .i64 0, .int .i64 0, .int .i64 0, .int .i64 0, .int .i64 0, .bool false, .bool false, .bool false, .bool false, .int .i64 0, .slice none 0 0] rfl rfl 33 #[.int .i64 0, .int .i64 0, .slice none 0 0, .int .i64 0, .int .i64 0, .int .i64 0, .int .i64 0, .int .i64 0, .int .i64 0, .int .i64 0, .int .i64 0, .int .i64 0, .int .i64 0, .bool false, .bool false, .bool false, .bool false, .int .i64 0, .slice none 0 0] (unhideI G2) Try.sizeRan rfl ran0_one ?_; have HG := hideI (setRow_heap _ (w.heap.size + 1 + 1) _ #[.int .i64 0, .int .i64 0, .slice none 0 0, .int .i64 0, .int .i64 0, .int .i64 0, .int .i64 0, .int .i64 0, .int .i64 0, .int .i64 0, .int .i64 0, .int .i64 0, .int .i64 0, .bool false, .bool false, .bool false, .bool false, .int .i64 0, .slice none 0 0] _ _ (unhideI G2)); have HK := hideI (Below.row (unhideI K2) (by omega : w.heap.size ≤ w.heap.size + 1 + 1) #[.int .i64 0, .int .i64 0, .slice none 0 0, .int .i64 0, .int .i64 0, .int .i64 0, .int .i64 0, .int .i64 0, .int .i64 0, .int .i64 0, .int .i64 0, .int .i64 0, .int .i64 0, .bool false, .bool false, .bool false, .bool false, .int .i64 0, .slice none 0 0]))
      exact bodyPost_ret (results_tmp_row_tmp Try.results10 _ _ (w.heap.size + 1 + 1) 33 ran0 (0, 0) _ _ _ rfl rfl rfl (unhideI HG) Try.underlying33 rfl Try.sizeRan) rfl (hend _ _ (unhideI HK) rfl)
    · have d1 : decide (most < 0) = false := by simp; omega
      have d2 : decide (10000 < most) = true := by simpa using hq
      go_enter Try.func10, Try.ntmps10
      go_wp2_with (refine wpList_store_row rfl 33 (.tmp 11) (.tmp 23) rfl (w.heap.size + 1 + 1) #[.int .i64 0, .int .i64 0, .slice none 0 0, .int .i64 0, .int .i64 0, .int .i64 0, .int .i64 0, .int .i64 0, .int .i64 0, .int .i64 0, .int .i64 0, .int .i64 0, .int .i64 0, .bool false, .bool false, .bool false, .bool false, .int .i64 0, .slice none 0 0] rfl rfl 33 #[.int .i64 0, .int .i64 0, .slice none 0 0, .int .i64 0, .int .i64 0, .int .i64 0, .int .i64 0, .int .i64 0, .int .i64 0, .int .i64 0, .int .i64 0, .int .i64 0, .int .i64 0, .bool false, .bool false, .bool false, .bool false, .int .i64 0, .slice none 0 0] (unhideI G2) Try.sizeRan rfl ran0_one ?_; have HG := hideI (setRow_heap _ (w.heap.size + 1 + 1) _ #[.int .i64 0, .int .i64 0, .slice none 0 0, .int .i64 0, .int .i64 0, .int .i64 0, .int .i64 0, .int .i64 0, .int .i64 0, .int .i64 0, .int .i64 0, .int .i64 0, .int .i64 0, .bool false, .bool false, .bool false, .bool false, .int .i64 0, .slice none 0 0] _ _ (unhideI G2)); have HK := hideI (Below.row (unhideI K2) (by omega : w.heap.size ≤ w.heap.size + 1 + 1) #[.int .i64 0, .int .i64 0, .slice none 0 0, .int .i64 0, .int .i64 0, .int .i64 0, .int .i64 0, .int .i64 0, .int .i64 0, .int .i64 0, .int .i64 0, .int .i64 0, .int .i64 0, .bool false, .bool false, .bool false, .bool false, .int .i64 0, .slice none 0 0]))
      exact bodyPost_ret (results_tmp_row_tmp Try.results10 _ _ (w.heap.size + 1 + 1) 33 ran0 (0, 0) _ _ _ rfl rfl rfl (unhideI HG) Try.underlying33 rfl Try.sizeRan) rfl (hend _ _ (unhideI HK) rfl)
  · obtain ⟨mo9, rfl⟩ : ∃ k : Nat, most = k := ⟨most.toNat, by omega⟩
    have hm9 : mo9 ≤ 10000 := by omega
    have d1 : decide ((mo9 : Int) < 0) = false := by simp
    have d2 : decide (10000 < (mo9 : Int)) = false := by simp; omega
    rw [Int.toNat_natCast] at HRR
    have z2' := unhideI z2
    have K3 := hideI (bt (unhideI K2) (below_a w2 (.cells #[.slice none 0 0] 31)))
    have G3 := hideI (((below_a w2 (.cells #[.slice none 0 0] 31)).block (w.heap.size + 1 + 1) (by omega)).trans (unhideI G2))
    have S3 := (unhideI S2).step (below_a w2 (.cells #[.slice none 0 0] 31))
    have I3 : Hid (InvT (w.heap.size + 1 + 1 + 1) (w.heap.size + 1) mo9 [] (.slice none 0 0) (w2.alloc (.cells #[.slice none 0 0] 31))) := by
      have b1 := Box.new w2 #[.slice none 0 0] 31
      rw [z2'] at b1
      exact ⟨b1, (unhideI M2).step (below_a _ _), by omega, World.ownsRow_nil _ _ _ _, (fun k hk => by cases hk), by simp⟩
    have l3 : w.heap.size + 1 + 1 < (w2.alloc (.cells #[.slice none 0 0] 31)).heap.size := by rw [World.size_alloc]; omega
    have z3 : Hid ((w2.alloc (.cells #[.slice none 0 0] 31)).heap.size = w.heap.size + 1 + 1 + 1 + 1) := by unfold Hid; rw [World.size_alloc, z2']
    have x0 := S3.2.1 0 _ rfl
    have x1 := S3.2.1 1 _ rfl
    have x2 := S3.2.1 2 _ rfl
    have x3 := S3.2.1 3 _ rfl
    have x4 := S3.2.1 4 _ rfl
    have x5 := S3.2.1 5 _ rfl
    have x6 := S3.2.1 6 _ rfl
    have x7 := S3.2.1 7 _ rfl
    have x8 := S3.2.1 8 _ rfl
    have x9 := S3.2.1 9 _ rfl
    have x10 := S3.2.1 10 _ rfl
    have x11 := S3.2.1 11 _ rfl
    have x12 := S3.2.1 12 _ rfl
    have x13 := S3.2.1 13 _ rfl
    clear S3 G2 S2 K2
    have KW := hideI (watched_any (looks_trace (w.heap.size + 1 + 1 + 1) (w.heap.size + 1) mo9 hm9) xs s bs F vc (.slice mo s.mem.length mcap) vi _ ((unhideI HC).step (unhideI K3)) ((unhideI HM).step (unhideI K3)) (Lies.step (unhideI HI) (unhideI K3)) (unhideI HB) [] (unhideI I3)
      (fun c hn hc hf => by have := unhideI hcl hn c hc; rcases hf with rfl | rfl | hf <;> first | omega | cases hf) (fun c hn hc hf => by have := unhideI hil hn c hc; rcases hf with rfl | rfl | hf <;> first | omega | cases hf))
    rw [unhideI HRR] at KW
    clear HC HI HM HB hcl hil I3 HRR M2
    have hs2 : w2.heap.size = w.heap.size + 1 + 1 + 1 := z2'
    clear z2
    go_enter Try.func10, Try.ntmps10
    go_wp2_with fail
    refine (unhideI KW).mono ?_
    rintro e w5 ⟨vo, vm5, rfl, i5, o5, k5, f5, n6, n5, v9, v5, ff⟩
    dsimp only at *
    have g5 := hideI ((k5.block (w.heap.size + 1 + 1) l3 (fun h => by rcases h with h | h | h <;> first | omega | cases h)).trans (unhideI G3))
    have KK : Hid (Below w.heap.size w w5) := (unhideI K3).trans (k5.below (unhideI K3).size fun k hk => by rcases hk with rfl | rfl | hk <;> first | omega | cases hk)
    have l5 : Hid (w.heap.size + 1 + 1 + 1 < w5.heap.size) := v5.box.1
    have hvn : ∀ k, v9.ownBlock = some k → k ≠ w.heap.size + 1 + 1 := fun k hk => by
      rcases ff k (.inr (.inr hk)) with h | h
      · rcases h with h | h | h
        · omega
        · omega
        · cases h
      · have := unhideI z3; omega
    have VN := hideI hvn
    clear hvn ff
    obtain ⟨av, cv, rfl⟩ := own_slc v5.own
    have V5 := hideI v5
    obtain ⟨a5, c5, rfl, _, _⟩ := i5.at
    obtain ⟨b5, d5, rfl, _, _⟩ := o5.at
    have I5 := hideI i5
    have O5 := hideI o5
    have F5 : Hid (∀ k, (Value.slice a5 (memL m.mem).length c5).ownBlock = some k → k ≠ w.heap.size + 1 + 1) := fun k hk => by have := n5 k hk; omega
    have E5 : Hid (∀ k, (Value.slice b5 m.out.length d5).ownBlock = some k → k ≠ w.heap.size + 1 + 1) := fun k hk => by have := n6 k hk; omega
    have FI := hideI f5
    clear n5 n6 i5 o5 k5 f5 KW K3 G3 v5 hs2 z2' z3 l3
    unfold ranV
    go_wp2_with (refine wpList_store_row rfl 33 (.tmp 15) (.tmp 33) rfl w5.heap.size (ranC m (.slice b5 m.out.length d5) (.slice a5 (memL m.mem).length c5)) rfl rfl 33 #[.int .i64 0, .int .i64 0, .slice none 0 0, .int .i64 0, .int .i64 0, .int .i64 0, .int .i64 0, .int .i64 0, .int .i64 0, .int .i64 0, .int .i64 0, .int .i64 0, .int .i64 0, .bool false, .bool false, .bool false, .bool false, .int .i64 0, .slice none 0 0] (heap_new _ _) Try.sizeRan rfl (ranC_one _ _ _ _ _ _ _) ?_; have SN := hideI (store_new w5 #[.int .i64 0, .int .i64 0, .slice none 0 0, .int .i64 0, .int .i64 0, .int .i64 0, .int .i64 0, .int .i64 0, .int .i64 0, .int .i64 0, .int .i64 0, .int .i64 0, .int .i64 0, .bool false, .bool false, .bool false, .bool false, .int .i64 0, .slice none 0 0] (ranC m (.slice b5 m.out.length d5) (.slice a5 (memL m.mem).length c5)) 33); have SH := hideI (store_heap w5 #[.int .i64 0, .int .i64 0, .slice none 0 0, .int .i64 0, .int .i64 0, .int .i64 0, .int .i64 0, .int .i64 0, .int .i64 0, .int .i64 0, .int .i64 0, .int .i64 0, .int .i64 0, .bool false, .bool false, .bool false, .bool false, .int .i64 0, .slice none 0 0] (ranC m (.slice b5 m.out.length d5) (.slice a5 (memL m.mem).length c5)) 33); generalize (w5.alloc (.cells #[.int .i64 0, .int .i64 0, .slice none 0 0, .int .i64 0, .int .i64 0, .int .i64 0, .int .i64 0, .int .i64 0, .int .i64 0, .int .i64 0, .int .i64 0, .int .i64 0, .int .i64 0, .bool false, .bool false, .bool false, .bool false, .int .i64 0, .slice none 0 0] 33)).setRow w5.heap.size (ranC m (.slice b5 m.out.length d5) (.slice a5 (memL m.mem).length c5)) = w6 at *)
    generalize hL : memL m.mem = L5 at *
    have l6 := unhideI l5
    have V6 := hideI ((unhideI V5).keep (Kpw.of (unhideI SN).2))
    have g6 := hideI (((unhideI SN).2.block (w.heap.size + 1 + 1) (by omega)).trans (unhideI g5))
    have I6 := hideI (Lies.step (unhideI I5) (unhideI SN).2)
    have O6 := hideI (Lies.step (unhideI O5) (unhideI SN).2)
    have KK6 := hideI ((unhideI KK).trans ((unhideI SN).2.mono (unhideI KK).size))
    have S6 := SH
    clear V5 g5 I5 O5 KK SN SH
    refine reg_start (fun W => W.heap[w5.heap.size]? = some (.cells (ranC m (.slice b5 m.out.length d5) (.slice a5 L5.length c5)) 33 (0, 0)) ∧ W.cell? ⟨w.heap.size + 1 + 1 + 1, 0, none⟩ = some (.slice av L.length cv)) (by kernel_rfl) ?_
    have V7 := hideI ((unhideI V6).keep (Kpw.of (Below.refl _ _).drew))
    have g7 : Hid (w6.drew.heap[w.heap.size + 1 + 1]? = some (.cells #[.int .i64 0, .int .i64 0, .slice none 0 0, .int .i64 0, .int .i64 0, .int .i64 0, .int .i64 0, .int .i64 0, .int .i64 0, .int .i64 0, .int .i64 0, .int .i64 0, .int .i64 0, .bool false, .bool false, .bool false, .bool false, .int .i64 0, .slice none 0 0] 33 (0, 0))) := unhideI g6
    have I7 := hideI (Lies.step (unhideI I6) (Below.refl _ _).drew)
    have O7 := hideI (Lies.step (unhideI O6) (Below.refl _ _).drew)
    have K7 := hideI (unhideI KK6).drew
    have S7 : Hid (w6.drew.heap[w5.heap.size]? = some (.cells (ranC m (.slice b5 m.out.length d5) (.slice a5 L5.length c5)) 33 (0, 0))) := unhideI S6
    clear V6 g6 I6 O6 KK6 S6
    generalize w6.drew = w7 at *
    refine reg_seg 0 4 2 (by kernel_rfl) (by decide) (by kernel_rfl) (by kernel_rfl) (fun _ _ _ _ _ h => h) ?_
    simp only [List.take_succ_cons, List.take_zero, List.drop_succ_cons, List.drop_zero]
    (refine wpSteady_step (fun K hK => ?_); go_simp; first | (refine steady_of ?_ (fun W hW => ?_) (hK _ ?_); rotate_left; (obtain ⟨y0, y1⟩ := hW; go_simp; first | done | rfl); clear hK K) | (refine hK _ ?_; clear hK K))
    refine steady_load_row rfl 33 (.tmp 15) rfl w5.heap.size rfl 33 (ranC m (.slice b5 m.out.length d5) (.slice a5 L5.length c5)) (0, 0) _ (fun W hW => hW.1) Try.underlying33 rfl Try.sizeRan ?_
    (refine wpSteady_step (fun K hK => ?_); go_simp; first | (refine steady_of ?_ (fun W hW => ?_) (hK _ ?_); rotate_left; (obtain ⟨y0, y1⟩ := hW; go_simp; first | done | rfl); clear hK K) | (refine hK _ ?_; clear hK K))
    (refine wpSteady_step (fun K hK => ?_); go_simp; first | (refine steady_of ?_ (fun W hW => ?_) (hK _ ?_); rotate_left; (obtain ⟨y0, y1⟩ := hW; go_simp; first | done | rfl); clear hK K) | (refine hK _ ?_; clear hK K))
    refine wpSteady_nil ?_
    refine reg_one 4 1 (by kernel_rfl) (by kernel_rfl) ⟨unhideI S7, (unhideI V7).box.2.1 0 _ rfl⟩ ?_
    simp only [List.take_succ_cons, List.take_zero, List.drop_succ_cons, List.drop_zero]
    go_wp2_with (refine wpList_store_row rfl 33 (.tmp 11) (.tmp 36) rfl (w.heap.size + 1 + 1) (ranC m (.slice b5 m.out.length d5) (.slice a5 L5.length c5)) rfl rfl 33 #[.int .i64 0, .int .i64 0, .slice none 0 0, .int .i64 0, .int .i64 0, .int .i64 0, .int .i64 0, .int .i64 0, .int .i64 0, .int .i64 0, .int .i64 0, .int .i64 0, .int .i64 0, .bool false, .bool false, .bool false, .bool false, .int .i64 0, .slice none 0 0] (unhideI g7) Try.sizeRan rfl (ranC_one _ _ _ _ _ _ _) ?_; have HG := hideI (setRow_heap _ (w.heap.size + 1 + 1) _ (ranC m (.slice b5 m.out.length d5) (.slice a5 L5.length c5)) _ _ (unhideI g7)))
    first | refine next_nil ?_ | refine next_go ?_
    have L8 : Hid (Lies (w7.setRow (w.heap.size + 1 + 1) (ranC m (.slice b5 m.out.length d5) (.slice a5 L5.length c5))) 17 (.slice av L.length cv) L.length (L.flatMap shC)) := Lies.blk (Lies.owned (unhideI V7).own) (by rw [size_setRow]; exact Nat.le_refl _) fun k hk => setRow_other _ _ _ _ (unhideI VN k hk)
    have I8 : Hid (Ints (w7.setRow (w.heap.size + 1 + 1) (ranC m (.slice b5 m.out.length d5) (.slice a5 L5.length c5))) (.slice a5 L5.length c5) L5) := Lies.blk (unhideI I7) (by rw [size_setRow]; exact Nat.le_refl _) fun k hk => setRow_other _ _ _ _ (unhideI F5 k hk)
    have O8 : Hid (Byts (w7.setRow (w.heap.size + 1 + 1) (ranC m (.slice b5 m.out.length d5) (.slice a5 L5.length c5))) (.slice b5 m.out.length d5) m.out) := Lies.blk (unhideI O7) (by rw [size_setRow]; exact Nat.le_refl _) fun k hk => setRow_other _ _ _ _ (unhideI E5 k hk)
    have K8 : Hid (Below w.heap.size w (w7.setRow (w.heap.size + 1 + 1) (ranC m (.slice b5 m.out.length d5) (.slice a5 L5.length c5)))) := Below.row (unhideI K7) (by omega) (ranC m (.slice b5 m.out.length d5) (.slice a5 L5.length c5))
    have C8 : Hid ((w7.setRow (w.heap.size + 1 + 1) (ranC m (.slice b5 m.out.length d5) (.slice a5 L5.length c5))).heap[w5.heap.size]? = some (.cells (ranC m (.slice b5 m.out.length d5) (.slice a5 L5.length c5)) 33 (0, 0)) ∧ (w7.setRow (w.heap.size + 1 + 1) (ranC m (.slice b5 m.out.length d5) (.slice a5 L5.length c5))).cell? ⟨w.heap.size + 1 + 1 + 1, 0, none⟩ = some (.slice av L.length cv)) :=
      ⟨(setRow_other _ _ _ _ (by omega)).trans (unhideI S7), by rw [World.cell?_of_block (w := w7) (a := ⟨w.heap.size + 1 + 1 + 1, 0, none⟩) (setRow_other _ _ _ _ (by show w.heap.size + 1 + 1 + 1 ≠ w.heap.size + 1 + 1; omega))]; exact (unhideI V7).box.2.1 0 _ rfl⟩
    have hlen := (unhideI V7).len
    clear V7 I7 O7 K7 S7 g7 F5 E5 VN
    generalize w7.setRow (w.heap.size + 1 + 1) (ranC m (.slice b5 m.out.length d5) (.slice a5 L5.length c5)) = w8 at *
    refine reg_one 5 0 (by kernel_rfl) (by kernel_rfl) (unhideI C8) ?_
    simp only [List.take_succ_cons, List.take_zero, List.drop_succ_cons, List.drop_zero]
    go_wp2_with fail
    first | refine next_nil ?_ | refine next_go ?_
    refine reg_end (by kernel_rfl) (unhideI C8) ?_
    go_wp2_with fail
    have FIN : TRet w bs (mo9 : Int) ((m, er), L) (.returned (.tuple #[.slice av L.length cv, .agg (ranC m (.slice b5 m.out.length d5) (.slice a5 L5.length c5)), .int .i64 er])) w8 := ⟨unhideI K8, fun h => by omega, fun _ => ⟨_, .slice b5 m.out.length d5, .slice a5 L5.length c5, rfl, unhideI L8, by show Ints _ _ (memL m.mem); rw [hL]; exact unhideI I8, unhideI O8, unhideI FI, hlen⟩⟩
    exact bodyPost_ret (results_tmp_row_tmp Try.results10 _ _ (w.heap.size + 1 + 1) 33 (ranC m (.slice b5 m.out.length d5) (.slice a5 L5.length c5)) (0, 0) _ _ _ rfl rfl rfl (unhideI HG) Try.underlying33 rfl Try.sizeRan) rfl FIN
end Go.Proofs.Ytjlbenbfmookoaa
