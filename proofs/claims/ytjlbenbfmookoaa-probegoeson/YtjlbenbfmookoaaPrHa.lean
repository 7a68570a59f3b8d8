/-
  probe.Hits, whole.
-/
import Derived.Test.YtjlbenbfmookoaaEmuR
import Derived.Test.YtjlbenbfmookoaaPrH
import Derived.Test.YtjlbenbfmookoaaAlive3
namespace Go.Proofs.Ytjlbenbfmookoaa
open Go.RowKit
set_option linter.unusedSimpArgs false
set_option linter.unusedVariables false

theorem Lies.blkLt {w : World} {s n : Nat} {v : Value} {cs : List Value} (h : Lies w s v n cs) (hn : n ≠ 0) : ∀ c, v.ownBlock = some c → c < w.heap.size := by
  obtain ⟨_, ao, cap, rfl, _, _, _, h5⟩ := h
  obtain ⟨b, off, rfl, hb, _⟩ := h5 hn
  intro c hc
  have e : b = c := by simpa [Value.ownBlock] using hc
  omega
theorem InvH.ints {b rb n : Nat} {l : List Int} {w : World} (h : InvH b rb n l w) : Ints w (.slice (some ⟨rb, 0, none⟩) n n) l := by
  have hl := h.len
  have hm := h.max
  subst hl
  refine ⟨by simp, _, _, rfl, Nat.le_refl _, by unfold maxLen; omega, (fun h => by cases h), fun _ => ⟨rb, 0, rfl, h.row.1, fun j hj => ?_⟩⟩
  rw [Nat.zero_add]
  have hj' : j < (l.map int1).length := by simp; omega
  rw [List.getElem?_eq_getElem hj']
  exact h.row.2.1 j _ (List.getElem?_eq_getElem hj')
def hits0 (xs : List Int) : List Int := List.replicate (min xs.length 65536) 0
/-- What Hits answers. -/
def HRet (w : World) (R : (Ma × Int) × List Int) (e : Ending) (w' : World) : Prop :=
  Below w.heap.size w w' ∧ (R.1.2 = 0 → ∃ v, e = .returned (.tuple #[v, .int .i64 0]) ∧ Ints w' v R.2) ∧ (¬ R.1.2 = 0 → e = .returned (.tuple #[.slice none 0 0, .int .i64 R.1.2]))

set_option maxRecDepth 100000 in
set_option maxHeartbeats 2000000 in
theorem hits_any (xs : List Int) (s : St) (bs : List Int) (F : Int) (vc vm vi : Value) (w : World) (hc : Ints w vc xs) (hm : Ints w vm s.mem) (hi : Byts w vi bs) (hb : ∀ x ∈ bs, 0 ≤ x ∧ x ≤ 255) :
    Calls Try.prog 12 #[vc, s.val vm, vi, .int .i64 F] w fun e w' => HRet w (runW xs s bs F (fun _ => false) tkH (hits0 xs)) e w' := by
  have HC := hideI hc
  have HI := hideI hi
  have HM := hideI hm
  have HB := hideI hb
  have hcl := hideI (Lies.blkLt hc)
  have hil := hideI (Lies.blkLt hi)
  obtain ⟨co, ccap, rfl, hmx, _⟩ := hc.at
  obtain ⟨mo, mcap, rfl, hmm, _⟩ := hm.at
  clear hc hm hi hb
  unfold maxLen at hmx
  obtain ⟨n, hn⟩ : ∃ n, min xs.length 65536 = n := ⟨_, rfl⟩
  have hn6 : n ≤ 65536 := by omega
  have hmin : min (xs.length : Int) 65536 = (n : Int) := by omega
  obtain ⟨MC, hMC⟩ : ∃ MC, MC = madeCells #[Value.int .i64 0] n := ⟨_, rfl⟩
  have hmk : ∀ w, (Instr.makeSlice 22 (.int .i64 (n : Int)) (.int .i64 (n : Int))).run Try.prog w = .ok (.slice (some ⟨w.heap.size, 0, none⟩) n n) (w.alloc (.cells MC 3)) := by
    rw [hMC]
    exact run_make_row' 22 3 (.int .i64 0) 8 Try.underlying22 Try.infoInt rfl .i64 .i64 n (by omega) (by omega)
  have HMC := hideI hMC
  clear hMC
  have K3 := hideI (bt (bt (below_a w (.cells (s.cells (.slice mo s.mem.length mcap)) 27)) (below_a _ (.cells MC 3))) (below_a _ (.cells #[.slice (some ⟨w.heap.size + 1, 0, none⟩) n n] 22)))
  have I3 : Hid (InvH (w.heap.size + 1 + 1) (w.heap.size + 1) n (hits0 xs) (((w.alloc (.cells (s.cells (.slice mo s.mem.length mcap)) 27)).alloc (.cells MC 3)).alloc (.cells #[.slice (some ⟨w.heap.size + 1, 0, none⟩) n n] 22))) := by
    have b1 := Box.new ((w.alloc (.cells (s.cells (.slice mo s.mem.length mcap)) 27)).alloc (.cells MC 3)) #[.slice (some ⟨w.heap.size + 1, 0, none⟩) n n] 22
    have b2 := (Box.new (w.alloc (.cells (s.cells (.slice mo s.mem.length mcap)) 27)) MC 3).step (below_a _ (.cells #[.slice (some ⟨w.heap.size + 1, 0, none⟩) n n] 22))
    rw [World.size_alloc, World.size_alloc] at b1
    rw [World.size_alloc] at b2
    have e : MC.toList = (hits0 xs).map int1 := by rw [unhideI HMC, toList_madeCells_one]; unfold hits0; rw [hn, List.map_replicate]; rfl
    rw [e] at b2
    exact ⟨b1, b2, by omega, by unfold hits0; simp [hn], hn6⟩
  have KW := hideI (watched_any (g0 := ()) (looks_hits (w.heap.size + 1 + 1) (w.heap.size + 1) n) xs s bs F (.slice co xs.length ccap) (.slice mo s.mem.length mcap) vi _ ((unhideI HC).step (unhideI K3)) ((unhideI HM).step (unhideI K3)) (Lies.step (unhideI HI) (unhideI K3)) (unhideI HB) (hits0 xs) (unhideI I3)
    (fun c hn hc hf => by have := unhideI hcl hn c hc; rcases hf with rfl | rfl <;> omega) (fun c hn hc hf => by have := unhideI hil hn c hc; rcases hf with rfl | rfl <;> omega))
  clear HC HI HM HB hcl hil I3 HMC
  generalize runW xs s bs F (fun _ => false) tkH (hits0 xs) = R at *
  unfold St.val St.cells at *
  by_cases hle : (xs.length : Int) ≤ 65536
  · have e : n = xs.length := by omega
    clear hn hmin hn6
    subst e
    go_enter Try.func12, Try.ntmps12
    go_wp2_with fail
    refine (unhideI KW).mono ?_
    rintro e w5 ⟨vo, vm5, rfl, i5, o5, k5, f5, n6, n5, g9, v5, -⟩
    have V5 := hideI v5
    have KK := hideI ((unhideI K3).trans (k5.below (unhideI K3).size fun k hk => by rcases hk with rfl | rfl <;> omega))
    clear K3 k5 KW v5
    obtain ⟨⟨m, er⟩, L⟩ := R
    dsimp only at *
    obtain ⟨m5, c5, rfl, _, _⟩ := i5.at
    obtain ⟨n5, d5, rfl, _, _⟩ := o5.at
    clear i5 o5 f5
    by_cases he : er = 0
    · subst he
      unfold ranV
      have hb : ((0 : Int) != 0) = false := by decide
      go_wp2_with (refine wpList_store_row rfl 33 (.tmp 12) (.tmp 27) rfl w5.heap.size (ranC m (.slice n5 m.out.length d5) (.slice m5 (memL m.mem).length c5)) rfl rfl 33 #[.int .i64 0, .int .i64 0, .slice none 0 0, .int .i64 0, .int .i64 0, .int .i64 0, .int .i64 0, .int .i64 0, .int .i64 0, .int .i64 0, .int .i64 0, .int .i64 0, .int .i64 0, .bool false, .bool false, .bool false, .bool false, .int .i64 0, .slice none 0 0] (heap_new _ _) Try.sizeRan rfl (ranC_one _ _ _ _ _ _ _) ?_; have SN := hideI (store_new w5 #[.int .i64 0, .int .i64 0, .slice none 0 0, .int .i64 0, .int .i64 0, .int .i64 0, .int .i64 0, .int .i64 0, .int .i64 0, .int .i64 0, .int .i64 0, .int .i64 0, .int .i64 0, .bool false, .bool false, .bool false, .bool false, .int .i64 0, .slice none 0 0] (ranC m (.slice n5 m.out.length d5) (.slice m5 (memL m.mem).length c5)) 33); have SH := hideI (store_heap w5 #[.int .i64 0, .int .i64 0, .slice none 0 0, .int .i64 0, .int .i64 0, .int .i64 0, .int .i64 0, .int .i64 0, .int .i64 0, .int .i64 0, .int .i64 0, .int .i64 0, .int .i64 0, .bool false, .bool false, .bool false, .bool false, .int .i64 0, .slice none 0 0] (ranC m (.slice n5 m.out.length d5) (.slice m5 (memL m.mem).length c5)) 33); generalize (w5.alloc (.cells #[.int .i64 0, .int .i64 0, .slice none 0 0, .int .i64 0, .int .i64 0, .int .i64 0, .int .i64 0, .int .i64 0, .int .i64 0, .int .i64 0, .int .i64 0, .int .i64 0, .int .i64 0, .bool false, .bool false, .bool false, .bool false, .int .i64 0, .slice none 0 0] 33)).setRow w5.heap.size (ranC m (.slice n5 m.out.length d5) (.slice m5 (memL m.mem).length c5)) = w6 at *; have V6 := hideI ((unhideI V5).keep (Kpw.of (unhideI SN).2)); have c0 := (unhideI V6).box.2.1 0 _ rfl; have l0 := (unhideI V6).box.1)
      go_ret2
      exact ⟨(unhideI KK).trans ((unhideI SN).2.mono (unhideI KK).size), fun _ => ⟨_, rfl, (unhideI V6).ints⟩, fun h => absurd rfl h⟩
    · have hb : (er != 0) = true := by simp [he]
      unfold ranV
      go_wp2_with (refine wpList_store_row rfl 33 (.tmp 12) (.tmp 27) rfl w5.heap.size (ranC m (.slice n5 m.out.length d5) (.slice m5 (memL m.mem).length c5)) rfl rfl 33 #[.int .i64 0, .int .i64 0, .slice none 0 0, .int .i64 0, .int .i64 0, .int .i64 0, .int .i64 0, .int .i64 0, .int .i64 0, .int .i64 0, .int .i64 0, .int .i64 0, .int .i64 0, .bool false, .bool false, .bool false, .bool false, .int .i64 0, .slice none 0 0] (heap_new _ _) Try.sizeRan rfl (ranC_one _ _ _ _ _ _ _) ?_; have SN := hideI (store_new w5 #[.int .i64 0, .int .i64 0, .slice none 0 0, .int .i64 0, .int .i64 0, .int .i64 0, .int .i64 0, .int .i64 0, .int .i64 0, .int .i64 0, .int .i64 0, .int .i64 0, .int .i64 0, .bool false, .bool false, .bool false, .bool false, .int .i64 0, .slice none 0 0] (ranC m (.slice n5 m.out.length d5) (.slice m5 (memL m.mem).length c5)) 33); have SH := hideI (store_heap w5 #[.int .i64 0, .int .i64 0, .slice none 0 0, .int .i64 0, .int .i64 0, .int .i64 0, .int .i64 0, .int .i64 0, .int .i64 0, .int .i64 0, .int .i64 0, .int .i64 0, .int .i64 0, .bool false, .bool false, .bool false, .bool false, .int .i64 0, .slice none 0 0] (ranC m (.slice n5 m.out.length d5) (.slice m5 (memL m.mem).length c5)) 33); generalize (w5.alloc (.cells #[.int .i64 0, .int .i64 0, .slice none 0 0, .int .i64 0, .int .i64 0, .int .i64 0, .int .i64 0, .int .i64 0, .int .i64 0, .int .i64 0, .int .i64 0, .int .i64 0, .int .i64 0, .bool false, .bool false, .bool false, .bool false, .int .i64 0, .slice none 0 0] 33)).setRow w5.heap.size (ranC m (.slice n5 m.out.length d5) (.slice m5 (memL m.mem).length c5)) = w6 at *)
      go_ret2
      exact ⟨(unhideI KK).trans ((unhideI SN).2.mono (unhideI KK).size), fun h => absurd h he, fun _ => rfl⟩
  · have e : n = 65536 := by omega
    clear hn hmin hn6
    subst e
    have hmk2 : ∀ w, (Instr.makeSlice 22 (.int .i64 65536) (.int .i64 65536)).run Try.prog w = .ok (.slice (some ⟨w.heap.size, 0, none⟩) 65536 65536) (w.alloc (.cells MC 3)) := hmk
    clear hmk
    go_enter Try.func12, Try.ntmps12
    go_wp2_with fail
    refine (unhideI KW).mono ?_
    rintro e w5 ⟨vo, vm5, rfl, i5, o5, k5, f5, n6, n5, g9, v5, -⟩
    have V5 := hideI v5
    have KK := hideI ((unhideI K3).trans (k5.below (unhideI K3).size fun k hk => by rcases hk with rfl | rfl <;> omega))
    clear K3 k5 KW v5
    obtain ⟨⟨m, er⟩, L⟩ := R
    dsimp only at *
    obtain ⟨m5, c5, rfl, _, _⟩ := i5.at
    obtain ⟨n5, d5, rfl, _, _⟩ := o5.at
    clear i5 o5 f5
    by_cases he : er = 0
    · subst he
      unfold ranV
      have hb : ((0 : Int) != 0) = false := by decide
      go_wp2_with (refine wpList_store_row rfl 33 (.tmp 12) (.tmp 27) rfl w5.heap.size (ranC m (.slice n5 m.out.length d5) (.slice m5 (memL m.mem).length c5)) rfl rfl 33 #[.int .i64 0, .int .i64 0, .slice none 0 0, .int .i64 0, .int .i64 0, .int .i64 0, .int .i64 0, .int .i64 0, .int .i64 0, .int .i64 0, .int .i64 0, .int .i64 0, .int .i64 0, .bool false, .bool false, .bool false, .bool false, .int .i64 0, .slice none 0 0] (heap_new _ _) Try.sizeRan rfl (ranC_one _ _ _ _ _ _ _) ?_; have SN := hideI (store_new w5 #[.int .i64 0, .int .i64 0, .slice none 0 0, .int .i64 0, .int .i64 0, .int .i64 0, .int .i64 0, .int .i64 0, .int .i64 0, .int .i64 0, .int .i64 0, .int .i64 0, .int .i64 0, .bool false, .bool false, .bool false, .bool false, .int .i64 0, .slice none 0 0] (ranC m (.slice n5 m.out.length d5) (.slice m5 (memL m.mem).length c5)) 33); have SH := hideI (store_heap w5 #[.int .i64 0, .int .i64 0, .slice none 0 0, .int .i64 0, .int .i64 0, .int .i64 0, .int .i64 0, .int .i64 0, .int .i64 0, .int .i64 0, .int .i64 0, .int .i64 0, .int .i64 0, .bool false, .bool false, .bool false, .bool false, .int .i64 0, .slice none 0 0] (ranC m (.slice n5 m.out.length d5) (.slice m5 (memL m.mem).length c5)) 33); generalize (w5.alloc (.cells #[.int .i64 0, .int .i64 0, .slice none 0 0, .int .i64 0, .int .i64 0, .int .i64 0, .int .i64 0, .int .i64 0, .int .i64 0, .int .i64 0, .int .i64 0, .int .i64 0, .int .i64 0, .bool false, .bool false, .bool false, .bool false, .int .i64 0, .slice none 0 0] 33)).setRow w5.heap.size (ranC m (.slice n5 m.out.length d5) (.slice m5 (memL m.mem).length c5)) = w6 at *; have V6 := hideI ((unhideI V5).keep (Kpw.of (unhideI SN).2)); have c0 := (unhideI V6).box.2.1 0 _ rfl; have l0 := (unhideI V6).box.1)
      go_ret2
      exact ⟨(unhideI KK).trans ((unhideI SN).2.mono (unhideI KK).size), fun _ => ⟨_, rfl, (unhideI V6).ints⟩, fun h => absurd rfl h⟩
    · have hb : (er != 0) = true := by simp [he]
      unfold ranV
      go_wp2_with (refine wpList_store_row rfl 33 (.tmp 12) (.tmp 27) rfl w5.heap.size (ranC m (.slice n5 m.out.length d5) (.slice m5 (memL m.mem).length c5)) rfl rfl 33 #[.int .i64 0, .int .i64 0, .slice none 0 0, .int .i64 0, .int .i64 0, .int .i64 0, .int .i64 0, .int .i64 0, .int .i64 0, .int .i64 0, .int .i64 0, .int .i64 0, .int .i64 0, .bool false, .bool false, .bool false, .bool false, .int .i64 0, .slice none 0 0] (heap_new _ _) Try.sizeRan rfl (ranC_one _ _ _ _ _ _ _) ?_; have SN := hideI (store_new w5 #[.int .i64 0, .int .i64 0, .slice none 0 0, .int .i64 0, .int .i64 0, .int .i64 0, .int .i64 0, .int .i64 0, .int .i64 0, .int .i64 0, .int .i64 0, .int .i64 0, .int .i64 0, .bool false, .bool false, .bool false, .bool false, .int .i64 0, .slice none 0 0] (ranC m (.slice n5 m.out.length d5) (.slice m5 (memL m.mem).length c5)) 33); have SH := hideI (store_heap w5 #[.int .i64 0, .int .i64 0, .slice none 0 0, .int .i64 0, .int .i64 0, .int .i64 0, .int .i64 0, .int .i64 0, .int .i64 0, .int .i64 0, .int .i64 0, .int .i64 0, .int .i64 0, .bool false, .bool false, .bool false, .bool false, .int .i64 0, .slice none 0 0] (ranC m (.slice n5 m.out.length d5) (.slice m5 (memL m.mem).length c5)) 33); generalize (w5.alloc (.cells #[.int .i64 0, .int .i64 0, .slice none 0 0, .int .i64 0, .int .i64 0, .int .i64 0, .int .i64 0, .int .i64 0, .int .i64 0, .int .i64 0, .int .i64 0, .int .i64 0, .int .i64 0, .bool false, .bool false, .bool false, .bool false, .int .i64 0, .slice none 0 0] 33)).setRow w5.heap.size (ranC m (.slice n5 m.out.length d5) (.slice m5 (memL m.mem).length c5)) = w6 at *)
      go_ret2
      exact ⟨(unhideI KK).trans ((unhideI SN).2.mono (unhideI KK).size), fun h => absurd h he, fun _ => rfl⟩
end Go.Proofs.Ytjlbenbfmookoaa
