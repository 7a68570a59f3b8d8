/-
  EmuLonger, walked.
-/
import Derived.Test.YtjlbenbfmookoaaEmuL
import Derived.Test.YtjlbenbfmookoaaAlive3
import Derived.Test.YtjlbenbfmookoaaRefT
namespace Go.Proofs.Ytjlbenbfmookoaa
open Go.RowKit
set_option linter.unusedSimpArgs false
set_option linter.unusedVariables false

theorem byts_take {w : World} {ao : Option Addr} {n k cap : Nat} {l l' : List Int} (h : Byts w (.slice ao n cap) l) (hk : k ≤ l.length) (e : l' = l.take k) : Byts w (.slice ao k cap) l' := by
  obtain ⟨h1, a, c, e1, h3, h4, h6, h5⟩ := h
  simp at e1
  obtain ⟨rfl, rfl, rfl⟩ := e1
  have hl : l'.length = k := by rw [e, List.length_take]; omega
  refine ⟨by simp, ao, cap, by rw [hl], by omega, h4, h6, fun hn => ?_⟩
  obtain ⟨b, off, rfl, hb, hc⟩ := h5 (by omega)
  refine ⟨b, off, rfl, hb, fun j hj => ?_⟩
  rw [hl] at hj
  rw [hc j (by omega), e, List.map_take, List.getElem?_take, if_pos (by omega)]
set_option maxRecDepth 100000 in
set_option maxHeartbeats 4000000 in
theorem walk_emuLonger (xs : List Int) (s : St) (bs : List Int) (F M : Int) (vc vm vi : Value) (w : World) (hc : Ints w vc xs) {P0 P3 P4 : Prop} (_ : P0) (hm : Ints w vm s.mem) (hi : Byts w vi bs) (hb : ∀ x ∈ bs, 0 ≤ x ∧ x ≤ 255) (_ : P3) (_ : P4) :
    Calls Try.prog 8 #[vc, s.val vm, vi, .int .i64 F, .int .i64 M] w fun e w' => e = .returned (.bool true) ∧ Below w.heap.size w w' := by
  have HC := hideI hc
  have HI := hideI hi
  have HM := hideI hm
  have RA := hideI (fun vc vm vi w hc hm hi => run_any xs s bs F vc vm vi w hc hm hi hb)
  have RB := hideI (fun vc vm vi w hc hm hi => run_any xs s bs M vc vm vi w hc hm hi hb)
  have HL := hideI (longer xs bs s F M)
  obtain ⟨co, ccap, rfl, _, _⟩ := hc.at
  obtain ⟨mo, mcap, rfl, _, _⟩ := hm.at
  obtain ⟨io, icap, rfl, _, _⟩ := hi.at
  clear hc hm hi hb
  generalize runA xs s bs F = A at *
  generalize runA xs s bs M = B at *
  obtain ⟨ma, ea⟩ := A
  obtain ⟨mb, eb⟩ := B
  dsimp only at RA RB HL
  unfold St.val at *
  by_cases h1 : ea = 0
  · subst h1
    by_cases h2 : M < F
    · have b2 : decide (M < F) = true := by simp [h2]
      unfold St.cells at *
      go_enter Try.func8, Try.ntmps8
      go_wp2_with fail
      refine (alive3 _).mono ?_
      rintro e w1 ⟨rfl, k1⟩
      have K1 := hideI (bt (below_a w (.cells #[.int .i64 (s.r 0), .int .i64 (s.r 1), .int .i64 (s.r 2), .int .i64 (s.r 3), .int .i64 (s.r 4), .int .i64 (s.r 5), .int .i64 (s.r 6), .int .i64 (s.r 7), .bool s.c, .bool s.z, .bool s.n, .bool s.v, .int .i64 s.pc, .slice mo s.mem.length mcap] 27)) k1)
      have SB := (Box.new w #[.int .i64 (s.r 0), .int .i64 (s.r 1), .int .i64 (s.r 2), .int .i64 (s.r 3), .int .i64 (s.r 4), .int .i64 (s.r 5), .int .i64 (s.r 6), .int .i64 (s.r 7), .bool s.c, .bool s.z, .bool s.n, .bool s.v, .int .i64 s.pc, .slice mo s.mem.length mcap] 27).step k1
      have s0 := SB.2.1 0 _ rfl
      have s1 := SB.2.1 1 _ rfl
      have s2 := SB.2.1 2 _ rfl
      have s3 := SB.2.1 3 _ rfl
      have s4 := SB.2.1 4 _ rfl
      have s5 := SB.2.1 5 _ rfl
      have s6 := SB.2.1 6 _ rfl
      have s7 := SB.2.1 7 _ rfl
      have s8 := SB.2.1 8 _ rfl
      have s9 := SB.2.1 9 _ rfl
      have s10 := SB.2.1 10 _ rfl
      have s11 := SB.2.1 11 _ rfl
      have s12 := SB.2.1 12 _ rfl
      have s13 := SB.2.1 13 _ rfl
      have HSB := hideI SB
      clear k1 SB
      go_wp2_with fail
      refine (unhideI RA _ _ _ _ ((unhideI HC).step (unhideI K1)) ((unhideI HM).step (unhideI K1)) (Lies.step (unhideI HI) (unhideI K1))).mono ?_
      rintro e w2 ⟨vo, vm, rfl, i2, o2, k2, _⟩
      have K2 := hideI (bt (unhideI K1) k2)
      have HS2 := hideI ((unhideI HSB).step k2)
      have I2 := hideI i2
      have O2 := hideI o2
      obtain ⟨m2, c2, rfl, _, _⟩ := i2.at
      obtain ⟨n2, d2, rfl, _, _⟩ := o2.at
      clear i2 o2 k2 s0 s1 s2 s3 s4 s5 s6 s7 s8 s9 s10 s11 s12 s13 HSB
      unfold ranV
      go_wp2_with (refine wpList_store_row rfl 33 (.tmp 11) (.tmp 22) rfl w2.heap.size (ranC ma (.slice n2 ma.out.length d2) (.slice m2 (memL ma.mem).length c2)) rfl rfl 33 #[.int .i64 0, .int .i64 0, .slice none 0 0, .int .i64 0, .int .i64 0, .int .i64 0, .int .i64 0, .int .i64 0, .int .i64 0, .int .i64 0, .int .i64 0, .int .i64 0, .int .i64 0, .bool false, .bool false, .bool false, .bool false, .int .i64 0, .slice none 0 0] (heap_new _ _) Try.sizeRan rfl (ranC_one _ _ _ _ _ _ _) ?_; have SN := hideI (store_new w2 #[.int .i64 0, .int .i64 0, .slice none 0 0, .int .i64 0, .int .i64 0, .int .i64 0, .int .i64 0, .int .i64 0, .int .i64 0, .int .i64 0, .int .i64 0, .int .i64 0, .int .i64 0, .bool false, .bool false, .bool false, .bool false, .int .i64 0, .slice none 0 0] (ranC ma (.slice n2 ma.out.length d2) (.slice m2 (memL ma.mem).length c2)) 33); generalize (w2.alloc (.cells #[.int .i64 0, .int .i64 0, .slice none 0 0, .int .i64 0, .int .i64 0, .int .i64 0, .int .i64 0, .int .i64 0, .int .i64 0, .int .i64 0, .int .i64 0, .int .i64 0, .int .i64 0, .bool false, .bool false, .bool false, .bool false, .int .i64 0, .slice none 0 0] 33)).setRow w2.heap.size (ranC ma (.slice n2 ma.out.length d2) (.slice m2 (memL ma.mem).length c2)) = w2s at *; have K3 := hideI (bt (unhideI K2) (unhideI SN).2))
      go_ret
      exact ⟨rfl, unhideI K3⟩
    · by_cases h3 : 1000000 < M
      · have b2 : decide (M < F) = false := by simp; omega
        have b3 : decide (1000000 < M) = true := by simp [h3]
        unfold St.cells at *
        go_enter Try.func8, Try.ntmps8
        go_wp2_with fail
        refine (alive3 _).mono ?_
        rintro e w1 ⟨rfl, k1⟩
        have K1 := hideI (bt (below_a w (.cells #[.int .i64 (s.r 0), .int .i64 (s.r 1), .int .i64 (s.r 2), .int .i64 (s.r 3), .int .i64 (s.r 4), .int .i64 (s.r 5), .int .i64 (s.r 6), .int .i64 (s.r 7), .bool s.c, .bool s.z, .bool s.n, .bool s.v, .int .i64 s.pc, .slice mo s.mem.length mcap] 27)) k1)
        have SB := (Box.new w #[.int .i64 (s.r 0), .int .i64 (s.r 1), .int .i64 (s.r 2), .int .i64 (s.r 3), .int .i64 (s.r 4), .int .i64 (s.r 5), .int .i64 (s.r 6), .int .i64 (s.r 7), .bool s.c, .bool s.z, .bool s.n, .bool s.v, .int .i64 s.pc, .slice mo s.mem.length mcap] 27).step k1
        have s0 := SB.2.1 0 _ rfl
        have s1 := SB.2.1 1 _ rfl
        have s2 := SB.2.1 2 _ rfl
        have s3 := SB.2.1 3 _ rfl
        have s4 := SB.2.1 4 _ rfl
        have s5 := SB.2.1 5 _ rfl
        have s6 := SB.2.1 6 _ rfl
        have s7 := SB.2.1 7 _ rfl
        have s8 := SB.2.1 8 _ rfl
        have s9 := SB.2.1 9 _ rfl
        have s10 := SB.2.1 10 _ rfl
        have s11 := SB.2.1 11 _ rfl
        have s12 := SB.2.1 12 _ rfl
        have s13 := SB.2.1 13 _ rfl
        have HSB := hideI SB
        clear k1 SB
        go_wp2_with fail
        refine (unhideI RA _ _ _ _ ((unhideI HC).step (unhideI K1)) ((unhideI HM).step (unhideI K1)) (Lies.step (unhideI HI) (unhideI K1))).mono ?_
        rintro e w2 ⟨vo, vm, rfl, i2, o2, k2, _⟩
        have K2 := hideI (bt (unhideI K1) k2)
        have HS2 := hideI ((unhideI HSB).step k2)
        have I2 := hideI i2
        have O2 := hideI o2
        obtain ⟨m2, c2, rfl, _, _⟩ := i2.at
        obtain ⟨n2, d2, rfl, _, _⟩ := o2.at
        clear i2 o2 k2 s0 s1 s2 s3 s4 s5 s6 s7 s8 s9 s10 s11 s12 s13 HSB
        unfold ranV
        go_wp2_with (refine wpList_store_row rfl 33 (.tmp 11) (.tmp 22) rfl w2.heap.size (ranC ma (.slice n2 ma.out.length d2) (.slice m2 (memL ma.mem).length c2)) rfl rfl 33 #[.int .i64 0, .int .i64 0, .slice none 0 0, .int .i64 0, .int .i64 0, .int .i64 0, .int .i64 0, .int .i64 0, .int .i64 0, .int .i64 0, .int .i64 0, .int .i64 0, .int .i64 0, .bool false, .bool false, .bool false, .bool false, .int .i64 0, .slice none 0 0] (heap_new _ _) Try.sizeRan rfl (ranC_one _ _ _ _ _ _ _) ?_; have SN := hideI (store_new w2 #[.int .i64 0, .int .i64 0, .slice none 0 0, .int .i64 0, .int .i64 0, .int .i64 0, .int .i64 0, .int .i64 0, .int .i64 0, .int .i64 0, .int .i64 0, .int .i64 0, .int .i64 0, .bool false, .bool false, .bool false, .bool false, .int .i64 0, .slice none 0 0] (ranC ma (.slice n2 ma.out.length d2) (.slice m2 (memL ma.mem).length c2)) 33); generalize (w2.alloc (.cells #[.int .i64 0, .int .i64 0, .slice none 0 0, .int .i64 0, .int .i64 0, .int .i64 0, .int .i64 0, .int .i64 0, .int .i64 0, .int .i64 0, .int .i64 0, .int .i64 0, .int .i64 0, .bool false, .bool false, .bool false, .bool false, .int .i64 0, .slice none 0 0] 33)).setRow w2.heap.size (ranC ma (.slice n2 ma.out.length d2) (.slice m2 (memL ma.mem).length c2)) = w2s at *; have K3 := hideI (bt (unhideI K2) (unhideI SN).2))
        go_ret
        exact ⟨rfl, unhideI K3⟩
      · have b2 : decide (M < F) = false := by simp; omega
        have b3 : decide (1000000 < M) = false := by simp; omega
        obtain ⟨g1, g2, g3, g4, g5, g6⟩ := unhideI HL rfl (by omega) (by omega)
        have G6 := hideI g6
        have G5 := hideI g5
        clear HL g5 g6
        subst g1
        have b7 : decide ((mb.out.length : Int) < ma.out.length) = false := by simp; omega
        have b8 : decide (mb.took < ma.took) = false := by simp; omega
        have b9 : decide ((mb.rd : Int) < ma.rd) = false := by simp; omega
        unfold St.cells at *
        by_cases h4 : ma.how = 3
        · have b10 : (ma.how != 3) = false := by simp [h4]
          obtain ⟨g7, g8⟩ := unhideI G6 h4
          have G8 := hideI g8
          have b11 : (ma.took == F) = true := by simp [g7]
          clear G6 G5 g8
          go_enter Try.func8, Try.ntmps8
          go_wp2_with fail
          refine (alive3 _).mono ?_
          rintro e w1 ⟨rfl, k1⟩
          have K1 := hideI (bt (below_a w (.cells #[.int .i64 (s.r 0), .int .i64 (s.r 1), .int .i64 (s.r 2), .int .i64 (s.r 3), .int .i64 (s.r 4), .int .i64 (s.r 5), .int .i64 (s.r 6), .int .i64 (s.r 7), .bool s.c, .bool s.z, .bool s.n, .bool s.v, .int .i64 s.pc, .slice mo s.mem.length mcap] 27)) k1)
          have SB := (Box.new w #[.int .i64 (s.r 0), .int .i64 (s.r 1), .int .i64 (s.r 2), .int .i64 (s.r 3), .int .i64 (s.r 4), .int .i64 (s.r 5), .int .i64 (s.r 6), .int .i64 (s.r 7), .bool s.c, .bool s.z, .bool s.n, .bool s.v, .int .i64 s.pc, .slice mo s.mem.length mcap] 27).step k1
          have s0 := SB.2.1 0 _ rfl
          have s1 := SB.2.1 1 _ rfl
          have s2 := SB.2.1 2 _ rfl
          have s3 := SB.2.1 3 _ rfl
          have s4 := SB.2.1 4 _ rfl
          have s5 := SB.2.1 5 _ rfl
          have s6 := SB.2.1 6 _ rfl
          have s7 := SB.2.1 7 _ rfl
          have s8 := SB.2.1 8 _ rfl
          have s9 := SB.2.1 9 _ rfl
          have s10 := SB.2.1 10 _ rfl
          have s11 := SB.2.1 11 _ rfl
          have s12 := SB.2.1 12 _ rfl
          have s13 := SB.2.1 13 _ rfl
          have HSB := hideI SB
          clear k1 SB
          go_wp2_with fail
          refine (unhideI RA _ _ _ _ ((unhideI HC).step (unhideI K1)) ((unhideI HM).step (unhideI K1)) (Lies.step (unhideI HI) (unhideI K1))).mono ?_
          rintro e w2 ⟨vo, vm, rfl, i2, o2, k2, _⟩
          have K2 := hideI (bt (unhideI K1) k2)
          have HS2 := hideI ((unhideI HSB).step k2)
          have I2 := hideI i2
          have O2 := hideI o2
          obtain ⟨m2, c2, rfl, _, _⟩ := i2.at
          obtain ⟨n2, d2, rfl, _, _⟩ := o2.at
          clear i2 o2 k2 s0 s1 s2 s3 s4 s5 s6 s7 s8 s9 s10 s11 s12 s13 HSB
          unfold ranV
          go_wp2_with (refine wpList_store_row rfl 33 (.tmp 11) (.tmp 22) rfl w2.heap.size (ranC ma (.slice n2 ma.out.length d2) (.slice m2 (memL ma.mem).length c2)) rfl rfl 33 #[.int .i64 0, .int .i64 0, .slice none 0 0, .int .i64 0, .int .i64 0, .int .i64 0, .int .i64 0, .int .i64 0, .int .i64 0, .int .i64 0, .int .i64 0, .int .i64 0, .int .i64 0, .bool false, .bool false, .bool false, .bool false, .int .i64 0, .slice none 0 0] (heap_new _ _) Try.sizeRan rfl (ranC_one _ _ _ _ _ _ _) ?_; have SNw2 := hideI (store_new w2 #[.int .i64 0, .int .i64 0, .slice none 0 0, .int .i64 0, .int .i64 0, .int .i64 0, .int .i64 0, .int .i64 0, .int .i64 0, .int .i64 0, .int .i64 0, .int .i64 0, .int .i64 0, .bool false, .bool false, .bool false, .bool false, .int .i64 0, .slice none 0 0] (ranC ma (.slice n2 ma.out.length d2) (.slice m2 (memL ma.mem).length c2)) 33); have HHw2 := hideI (store_heap w2 #[.int .i64 0, .int .i64 0, .slice none 0 0, .int .i64 0, .int .i64 0, .int .i64 0, .int .i64 0, .int .i64 0, .int .i64 0, .int .i64 0, .int .i64 0, .int .i64 0, .int .i64 0, .bool false, .bool false, .bool false, .bool false, .int .i64 0, .slice none 0 0] (ranC ma (.slice n2 ma.out.length d2) (.slice m2 (memL ma.mem).length c2)) 33); generalize (w2.alloc (.cells #[.int .i64 0, .int .i64 0, .slice none 0 0, .int .i64 0, .int .i64 0, .int .i64 0, .int .i64 0, .int .i64 0, .int .i64 0, .int .i64 0, .int .i64 0, .int .i64 0, .int .i64 0, .bool false, .bool false, .bool false, .bool false, .int .i64 0, .slice none 0 0] 33)).setRow w2.heap.size (ranC ma (.slice n2 ma.out.length d2) (.slice m2 (memL ma.mem).length c2)) = w2s at *; have K3 := hideI (bt (unhideI K2) (unhideI SNw2).2); have SB3 := (unhideI HS2).step (unhideI SNw2).2; have s0 := SB3.2.1 0 _ rfl; have s1 := SB3.2.1 1 _ rfl; have s2 := SB3.2.1 2 _ rfl; have s3 := SB3.2.1 3 _ rfl; have s4 := SB3.2.1 4 _ rfl; have s5 := SB3.2.1 5 _ rfl; have s6 := SB3.2.1 6 _ rfl; have s7 := SB3.2.1 7 _ rfl; have s8 := SB3.2.1 8 _ rfl; have s9 := SB3.2.1 9 _ rfl; have s10 := SB3.2.1 10 _ rfl; have s11 := SB3.2.1 11 _ rfl; have s12 := SB3.2.1 12 _ rfl; have s13 := SB3.2.1 13 _ rfl; clear SB3)
          refine (unhideI RB _ _ _ _ ((unhideI HC).step (unhideI K3)) ((unhideI HM).step (unhideI K3)) (Lies.step (unhideI HI) (unhideI K3))).mono ?_
          rintro e w4 ⟨vo4, vm4, rfl, i4, o4, k4, _⟩
          have K4 := hideI (bt (unhideI K3) k4)
          have A4 := hideI ((unhideI SNw2).1.step k4)
          have HA4 := hideI ((k4.block w2.heap.size (unhideI SNw2).1.1).trans (unhideI HHw2))
          have IA4 := hideI (((unhideI I2).step (unhideI SNw2).2).step k4)
          have OA4 := hideI (Lies.step (Lies.step (unhideI O2) (unhideI SNw2).2) k4)
          have I4 := hideI i4
          have O4 := hideI o4
          obtain ⟨m4, c4, rfl, _, _⟩ := i4.at
          obtain ⟨n4, d4, rfl, _, _⟩ := o4.at
          clear i4 o4 k4 s0 s1 s2 s3 s4 s5 s6 s7 s8 s9 s10 s11 s12 s13 HS2 SNw2
          unfold ranV
          go_wp2_with (refine wpList_store_row rfl 33 (.tmp 13) (.tmp 41) rfl w4.heap.size (ranC mb (.slice n4 mb.out.length d4) (.slice m4 (memL mb.mem).length c4)) rfl rfl 33 #[.int .i64 0, .int .i64 0, .slice none 0 0, .int .i64 0, .int .i64 0, .int .i64 0, .int .i64 0, .int .i64 0, .int .i64 0, .int .i64 0, .int .i64 0, .int .i64 0, .int .i64 0, .bool false, .bool false, .bool false, .bool false, .int .i64 0, .slice none 0 0] (heap_new _ _) Try.sizeRan rfl (ranC_one _ _ _ _ _ _ _) ?_; have SNw4 := hideI (store_new w4 #[.int .i64 0, .int .i64 0, .slice none 0 0, .int .i64 0, .int .i64 0, .int .i64 0, .int .i64 0, .int .i64 0, .int .i64 0, .int .i64 0, .int .i64 0, .int .i64 0, .int .i64 0, .bool false, .bool false, .bool false, .bool false, .int .i64 0, .slice none 0 0] (ranC mb (.slice n4 mb.out.length d4) (.slice m4 (memL mb.mem).length c4)) 33); have HHw4 := hideI (store_heap w4 #[.int .i64 0, .int .i64 0, .slice none 0 0, .int .i64 0, .int .i64 0, .int .i64 0, .int .i64 0, .int .i64 0, .int .i64 0, .int .i64 0, .int .i64 0, .int .i64 0, .int .i64 0, .bool false, .bool false, .bool false, .bool false, .int .i64 0, .slice none 0 0] (ranC mb (.slice n4 mb.out.length d4) (.slice m4 (memL mb.mem).length c4)) 33); generalize (w4.alloc (.cells #[.int .i64 0, .int .i64 0, .slice none 0 0, .int .i64 0, .int .i64 0, .int .i64 0, .int .i64 0, .int .i64 0, .int .i64 0, .int .i64 0, .int .i64 0, .int .i64 0, .int .i64 0, .bool false, .bool false, .bool false, .bool false, .int .i64 0, .slice none 0 0] 33)).setRow w4.heap.size (ranC mb (.slice n4 mb.out.length d4) (.slice m4 (memL mb.mem).length c4)) = w4s at *; have K5 := hideI (bt (unhideI K4) (unhideI SNw4).2); have PA := (unhideI A4).step (unhideI SNw4).2; have PB := (unhideI SNw4).1; have IA5 := hideI ((unhideI IA4).step (unhideI SNw4).2); have OA5 := hideI (Lies.step (unhideI OA4) (unhideI SNw4).2); have IB5 := hideI ((unhideI I4).step (unhideI SNw4).2); have OB5 := hideI (Lies.step (unhideI O4) (unhideI SNw4).2); have HA5 := hideI (((unhideI SNw4).2.block w2.heap.size (unhideI A4).1).trans (unhideI HA4)); have zA := PA.1; have zB := PB.1; have p0 := PA.2.1 0 _ rfl; have q0 := PB.2.1 0 _ rfl; have p2 := PA.2.1 2 _ rfl; have q2 := PB.2.1 2 _ rfl; have p3 := PA.2.1 3 _ rfl; have q3 := PB.2.1 3 _ rfl; have p4 := PA.2.1 4 _ rfl; have q4 := PB.2.1 4 _ rfl; clear PA PB SNw4)
          have OT := hideI (byts_take (unhideI OB5) g2 (unhideI G8))
          obtain ⟨_, n5, d5, e5, h5, h6, h7, _⟩ := unhideI OB5
          obtain ⟨rfl, rfl⟩ : n4 = n5 ∧ d4 = d5 := by simp at e5; exact e5
          have hcap : (ma.out.length : Int) ≤ d4 := by omega
          unfold maxLen at h6
          clear e5 h5
          cases n4 with
          | none =>
            have hd0 := h7 rfl
            subst hd0
            have hl0 : ma.out.length = 0 := by omega
            rw [hl0] at *
            refine wp_region_later (by kernel_rfl) (by kernel_rfl) ?_
            intro L hne lt hlc hlf hlm
            repeat (go_big_quiet_step ((go_at_call 21; exact later_call hlm (sameB_yes ma.out _ _ _ (Lies.step (unhideI OA5) (hlm.1 _)) (Lies.step (unhideI OT) (hlm.1 _))))))
            refine wpQuiet_nil ?_
            intro wq kq
            clear hlm hlf hlc lt hne L
            obtain ⟨hqc, hqf⟩ := below_cells kq
            go_wp2_with fail
            go_ret
            exact ⟨rfl, bt (unhideI K5) kq⟩
          | some ad =>
            refine wp_region_later (by kernel_rfl) (by kernel_rfl) ?_
            intro L hne lt hlc hlf hlm
            repeat (go_big_quiet_step ((go_at_call 21; exact later_call hlm (sameB_yes ma.out _ _ _ (Lies.step (unhideI OA5) (hlm.1 _)) (Lies.step (unhideI OT) (hlm.1 _))))))
            refine wpQuiet_nil ?_
            intro wq kq
            clear hlm hlf hlc lt hne L
            obtain ⟨hqc, hqf⟩ := below_cells kq
            go_wp2_with fail
            go_ret
            exact ⟨rfl, bt (unhideI K5) kq⟩
        · have b10 : (ma.how != 3) = true := by simp [h4]
          have e5 := unhideI G5 h4
          obtain rfl : mb = ma := (Prod.mk.inj e5).1
          clear G6 G5 e5
          go_enter Try.func8, Try.ntmps8
          go_wp2_with fail
          refine (alive3 _).mono ?_
          rintro e w1 ⟨rfl, k1⟩
          have K1 := hideI (bt (below_a w (.cells #[.int .i64 (s.r 0), .int .i64 (s.r 1), .int .i64 (s.r 2), .int .i64 (s.r 3), .int .i64 (s.r 4), .int .i64 (s.r 5), .int .i64 (s.r 6), .int .i64 (s.r 7), .bool s.c, .bool s.z, .bool s.n, .bool s.v, .int .i64 s.pc, .slice mo s.mem.length mcap] 27)) k1)
          have SB := (Box.new w #[.int .i64 (s.r 0), .int .i64 (s.r 1), .int .i64 (s.r 2), .int .i64 (s.r 3), .int .i64 (s.r 4), .int .i64 (s.r 5), .int .i64 (s.r 6), .int .i64 (s.r 7), .bool s.c, .bool s.z, .bool s.n, .bool s.v, .int .i64 s.pc, .slice mo s.mem.length mcap] 27).step k1
          have s0 := SB.2.1 0 _ rfl
          have s1 := SB.2.1 1 _ rfl
          have s2 := SB.2.1 2 _ rfl
          have s3 := SB.2.1 3 _ rfl
          have s4 := SB.2.1 4 _ rfl
          have s5 := SB.2.1 5 _ rfl
          have s6 := SB.2.1 6 _ rfl
          have s7 := SB.2.1 7 _ rfl
          have s8 := SB.2.1 8 _ rfl
          have s9 := SB.2.1 9 _ rfl
          have s10 := SB.2.1 10 _ rfl
          have s11 := SB.2.1 11 _ rfl
          have s12 := SB.2.1 12 _ rfl
          have s13 := SB.2.1 13 _ rfl
          have HSB := hideI SB
          clear k1 SB
          go_wp2_with fail
          refine (unhideI RA _ _ _ _ ((unhideI HC).step (unhideI K1)) ((unhideI HM).step (unhideI K1)) (Lies.step (unhideI HI) (unhideI K1))).mono ?_
          rintro e w2 ⟨vo, vm, rfl, i2, o2, k2, _⟩
          have K2 := hideI (bt (unhideI K1) k2)
          have HS2 := hideI ((unhideI HSB).step k2)
          have I2 := hideI i2
          have O2 := hideI o2
          obtain ⟨m2, c2, rfl, _, _⟩ := i2.at
          obtain ⟨n2, d2, rfl, _, _⟩ := o2.at
          clear i2 o2 k2 s0 s1 s2 s3 s4 s5 s6 s7 s8 s9 s10 s11 s12 s13 HSB
          unfold ranV
          go_wp2_with (refine wpList_store_row rfl 33 (.tmp 11) (.tmp 22) rfl w2.heap.size (ranC mb (.slice n2 mb.out.length d2) (.slice m2 (memL mb.mem).length c2)) rfl rfl 33 #[.int .i64 0, .int .i64 0, .slice none 0 0, .int .i64 0, .int .i64 0, .int .i64 0, .int .i64 0, .int .i64 0, .int .i64 0, .int .i64 0, .int .i64 0, .int .i64 0, .int .i64 0, .bool false, .bool false, .bool false, .bool false, .int .i64 0, .slice none 0 0] (heap_new _ _) Try.sizeRan rfl (ranC_one _ _ _ _ _ _ _) ?_; have SNw2 := hideI (store_new w2 #[.int .i64 0, .int .i64 0, .slice none 0 0, .int .i64 0, .int .i64 0, .int .i64 0, .int .i64 0, .int .i64 0, .int .i64 0, .int .i64 0, .int .i64 0, .int .i64 0, .int .i64 0, .bool false, .bool false, .bool false, .bool false, .int .i64 0, .slice none 0 0] (ranC mb (.slice n2 mb.out.length d2) (.slice m2 (memL mb.mem).length c2)) 33); have HHw2 := hideI (store_heap w2 #[.int .i64 0, .int .i64 0, .slice none 0 0, .int .i64 0, .int .i64 0, .int .i64 0, .int .i64 0, .int .i64 0, .int .i64 0, .int .i64 0, .int .i64 0, .int .i64 0, .int .i64 0, .bool false, .bool false, .bool false, .bool false, .int .i64 0, .slice none 0 0] (ranC mb (.slice n2 mb.out.length d2) (.slice m2 (memL mb.mem).length c2)) 33); generalize (w2.alloc (.cells #[.int .i64 0, .int .i64 0, .slice none 0 0, .int .i64 0, .int .i64 0, .int .i64 0, .int .i64 0, .int .i64 0, .int .i64 0, .int .i64 0, .int .i64 0, .int .i64 0, .int .i64 0, .bool false, .bool false, .bool false, .bool false, .int .i64 0, .slice none 0 0] 33)).setRow w2.heap.size (ranC mb (.slice n2 mb.out.length d2) (.slice m2 (memL mb.mem).length c2)) = w2s at *; have K3 := hideI (bt (unhideI K2) (unhideI SNw2).2); have SB3 := (unhideI HS2).step (unhideI SNw2).2; have s0 := SB3.2.1 0 _ rfl; have s1 := SB3.2.1 1 _ rfl; have s2 := SB3.2.1 2 _ rfl; have s3 := SB3.2.1 3 _ rfl; have s4 := SB3.2.1 4 _ rfl; have s5 := SB3.2.1 5 _ rfl; have s6 := SB3.2.1 6 _ rfl; have s7 := SB3.2.1 7 _ rfl; have s8 := SB3.2.1 8 _ rfl; have s9 := SB3.2.1 9 _ rfl; have s10 := SB3.2.1 10 _ rfl; have s11 := SB3.2.1 11 _ rfl; have s12 := SB3.2.1 12 _ rfl; have s13 := SB3.2.1 13 _ rfl; clear SB3)
          refine (unhideI RB _ _ _ _ ((unhideI HC).step (unhideI K3)) ((unhideI HM).step (unhideI K3)) (Lies.step (unhideI HI) (unhideI K3))).mono ?_
          rintro e w4 ⟨vo4, vm4, rfl, i4, o4, k4, _⟩
          have K4 := hideI (bt (unhideI K3) k4)
          have A4 := hideI ((unhideI SNw2).1.step k4)
          have HA4 := hideI ((k4.block w2.heap.size (unhideI SNw2).1.1).trans (unhideI HHw2))
          have IA4 := hideI (((unhideI I2).step (unhideI SNw2).2).step k4)
          have OA4 := hideI (Lies.step (Lies.step (unhideI O2) (unhideI SNw2).2) k4)
          have I4 := hideI i4
          have O4 := hideI o4
          obtain ⟨m4, c4, rfl, _, _⟩ := i4.at
          obtain ⟨n4, d4, rfl, _, _⟩ := o4.at
          clear i4 o4 k4 s0 s1 s2 s3 s4 s5 s6 s7 s8 s9 s10 s11 s12 s13 HS2 SNw2
          unfold ranV
          go_wp2_with (first | (refine wpList_store_row rfl 33 (.tmp 13) (.tmp 41) rfl w4.heap.size (ranC mb (.slice n4 mb.out.length d4) (.slice m4 (memL mb.mem).length c4)) rfl rfl 33 #[.int .i64 0, .int .i64 0, .slice none 0 0, .int .i64 0, .int .i64 0, .int .i64 0, .int .i64 0, .int .i64 0, .int .i64 0, .int .i64 0, .int .i64 0, .int .i64 0, .int .i64 0, .bool false, .bool false, .bool false, .bool false, .int .i64 0, .slice none 0 0] (heap_new _ _) Try.sizeRan rfl (ranC_one _ _ _ _ _ _ _) ?_; have SNw4 := hideI (store_new w4 #[.int .i64 0, .int .i64 0, .slice none 0 0, .int .i64 0, .int .i64 0, .int .i64 0, .int .i64 0, .int .i64 0, .int .i64 0, .int .i64 0, .int .i64 0, .int .i64 0, .int .i64 0, .bool false, .bool false, .bool false, .bool false, .int .i64 0, .slice none 0 0] (ranC mb (.slice n4 mb.out.length d4) (.slice m4 (memL mb.mem).length c4)) 33); have HHw4 := hideI (store_heap w4 #[.int .i64 0, .int .i64 0, .slice none 0 0, .int .i64 0, .int .i64 0, .int .i64 0, .int .i64 0, .int .i64 0, .int .i64 0, .int .i64 0, .int .i64 0, .int .i64 0, .int .i64 0, .bool false, .bool false, .bool false, .bool false, .int .i64 0, .slice none 0 0] (ranC mb (.slice n4 mb.out.length d4) (.slice m4 (memL mb.mem).length c4)) 33); generalize (w4.alloc (.cells #[.int .i64 0, .int .i64 0, .slice none 0 0, .int .i64 0, .int .i64 0, .int .i64 0, .int .i64 0, .int .i64 0, .int .i64 0, .int .i64 0, .int .i64 0, .int .i64 0, .int .i64 0, .bool false, .bool false, .bool false, .bool false, .int .i64 0, .slice none 0 0] 33)).setRow w4.heap.size (ranC mb (.slice n4 mb.out.length d4) (.slice m4 (memL mb.mem).length c4)) = w4s at *; have K5 := hideI (bt (unhideI K4) (unhideI SNw4).2); have PA := (unhideI A4).step (unhideI SNw4).2; have PB := (unhideI SNw4).1; have IA5 := hideI ((unhideI IA4).step (unhideI SNw4).2); have OA5 := hideI (Lies.step (unhideI OA4) (unhideI SNw4).2); have IB5 := hideI ((unhideI I4).step (unhideI SNw4).2); have OB5 := hideI (Lies.step (unhideI O4) (unhideI SNw4).2); have HA5 := hideI (((unhideI SNw4).2.block w2.heap.size (unhideI A4).1).trans (unhideI HA4)); have zA := PA.1; have zB := PB.1; have p0 := PA.2.1 0 _ rfl; have q0 := PB.2.1 0 _ rfl; have p2 := PA.2.1 2 _ rfl; have q2 := PB.2.1 2 _ rfl; have p3 := PA.2.1 3 _ rfl; have q3 := PB.2.1 3 _ rfl; have p4 := PA.2.1 4 _ rfl; have q4 := PB.2.1 4 _ rfl; clear PA PB SNw4) | (refine wpList_load_row rfl 33 (.tmp 11) rfl w2.heap.size rfl 33 (ranC mb (.slice n2 mb.out.length d2) (.slice m2 (memL mb.mem).length c2)) (0, 0) _ (unhideI HA5) Try.underlying33 rfl Try.sizeRan ?_) | (refine wpList_load_row rfl 33 (.tmp 13) rfl w4.heap.size rfl 33 (ranC mb (.slice n4 mb.out.length d4) (.slice m4 (memL mb.mem).length c4)) (0, 0) _ (unhideI HHw4) Try.underlying33 rfl Try.sizeRan ?_))
          refine (sameR_yes mb (memL mb.mem) _ _ _ _ _ (unhideI IA5) (unhideI IB5) (unhideI OA5) (unhideI OB5)).mono ?_
          rintro e w6 ⟨rfl, k6⟩
          go_wp2_with fail
          go_ret
          exact ⟨rfl, bt (unhideI K5) k6⟩
  · have b1 : (ea != 0) = true := by simp [h1]
    unfold St.cells at *
    go_enter Try.func8, Try.ntmps8
    go_wp2_with fail
    refine (alive3 _).mono ?_
    rintro e w1 ⟨rfl, k1⟩
    have K1 := hideI (bt (below_a w (.cells #[.int .i64 (s.r 0), .int .i64 (s.r 1), .int .i64 (s.r 2), .int .i64 (s.r 3), .int .i64 (s.r 4), .int .i64 (s.r 5), .int .i64 (s.r 6), .int .i64 (s.r 7), .bool s.c, .bool s.z, .bool s.n, .bool s.v, .int .i64 s.pc, .slice mo s.mem.length mcap] 27)) k1)
    have SB := (Box.new w #[.int .i64 (s.r 0), .int .i64 (s.r 1), .int .i64 (s.r 2), .int .i64 (s.r 3), .int .i64 (s.r 4), .int .i64 (s.r 5), .int .i64 (s.r 6), .int .i64 (s.r 7), .bool s.c, .bool s.z, .bool s.n, .bool s.v, .int .i64 s.pc, .slice mo s.mem.length mcap] 27).step k1
    have s0 := SB.2.1 0 _ rfl
    have s1 := SB.2.1 1 _ rfl
    have s2 := SB.2.1 2 _ rfl
    have s3 := SB.2.1 3 _ rfl
    have s4 := SB.2.1 4 _ rfl
    have s5 := SB.2.1 5 _ rfl
    have s6 := SB.2.1 6 _ rfl
    have s7 := SB.2.1 7 _ rfl
    have s8 := SB.2.1 8 _ rfl
    have s9 := SB.2.1 9 _ rfl
    have s10 := SB.2.1 10 _ rfl
    have s11 := SB.2.1 11 _ rfl
    have s12 := SB.2.1 12 _ rfl
    have s13 := SB.2.1 13 _ rfl
    have HSB := hideI SB
    clear k1 SB
    go_wp2_with fail
    refine (unhideI RA _ _ _ _ ((unhideI HC).step (unhideI K1)) ((unhideI HM).step (unhideI K1)) (Lies.step (unhideI HI) (unhideI K1))).mono ?_
    rintro e w2 ⟨vo, vm, rfl, i2, o2, k2, _⟩
    have K2 := hideI (bt (unhideI K1) k2)
    have HS2 := hideI ((unhideI HSB).step k2)
    have I2 := hideI i2
    have O2 := hideI o2
    obtain ⟨m2, c2, rfl, _, _⟩ := i2.at
    obtain ⟨n2, d2, rfl, _, _⟩ := o2.at
    clear i2 o2 k2 s0 s1 s2 s3 s4 s5 s6 s7 s8 s9 s10 s11 s12 s13 HSB
    unfold ranV
    go_wp2_with (refine wpList_store_row rfl 33 (.tmp 11) (.tmp 22) rfl w2.heap.size (ranC ma (.slice n2 ma.out.length d2) (.slice m2 (memL ma.mem).length c2)) rfl rfl 33 #[.int .i64 0, .int .i64 0, .slice none 0 0, .int .i64 0, .int .i64 0, .int .i64 0, .int .i64 0, .int .i64 0, .int .i64 0, .int .i64 0, .int .i64 0, .int .i64 0, .int .i64 0, .bool false, .bool false, .bool false, .bool false, .int .i64 0, .slice none 0 0] (heap_new _ _) Try.sizeRan rfl (ranC_one _ _ _ _ _ _ _) ?_; have SN := hideI (store_new w2 #[.int .i64 0, .int .i64 0, .slice none 0 0, .int .i64 0, .int .i64 0, .int .i64 0, .int .i64 0, .int .i64 0, .int .i64 0, .int .i64 0, .int .i64 0, .int .i64 0, .int .i64 0, .bool false, .bool false, .bool false, .bool false, .int .i64 0, .slice none 0 0] (ranC ma (.slice n2 ma.out.length d2) (.slice m2 (memL ma.mem).length c2)) 33); generalize (w2.alloc (.cells #[.int .i64 0, .int .i64 0, .slice none 0 0, .int .i64 0, .int .i64 0, .int .i64 0, .int .i64 0, .int .i64 0, .int .i64 0, .int .i64 0, .int .i64 0, .int .i64 0, .int .i64 0, .bool false, .bool false, .bool false, .bool false, .int .i64 0, .slice none 0 0] 33)).setRow w2.heap.size (ranC ma (.slice n2 ma.out.length d2) (.slice m2 (memL ma.mem).length c2)) = w2s at *; have K3 := hideI (bt (unhideI K2) (unhideI SN).2))
    go_ret
    exact ⟨rfl, unhideI K3⟩
end Go.Proofs.Ytjlbenbfmookoaa
