/-
  EmuCarries at 32 bits, walked.
-/
import Derived.Test.YtjlbenbfmookoabEmuCarries0
namespace Go.Proofs.Ytjlbenbfmookoab
open Go.RowKit
set_option linter.unusedSimpArgs false
set_option linter.unusedVariables false

set_option maxRecDepth 100000 in
set_option maxHeartbeats 4000000 in
theorem carries_32 (a b : Int) (w : World) (ha : U a) (hb : U b) :
    Calls Try.prog 4 #[.int .u64 a, .int .u64 b, .int .i64 32] w fun e w' => e = .returned (.bool true) ∧ Below w.heap.size w w' := by
  obtain ⟨i0, hi, hz0, hz1, hz2⟩ := info_parts Try.infoInstr
  have hw2 : Wid2 2 32 := by simp [Wid2]
  have hw := hw2.wid
  have SPa := fun w => split_n hw a w ha
  have SPb := fun w => split_n hw b w hb
  have HX := hideI (fun i => w16_wd (cut 32 a) i)
  have HY := hideI (fun i => w16_wd (cut 32 b) i)
  have CS := hideI (car_sum hw2 a b)
  have CD := hideI (car_dif hw2 a b)
  have CC := hideI (car_cmp hw2 a b)
  have HXL : Hid (wsL 2 (cut 32 a) = (List.range 2).map (w16 (cut 32 a))) := rfl
  have HYL : Hid (wsL 2 (cut 32 b) = (List.range 2).map (w16 (cut 32 b))) := rfl
  generalize wsL 2 (cut 32 a) = xl at *
  generalize w16 (cut 32 a) = x at *
  generalize wsL 2 (cut 32 b) = yl at *
  generalize w16 (cut 32 b) = y at *
  go_enter Try.func4, Try.ntmps4
  go_wp2_with fail
  refine (alive3 _).mono ?_
  rintro e w1 ⟨rfl, k1⟩
  have K1 := hideI k1
  clear k1
  go_wp2_with fail
  refine (SPa _).mono ?_
  rintro e w2 ⟨rfl, i2, k2⟩
  have XI := hideI i2
  have K2 := hideI (bt (unhideI K1) k2)
  clear i2 k2
  go_wp2_with fail
  refine (SPb _).mono ?_
  rintro e w3 ⟨rfl, i3, k3⟩
  have YI := hideI i3
  have X3 := hideI (Ints.step (unhideI XI) k3)
  have K3 := hideI (bt (unhideI K2) k3)
  clear i3 k3 SPa SPb XI K1 K2
  go_wp2_with fail
  have TB := hideI (Box.new w3 #[.int .i64 5, .int .i64 6, .int .i64 7, .int .i64 8, .int .i64 12, .int .i64 13] 41)
  have KW := hideI (below_a w3 (.cells #[.int .i64 5, .int .i64 6, .int .i64 7, .int .i64 8, .int .i64 12, .int .i64 13] 41))
  have hs4 : (w3.alloc (.cells #[.int .i64 5, .int .i64 6, .int .i64 7, .int .i64 8, .int .i64 12, .int .i64 13] 41)).heap.size = w3.heap.size + 1 := by simp
  have lx := ints_lt (unhideI X3) w1.heap.size (by rw [unhideI HXL]; simp) rfl
  have ly := ints_lt (unhideI YI) w2.heap.size (by rw [unhideI HYL]; simp) rfl
  generalize w3.alloc (.cells #[.int .i64 5, .int .i64 6, .int .i64 7, .int .i64 8, .int .i64 12, .int .i64 13] 41) = W4 at *
  go_loopg [55] 3 (fun g t wr => ∃ k : Nat, k ≤ 3 ∧ g = 3 - k ∧ t = .int .i64 k ∧ Hid (Below W4.heap.size W4 wr))
  case atStart => exact ⟨0, by decide, rfl, rfl, Below.refl _ _⟩
  case round =>
    obtain ⟨k, hk, hgk, rfl, hb4⟩ := hrel
    have TBr := (unhideI TB).step (unhideI hb4)
    have t0 := TBr.2.1 0 _ rfl
    have t1 := TBr.2.1 1 _ rfl
    have t2 := TBr.2.1 2 _ rfl
    have t3 := TBr.2.1 3 _ rfl
    have t4 := TBr.2.1 4 _ rfl
    have t5 := TBr.2.1 5 _ rfl
    have ltb := TBr.1
    have hz4 := (unhideI hb4).size
    clear TBr
    have hk4 : k = 0 ∨ k = 1 ∨ k = 2 ∨ k = 3 := by omega
    rcases hk4 with rfl | rfl | rfl | rfl
    · go_wp2_with fail
      have OB := hideI ((Box.new wr #[.int .i64 5, .int .i64 6] 41).step (below_a _ (.cells #[.int .i64 0, .int .i64 0, .int .i64 0, .int .i64 0, .int .i64 0, .int .i64 0, .int .i64 0, .int .i64 0, .bool false, .bool false, .bool false, .bool false, .int .i64 0, .slice none 0 0] 27)))
      have SB : Hid (Box ((wr.alloc (.cells #[.int .i64 5, .int .i64 6] 41)).alloc (.cells #[.int .i64 0, .int .i64 0, .int .i64 0, .int .i64 0, .int .i64 0, .int .i64 0, .int .i64 0, .int .i64 0, .bool false, .bool false, .bool false, .bool false, .int .i64 0, .slice none 0 0] 27)) (wr.heap.size + 1) (stL (crg x y 0))) := by
        have h := Box.new (wr.alloc (.cells #[.int .i64 5, .int .i64 6] 41)) #[.int .i64 0, .int .i64 0, .int .i64 0, .int .i64 0, .int .i64 0, .int .i64 0, .int .i64 0, .int .i64 0, .bool false, .bool false, .bool false, .bool false, .int .i64 0, .slice none 0 0] 27
        rw [World.size_alloc] at h
        exact h
      have KI := hideI (bt (unhideI hb4) (bt (below_a wr (.cells #[.int .i64 5, .int .i64 6] 41)) (below_a _ (.cells #[.int .i64 0, .int .i64 0, .int .i64 0, .int .i64 0, .int .i64 0, .int .i64 0, .int .i64 0, .int .i64 0, .bool false, .bool false, .bool false, .bool false, .int .i64 0, .slice none 0 0] 27))))
      have hsi : ((wr.alloc (.cells #[.int .i64 5, .int .i64 6] 41)).alloc (.cells #[.int .i64 0, .int .i64 0, .int .i64 0, .int .i64 0, .int .i64 0, .int .i64 0, .int .i64 0, .int .i64 0, .bool false, .bool false, .bool false, .bool false, .int .i64 0, .slice none 0 0] 27)).heap.size = wr.heap.size + 2 := by simp
      generalize (wr.alloc (.cells #[.int .i64 5, .int .i64 6] 41)).alloc (.cells #[.int .i64 0, .int .i64 0, .int .i64 0, .int .i64 0, .int .i64 0, .int .i64 0, .int .i64 0, .int .i64 0, .bool false, .bool false, .bool false, .bool false, .int .i64 0, .slice none 0 0] 27) = Wi at *
      clear t0 t1 t2 t3 t4 t5 ltb hb4
      generalize wr.heap.size = B at *
      go_loopg [14, 62] 2 (fun g p t ws => ∃ i : Nat, i ≤ 2 ∧ g = 2 - i ∧ t = .int .i64 i ∧ Hid (OwnI ws (B + 2) p i (carI 5 6 i)) ∧ Hid (Box ws (B + 1) (stL (crg x y i))) ∧ Hid (Box ws B [.int .i64 5, .int .i64 6]) ∧ Hid (Below W4.heap.size W4 ws))
      case atStart => exact ⟨0, Nat.zero_le _, rfl, rfl, World.ownsRow_nil _ _ _ _, SB, OB, KI⟩
      case round =>
        obtain ⟨i, hin, hgi, rfl, hp, hbx, hob, hbl⟩ := hrel
        clear SB OB KI
        have hzs := (unhideI hbx).1
        have fz := (unhideI hbx).2.2
        obtain ⟨o0, o1⟩ := (unhideI hob).at2
        have hzo := (unhideI hob).1
        have hzb := (unhideI hbl).size
        by_cases hlt : i < 2
        · have kx := bt (unhideI KW) (unhideI hbl)
          have cx := ws_cell (unhideI HXL) (Ints.step (unhideI X3) kx) i hlt
          have cy := ws_cell (unhideI HYL) (Ints.step (unhideI YI) kx) i hlt
          clear kx
          have c8 := (unhideI hbx).2.1 i _ (stL_at (crg x y i) i (by omega))
          have c9 := (unhideI hbx).2.1 (2 + i) _ (stL_at (crg x y i) (2 + i) (by omega))
          generalize crg x y i i = r8 at c8
          generalize crg x y i (2 + i) = r9 at c9
          have hne1 : w1.heap.size ≠ B + 1 := by omega
          have hne2 : w2.heap.size ≠ B + 1 := by omega
          have hix1 : (2 + (i : Int)).toNat = 2 + i := by omega
          have hix2 : (2 + (i : Int)) < 8 := by omega
          have hix3 : (0 : Int) ≤ 2 + (i : Int) := by omega
          have hix4 : (i : Int) < 8 := by omega
          have hix5 : (i : Int) < 2 := by omega
          have hii : i ≠ 2 + i := by omega
          have hix6 : IntKind.i64.wrap (2 + (i : Int)) = 2 + (i : Int) := by rw [IntKind.wrap_i64]; omega
          have hix7 : decide ((2 + (i : Int)) < 8) = true := by simp; omega
          have hix8 : decide ((0 : Int) ≤ 2 + (i : Int)) = true := by simp; omega
          go_wp2_with fail
          refine reg_start (fun W => W.cell? ⟨w1.heap.size, i, none⟩ = some (.int .i64 (x i)) ∧ W.cell? ⟨w2.heap.size, i, none⟩ = some (.int .i64 (y i))) (by kernel_rfl) ?_
          refine reg_seg 0 13 4 (by kernel_rfl) (by decide) (by kernel_rfl) (by kernel_rfl) (fun _ _ _ _ _ h => h) ?_
          simp only [List.take_succ_cons, List.take_zero, List.drop_succ_cons, List.drop_zero]
          repeat (refine wpSteady_step (fun K hK => ?_); go_simp; first | (refine steady_of ?_ (fun W hW => ?_) (hK _ ?_); rotate_left; (obtain ⟨h1, h2⟩ := hW; go_simp; first | done | rfl); clear hK K) | (refine hK _ ?_; clear hK K))
          refine wpSteady_nil ?_
          refine reg_seg 14 1 3 (by kernel_rfl) (by decide) (by kernel_rfl) (by kernel_rfl) (fun _ _ _ _ _ h => h) ?_
          simp only [List.take_succ_cons, List.take_zero, List.drop_succ_cons, List.drop_zero]
          repeat (refine wpSteady_step (fun K hK => ?_); go_simp; first | (refine steady_of ?_ (fun W hW => ?_) (hK _ ?_); rotate_left; (obtain ⟨h1, h2⟩ := hW; go_simp; first | done | rfl); clear hK K) | (refine hK _ ?_; clear hK K))
          refine wpSteady_nil ?_
          refine reg_one 13 2 (by kernel_rfl) (by kernel_rfl) ⟨cx, cy⟩ ?_
          simp only [List.take_succ_cons, List.take_zero, List.drop_succ_cons, List.drop_zero]
          go_wp2_with fail
          first | refine next_nil ?_ | refine next_go ?_
          have cx1 := (World.cell?_of_block (w := wr) (a := ⟨w1.heap.size, i, none⟩) (Below.heap_setCell wr ⟨B + 1, i, none⟩ (.int .i64 (x i)) w1.heap.size hne1)).trans cx
          have cy1 := (World.cell?_of_block (w := wr) (a := ⟨w2.heap.size, i, none⟩) (Below.heap_setCell wr ⟨B + 1, i, none⟩ (.int .i64 (x i)) w2.heap.size hne2)).trans cy
          refine reg_seg 15 1 1 (by kernel_rfl) (by decide) (by kernel_rfl) (by kernel_rfl) (fun _ _ _ _ _ h => h) ?_
          simp only [List.take_succ_cons, List.take_zero, List.drop_succ_cons, List.drop_zero]
          repeat (refine wpSteady_step (fun K hK => ?_); go_simp; first | (refine steady_of ?_ (fun W hW => ?_) (hK _ ?_); rotate_left; (obtain ⟨h1, h2⟩ := hW; go_simp; first | done | rfl); clear hK K) | (refine hK _ ?_; clear hK K))
          refine wpSteady_nil ?_
          refine reg_one 16 0 (by kernel_rfl) (by kernel_rfl) ⟨cx1, cy1⟩ ?_
          simp only [List.take_succ_cons, List.take_zero, List.drop_succ_cons, List.drop_zero]
          go_wp2_with fail
          first | refine next_nil ?_ | refine next_go ?_
          have cx2 := (World.cell?_of_block (w := wr.setCell ⟨B + 1, i, none⟩ (.int .i64 (x i))) (a := ⟨w1.heap.size, i, none⟩) (Below.heap_setCell _ ⟨B + 1, 2 + i, none⟩ (.int .i64 (y i)) w1.heap.size hne1)).trans cx1
          have cy2 := (World.cell?_of_block (w := wr.setCell ⟨B + 1, i, none⟩ (.int .i64 (x i))) (a := ⟨w2.heap.size, i, none⟩) (Below.heap_setCell _ ⟨B + 1, 2 + i, none⟩ (.int .i64 (y i)) w2.heap.size hne2)).trans cy1
          refine reg_end (by kernel_rfl) ⟨cx2, cy2⟩ ?_
          have BX2 := hideI (Box.drew (box_two (unhideI hbx) (by omega)))
          have OB2 := hideI (Box.drew (((unhideI hob).other (b' := B + 1) (j := i) (u := .int .i64 (x i)) (by omega)).other (b' := B + 1) (j := 2 + i) (u := .int .i64 (y i)) (by omega)))
          have HP2 := hideI (show OwnI ((wr.setCell ⟨B + 1, i, none⟩ (.int .i64 (x i))).setCell ⟨B + 1, 2 + i, none⟩ (.int .i64 (y i))).drew (B + 2) _ i (carI 5 6 i) from World.ownsRow.drew (ownsRow_setCell_below (ownsRow_setCell_below (unhideI hp) (by simp) _) (by simp) _))
          have BL2 := hideI ((((unhideI hbl).setCell (p := ⟨B + 1, i, none⟩) (by show W4.heap.size ≤ B + 1; omega) (.int .i64 (x i))).setCell (p := ⟨B + 1, 2 + i, none⟩) (by show W4.heap.size ≤ B + 1; omega) (.int .i64 (y i))).drew)
          have hsy : (((wr.setCell ⟨B + 1, i, none⟩ (.int .i64 (x i))).setCell ⟨B + 1, 2 + i, none⟩ (.int .i64 (y i))).drew).heap.size = wr.heap.size := by show ((wr.setCell ⟨B + 1, i, none⟩ (.int .i64 (x i))).setCell ⟨B + 1, 2 + i, none⟩ (.int .i64 (y i))).heap.size = _; simp [World.setCell]
          generalize ((wr.setCell ⟨B + 1, i, none⟩ (.int .i64 (x i))).setCell ⟨B + 1, 2 + i, none⟩ (.int .i64 (y i))).drew = wy at *
          obtain ⟨oo0, oo1⟩ := (unhideI OB2).at2
          have hzy := (unhideI OB2).1
          clear o0 o1 c8 c9 cx cy cx1 cy1 cx2 cy2 fz hbx hob hp hbl
          by_cases hi0 : i = 0
          · have bi : decide ((0 : Int) < (i : Int)) = false := by simp [hi0]
            have bn : ¬ (0 < i) := by omega
            have bm : decide (0 < i) = false := decide_eq_false bn
            have HI0 := hideI hi0
            clear hi0
            have HP8 := hideI ((unhideI HP2).new (.cells #[.int .i64 5, .int .i64 i, .int .i64 (2 + i), .int .i64 0] 45))
            go_wp2_with (at_builtin; refine wpList_append_lies _ rfl (.tmp 86) (.tmp 92) 43 rfl (B + 2) 45 i0 (.agg #[.int .i64 0, .int .i64 0, .int .i64 0, .int .i64 0]) 4 32 Try.underlying43 hi hz0 hz1 hz2 rfl (by decide) _ _ _ rfl (unhideI HP8) ⟨_, 0, none⟩ 1 1 [.int .i64 5, .int .i64 i, .int .i64 (2 + i), .int .i64 0] rfl rfl (new_c1 _ #[.int .i64 5, .int .i64 i, .int .i64 (2 + i), .int .i64 0] _ _ hsy.symm) (by simp [Value.oneCell']) (by decide) (by unfold maxLen; omega) (by omega) (by simp; omega) _ rfl ?_; intro g3 c3 w3' own3 grow3 at3 lt3; have P3 := hideI (show OwnI w3' (B + 2) (.slice (some ⟨g3, 0, none⟩) (i + 1) c3) (i + 1) (carI 5 6 (i + 1)) by unfold OwnI; rw [carI_snoc, if_pos (unhideI HI0)]; exact own3); have B3 := hideI (Box.grown ((unhideI BX2).step (below_a _ _)) grow3 (fun e => by have := (own_lt (unhideI HP8) _ e.symm).1; omega)); have O3 := hideI (Box.grown ((unhideI OB2).step (below_a _ _)) grow3 (fun e => by have := (own_lt (unhideI HP8) _ e.symm).1; omega)); have KB3 := hideI (Below.grown ((unhideI BL2).alloc (by omega) _) grow3 (by simp; omega) (fun j hj => by have := (own_lt (unhideI HP8) _ hj).1; omega)); clear own3 grow3 at3)
            go_roundg (2 - (i + 1))
            case measure => omega
            case rel => exact ⟨i + 1, by omega, rfl, by go_num, P3, B3, O3, KB3⟩
          · have bi : decide ((0 : Int) < (i : Int)) = true := by simp; omega
            have bn : 0 < i := by omega
            have bm : decide (0 < i) = true := decide_eq_true bn
            have HI0 := hideI hi0
            clear hi0
            have HP8 := hideI ((unhideI HP2).new (.cells #[.int .i64 6, .int .i64 i, .int .i64 (2 + i), .int .i64 0] 45))
            go_wp2_with (at_builtin; refine wpList_append_lies _ rfl (.tmp 86) (.tmp 92) 43 rfl (B + 2) 45 i0 (.agg #[.int .i64 0, .int .i64 0, .int .i64 0, .int .i64 0]) 4 32 Try.underlying43 hi hz0 hz1 hz2 rfl (by decide) _ _ _ rfl (unhideI HP8) ⟨_, 0, none⟩ 1 1 [.int .i64 6, .int .i64 i, .int .i64 (2 + i), .int .i64 0] rfl rfl (new_c1 _ #[.int .i64 6, .int .i64 i, .int .i64 (2 + i), .int .i64 0] _ _ hsy.symm) (by simp [Value.oneCell']) (by decide) (by unfold maxLen; omega) (by omega) (by simp; omega) _ rfl ?_; intro g3 c3 w3' own3 grow3 at3 lt3; have P3 := hideI (show OwnI w3' (B + 2) (.slice (some ⟨g3, 0, none⟩) (i + 1) c3) (i + 1) (carI 5 6 (i + 1)) by unfold OwnI; rw [carI_snoc, if_neg (unhideI HI0)]; exact own3); have B3 := hideI (Box.grown ((unhideI BX2).step (below_a _ _)) grow3 (fun e => by have := (own_lt (unhideI HP8) _ e.symm).1; omega)); have O3 := hideI (Box.grown ((unhideI OB2).step (below_a _ _)) grow3 (fun e => by have := (own_lt (unhideI HP8) _ e.symm).1; omega)); have KB3 := hideI (Below.grown ((unhideI BL2).alloc (by omega) _) grow3 (by simp; omega) (fun j hj => by have := (own_lt (unhideI HP8) _ hj).1; omega)); clear own3 grow3 at3)
            go_roundg (2 - (i + 1))
            case measure => omega
            case rel => exact ⟨i + 1, by omega, rfl, by go_num, P3, B3, O3, KB3⟩
        · have hkn : i = 2 := by omega
          subst hkn
          have st := unhideI hbx
          have s0 := st.2.1 0 _ rfl
          have s1 := st.2.1 1 _ rfl
          have s2 := st.2.1 2 _ rfl
          have s3 := st.2.1 3 _ rfl
          have s4 := st.2.1 4 _ rfl
          have s5 := st.2.1 5 _ rfl
          have s6 := st.2.1 6 _ rfl
          have s7 := st.2.1 7 _ rfl
          have s8 := st.2.1 8 _ rfl
          have s9 := st.2.1 9 _ rfl
          have s10 := st.2.1 10 _ rfl
          have s11 := st.2.1 11 _ rfl
          have s12 := st.2.1 12 _ rfl
          have s13 := st.2.1 13 _ rfl
          clear st
          obtain ⟨rt1, rt2⟩ := carI_right 5 6 (by decide) (by decide) 2 (by decide)
          have R1 := hideI (fun v B w ho hB => lawRun_any (carI 5 6 2) (carS x y 2) (.slice none 0 0) v B w ho hB (Lies.nil _ _) (fun _ h => absurd rfl h) rt1 rt2 (by rw [carI_len]; decide) (carS_wrong (unhideI HX) (unhideI HY) 2) rfl)
          have HQ := hideI (unhideI CS)
          have HD := hideI (car_wd hw2 x y 5 6 (.inl ⟨rfl, rfl⟩))
          clear rt1 rt2 CS CD CC
          generalize endM ((startM (carS x y 2)).line [] (carI 5 6 2)) = m1 at *
          rw [carI_len] at R1
          unfold St.val St.cells carS at R1
          dsimp only at R1
          go_wp2_with fail
          refine (unhideI R1 _ (B + 2) _ (unhideI hp) (by omega)).mono ?_
          rintro e w6 ⟨vo6, vm6, rfl, i6, o6, g6⟩
          have KB6 := hideI (Below.grown (unhideI hbl) g6 (by omega) (fun j hj => by have := (own_lt (unhideI hp) _ hj).1; omega))
          obtain ⟨m6, c6, rfl, _, _⟩ := i6.at
          obtain ⟨n6, d6, rfl, _, _⟩ := o6.at
          clear i6 o6 g6 R1 s0 s1 s2 s3 s4 s5 s6 s7 s8 s9 s10 s11 s12 s13 hbx hob hp hbl fz o0 o1
          unfold ranV
          go_wp2_with (refine wpList_store_row rfl 31 (.tmp 17) (.tmp 99) rfl w6.heap.size (ranC m1 (.slice n6 m1.out.length d6) (.slice m6 (memL m1.mem).length c6)) rfl rfl 31 #[.int .i64 0, .int .i64 0, .slice none 0 0, .int .i64 0, .int .i64 0, .int .i64 0, .int .i64 0, .int .i64 0, .int .i64 0, .int .i64 0, .int .i64 0, .int .i64 0, .int .i64 0, .bool false, .bool false, .bool false, .bool false, .int .i64 0, .slice none 0 0] (heap_new _ _) Try.sizeRan rfl (ranC_one _ _ _ _ _ _ _) ?_; have SN := hideI (store_new w6 #[.int .i64 0, .int .i64 0, .slice none 0 0, .int .i64 0, .int .i64 0, .int .i64 0, .int .i64 0, .int .i64 0, .int .i64 0, .int .i64 0, .int .i64 0, .int .i64 0, .int .i64 0, .bool false, .bool false, .bool false, .bool false, .int .i64 0, .slice none 0 0] (ranC m1 (.slice n6 m1.out.length d6) (.slice m6 (memL m1.mem).length c6)) 31); have SH := hideI (store_heap w6 #[.int .i64 0, .int .i64 0, .slice none 0 0, .int .i64 0, .int .i64 0, .int .i64 0, .int .i64 0, .int .i64 0, .int .i64 0, .int .i64 0, .int .i64 0, .int .i64 0, .int .i64 0, .bool false, .bool false, .bool false, .bool false, .int .i64 0, .slice none 0 0] (ranC m1 (.slice n6 m1.out.length d6) (.slice m6 (memL m1.mem).length c6)) 31); generalize (w6.alloc (.cells #[.int .i64 0, .int .i64 0, .slice none 0 0, .int .i64 0, .int .i64 0, .int .i64 0, .int .i64 0, .int .i64 0, .int .i64 0, .int .i64 0, .int .i64 0, .int .i64 0, .int .i64 0, .bool false, .bool false, .bool false, .bool false, .int .i64 0, .slice none 0 0] 31)).setRow w6.heap.size (ranC m1 (.slice n6 m1.out.length d6) (.slice m6 (memL m1.mem).length c6)) = w7 at *)
          have K7 := hideI (bt (unhideI KB6) (unhideI SN).2)
          have J1 := join_n hw w6.heap.size m1.r w7 (unhideI HD) (fun i hi => ran_regs (unhideI SN).1 i (by omega))
          have SA := hideI (fun w => add_any a b 32 w hw.isW ha hb)
          have SS := hideI (fun w => sub_any a b 32 w hw.isW ha hb)
          rw [unhideI HQ] at J1
          clear HQ HD
          refine J1.mono ?_
          rintro e w8 ⟨rfl, h8⟩
          subst w8
          clear J1
          go_wp2_with fail
          refine (unhideI SA _).mono ?_
          rintro e w9 ⟨rfl, k9⟩
          have K9 := hideI (bt (unhideI K7) k9)
          have R9 := hideI ((unhideI SN).1.step k9)
          clear k9 SA
          have g13 := (unhideI R9).2.1 13 _ rfl
          have g14 := (unhideI R9).2.1 14 _ rfl
          have g15 := (unhideI R9).2.1 15 _ rfl
          have g16 := (unhideI R9).2.1 16 _ rfl
          have z9 := (unhideI R9).1
          have sz9 := (unhideI K9).size
          clear SS
          have e1 : (cut 32 (a + b) != cut 32 (a + b)) = false := by simp
          generalize cut 32 (a + b) = S9 at *
          go_wp2_with fail
          go_roundg (3 - 1)
          case measure => omega
          case rel => exact ⟨1, by decide, rfl, rfl, hideI (by repeat (first | exact (unhideI K9) | refine Below.setCell ?_ (by first | exact Nat.le_refl _ | (simp; done) | omega | (simp; omega)) _ | refine Below.alloc ?_ (by first | (simp; done) | omega | (simp; omega)) _))⟩
    · go_wp2_with fail
      have OB := hideI ((Box.new wr #[.int .i64 7, .int .i64 8] 41).step (below_a _ (.cells #[.int .i64 0, .int .i64 0, .int .i64 0, .int .i64 0, .int .i64 0, .int .i64 0, .int .i64 0, .int .i64 0, .bool false, .bool false, .bool false, .bool false, .int .i64 0, .slice none 0 0] 27)))
      have SB : Hid (Box ((wr.alloc (.cells #[.int .i64 7, .int .i64 8] 41)).alloc (.cells #[.int .i64 0, .int .i64 0, .int .i64 0, .int .i64 0, .int .i64 0, .int .i64 0, .int .i64 0, .int .i64 0, .bool false, .bool false, .bool false, .bool false, .int .i64 0, .slice none 0 0] 27)) (wr.heap.size + 1) (stL (crg x y 0))) := by
        have h := Box.new (wr.alloc (.cells #[.int .i64 7, .int .i64 8] 41)) #[.int .i64 0, .int .i64 0, .int .i64 0, .int .i64 0, .int .i64 0, .int .i64 0, .int .i64 0, .int .i64 0, .bool false, .bool false, .bool false, .bool false, .int .i64 0, .slice none 0 0] 27
        rw [World.size_alloc] at h
        exact h
      have KI := hideI (bt (unhideI hb4) (bt (below_a wr (.cells #[.int .i64 7, .int .i64 8] 41)) (below_a _ (.cells #[.int .i64 0, .int .i64 0, .int .i64 0, .int .i64 0, .int .i64 0, .int .i64 0, .int .i64 0, .int .i64 0, .bool false, .bool false, .bool false, .bool false, .int .i64 0, .slice none 0 0] 27))))
      have hsi : ((wr.alloc (.cells #[.int .i64 7, .int .i64 8] 41)).alloc (.cells #[.int .i64 0, .int .i64 0, .int .i64 0, .int .i64 0, .int .i64 0, .int .i64 0, .int .i64 0, .int .i64 0, .bool false, .bool false, .bool false, .bool false, .int .i64 0, .slice none 0 0] 27)).heap.size = wr.heap.size + 2 := by simp
      generalize (wr.alloc (.cells #[.int .i64 7, .int .i64 8] 41)).alloc (.cells #[.int .i64 0, .int .i64 0, .int .i64 0, .int .i64 0, .int .i64 0, .int .i64 0, .int .i64 0, .int .i64 0, .bool false, .bool false, .bool false, .bool false, .int .i64 0, .slice none 0 0] 27) = Wi at *
      clear t0 t1 t2 t3 t4 t5 ltb hb4
      generalize wr.heap.size = B at *
      go_loopg [14, 62] 2 (fun g p t ws => ∃ i : Nat, i ≤ 2 ∧ g = 2 - i ∧ t = .int .i64 i ∧ Hid (OwnI ws (B + 2) p i (carI 7 8 i)) ∧ Hid (Box ws (B + 1) (stL (crg x y i))) ∧ Hid (Box ws B [.int .i64 7, .int .i64 8]) ∧ Hid (Below W4.heap.size W4 ws))
      case atStart => exact ⟨0, Nat.zero_le _, rfl, rfl, World.ownsRow_nil _ _ _ _, SB, OB, KI⟩
      case round =>
        obtain ⟨i, hin, hgi, rfl, hp, hbx, hob, hbl⟩ := hrel
        clear SB OB KI
        have hzs := (unhideI hbx).1
        have fz := (unhideI hbx).2.2
        obtain ⟨o0, o1⟩ := (unhideI hob).at2
        have hzo := (unhideI hob).1
        have hzb := (unhideI hbl).size
        by_cases hlt : i < 2
        · have kx := bt (unhideI KW) (unhideI hbl)
          have cx := ws_cell (unhideI HXL) (Ints.step (unhideI X3) kx) i hlt
          have cy := ws_cell (unhideI HYL) (Ints.step (unhideI YI) kx) i hlt
          clear kx
          have c8 := (unhideI hbx).2.1 i _ (stL_at (crg x y i) i (by omega))
          have c9 := (unhideI hbx).2.1 (2 + i) _ (stL_at (crg x y i) (2 + i) (by omega))
          generalize crg x y i i = r8 at c8
          generalize crg x y i (2 + i) = r9 at c9
          have hne1 : w1.heap.size ≠ B + 1 := by omega
          have hne2 : w2.heap.size ≠ B + 1 := by omega
          have hix1 : (2 + (i : Int)).toNat = 2 + i := by omega
          have hix2 : (2 + (i : Int)) < 8 := by omega
          have hix3 : (0 : Int) ≤ 2 + (i : Int) := by omega
          have hix4 : (i : Int) < 8 := by omega
          have hix5 : (i : Int) < 2 := by omega
          have hii : i ≠ 2 + i := by omega
          have hix6 : IntKind.i64.wrap (2 + (i : Int)) = 2 + (i : Int) := by rw [IntKind.wrap_i64]; omega
          have hix7 : decide ((2 + (i : Int)) < 8) = true := by simp; omega
          have hix8 : decide ((0 : Int) ≤ 2 + (i : Int)) = true := by simp; omega
          go_wp2_with fail
          refine reg_start (fun W => W.cell? ⟨w1.heap.size, i, none⟩ = some (.int .i64 (x i)) ∧ W.cell? ⟨w2.heap.size, i, none⟩ = some (.int .i64 (y i))) (by kernel_rfl) ?_
          refine reg_seg 0 13 4 (by kernel_rfl) (by decide) (by kernel_rfl) (by kernel_rfl) (fun _ _ _ _ _ h => h) ?_
          simp only [List.take_succ_cons, List.take_zero, List.drop_succ_cons, List.drop_zero]
          repeat (refine wpSteady_step (fun K hK => ?_); go_simp; first | (refine steady_of ?_ (fun W hW => ?_) (hK _ ?_); rotate_left; (obtain ⟨h1, h2⟩ := hW; go_simp; first | done | rfl); clear hK K) | (refine hK _ ?_; clear hK K))
          refine wpSteady_nil ?_
          refine reg_seg 14 1 3 (by kernel_rfl) (by decide) (by kernel_rfl) (by kernel_rfl) (fun _ _ _ _ _ h => h) ?_
          simp only [List.take_succ_cons, List.take_zero, List.drop_succ_cons, List.drop_zero]
          repeat (refine wpSteady_step (fun K hK => ?_); go_simp; first | (refine steady_of ?_ (fun W hW => ?_) (hK _ ?_); rotate_left; (obtain ⟨h1, h2⟩ := hW; go_simp; first | done | rfl); clear hK K) | (refine hK _ ?_; clear hK K))
          refine wpSteady_nil ?_
          refine reg_one 13 2 (by kernel_rfl) (by kernel_rfl) ⟨cx, cy⟩ ?_
          simp only [List.take_succ_cons, List.take_zero, List.drop_succ_cons, List.drop_zero]
          go_wp2_with fail
          first | refine next_nil ?_ | refine next_go ?_
          have cx1 := (World.cell?_of_block (w := wr) (a := ⟨w1.heap.size, i, none⟩) (Below.heap_setCell wr ⟨B + 1, i, none⟩ (.int .i64 (x i)) w1.heap.size hne1)).trans cx
          have cy1 := (World.cell?_of_block (w := wr) (a := ⟨w2.heap.size, i, none⟩) (Below.heap_setCell wr ⟨B + 1, i, none⟩ (.int .i64 (x i)) w2.heap.size hne2)).trans cy
          refine reg_seg 15 1 1 (by kernel_rfl) (by decide) (by kernel_rfl) (by kernel_rfl) (fun _ _ _ _ _ h => h) ?_
          simp only [List.take_succ_cons, List.take_zero, List.drop_succ_cons, List.drop_zero]
          repeat (refine wpSteady_step (fun K hK => ?_); go_simp; first | (refine steady_of ?_ (fun W hW => ?_) (hK _ ?_); rotate_left; (obtain ⟨h1, h2⟩ := hW; go_simp; first | done | rfl); clear hK K) | (refine hK _ ?_; clear hK K))
          refine wpSteady_nil ?_
          refine reg_one 16 0 (by kernel_rfl) (by kernel_rfl) ⟨cx1, cy1⟩ ?_
          simp only [List.take_succ_cons, List.take_zero, List.drop_succ_cons, List.drop_zero]
          go_wp2_with fail
          first | refine next_nil ?_ | refine next_go ?_
          have cx2 := (World.cell?_of_block (w := wr.setCell ⟨B + 1, i, none⟩ (.int .i64 (x i))) (a := ⟨w1.heap.size, i, none⟩) (Below.heap_setCell _ ⟨B + 1, 2 + i, none⟩ (.int .i64 (y i)) w1.heap.size hne1)).trans cx1
          have cy2 := (World.cell?_of_block (w := wr.setCell ⟨B + 1, i, none⟩ (.int .i64 (x i))) (a := ⟨w2.heap.size, i, none⟩) (Below.heap_setCell _ ⟨B + 1, 2 + i, none⟩ (.int .i64 (y i)) w2.heap.size hne2)).trans cy1
          refine reg_end (by kernel_rfl) ⟨cx2, cy2⟩ ?_
          have BX2 := hideI (Box.drew (box_two (unhideI hbx) (by omega)))
          have OB2 := hideI (Box.drew (((unhideI hob).other (b' := B + 1) (j := i) (u := .int .i64 (x i)) (by omega)).other (b' := B + 1) (j := 2 + i) (u := .int .i64 (y i)) (by omega)))
          have HP2 := hideI (show OwnI ((wr.setCell ⟨B + 1, i, none⟩ (.int .i64 (x i))).setCell ⟨B + 1, 2 + i, none⟩ (.int .i64 (y i))).drew (B + 2) _ i (carI 7 8 i) from World.ownsRow.drew (ownsRow_setCell_below (ownsRow_setCell_below (unhideI hp) (by simp) _) (by simp) _))
          have BL2 := hideI ((((unhideI hbl).setCell (p := ⟨B + 1, i, none⟩) (by show W4.heap.size ≤ B + 1; omega) (.int .i64 (x i))).setCell (p := ⟨B + 1, 2 + i, none⟩) (by show W4.heap.size ≤ B + 1; omega) (.int .i64 (y i))).drew)
          have hsy : (((wr.setCell ⟨B + 1, i, none⟩ (.int .i64 (x i))).setCell ⟨B + 1, 2 + i, none⟩ (.int .i64 (y i))).drew).heap.size = wr.heap.size := by show ((wr.setCell ⟨B + 1, i, none⟩ (.int .i64 (x i))).setCell ⟨B + 1, 2 + i, none⟩ (.int .i64 (y i))).heap.size = _; simp [World.setCell]
          generalize ((wr.setCell ⟨B + 1, i, none⟩ (.int .i64 (x i))).setCell ⟨B + 1, 2 + i, none⟩ (.int .i64 (y i))).drew = wy at *
          obtain ⟨oo0, oo1⟩ := (unhideI OB2).at2
          have hzy := (unhideI OB2).1
          clear o0 o1 c8 c9 cx cy cx1 cy1 cx2 cy2 fz hbx hob hp hbl
          by_cases hi0 : i = 0
          · have bi : decide ((0 : Int) < (i : Int)) = false := by simp [hi0]
            have bn : ¬ (0 < i) := by omega
            have bm : decide (0 < i) = false := decide_eq_false bn
            have HI0 := hideI hi0
            clear hi0
            have HP8 := hideI ((unhideI HP2).new (.cells #[.int .i64 7, .int .i64 i, .int .i64 (2 + i), .int .i64 0] 45))
            go_wp2_with (at_builtin; refine wpList_append_lies _ rfl (.tmp 86) (.tmp 92) 43 rfl (B + 2) 45 i0 (.agg #[.int .i64 0, .int .i64 0, .int .i64 0, .int .i64 0]) 4 32 Try.underlying43 hi hz0 hz1 hz2 rfl (by decide) _ _ _ rfl (unhideI HP8) ⟨_, 0, none⟩ 1 1 [.int .i64 7, .int .i64 i, .int .i64 (2 + i), .int .i64 0] rfl rfl (new_c1 _ #[.int .i64 7, .int .i64 i, .int .i64 (2 + i), .int .i64 0] _ _ hsy.symm) (by simp [Value.oneCell']) (by decide) (by unfold maxLen; omega) (by omega) (by simp; omega) _ rfl ?_; intro g3 c3 w3' own3 grow3 at3 lt3; have P3 := hideI (show OwnI w3' (B + 2) (.slice (some ⟨g3, 0, none⟩) (i + 1) c3) (i + 1) (carI 7 8 (i + 1)) by unfold OwnI; rw [carI_snoc, if_pos (unhideI HI0)]; exact own3); have B3 := hideI (Box.grown ((unhideI BX2).step (below_a _ _)) grow3 (fun e => by have := (own_lt (unhideI HP8) _ e.symm).1; omega)); have O3 := hideI (Box.grown ((unhideI OB2).step (below_a _ _)) grow3 (fun e => by have := (own_lt (unhideI HP8) _ e.symm).1; omega)); have KB3 := hideI (Below.grown ((unhideI BL2).alloc (by omega) _) grow3 (by simp; omega) (fun j hj => by have := (own_lt (unhideI HP8) _ hj).1; omega)); clear own3 grow3 at3)
            go_roundg (2 - (i + 1))
            case measure => omega
            case rel => exact ⟨i + 1, by omega, rfl, by go_num, P3, B3, O3, KB3⟩
          · have bi : decide ((0 : Int) < (i : Int)) = true := by simp; omega
            have bn : 0 < i := by omega
            have bm : decide (0 < i) = true := decide_eq_true bn
            have HI0 := hideI hi0
            clear hi0
            have HP8 := hideI ((unhideI HP2).new (.cells #[.int .i64 8, .int .i64 i, .int .i64 (2 + i), .int .i64 0] 45))
            go_wp2_with (at_builtin; refine wpList_append_lies _ rfl (.tmp 86) (.tmp 92) 43 rfl (B + 2) 45 i0 (.agg #[.int .i64 0, .int .i64 0, .int .i64 0, .int .i64 0]) 4 32 Try.underlying43 hi hz0 hz1 hz2 rfl (by decide) _ _ _ rfl (unhideI HP8) ⟨_, 0, none⟩ 1 1 [.int .i64 8, .int .i64 i, .int .i64 (2 + i), .int .i64 0] rfl rfl (new_c1 _ #[.int .i64 8, .int .i64 i, .int .i64 (2 + i), .int .i64 0] _ _ hsy.symm) (by simp [Value.oneCell']) (by decide) (by unfold maxLen; omega) (by omega) (by simp; omega) _ rfl ?_; intro g3 c3 w3' own3 grow3 at3 lt3; have P3 := hideI (show OwnI w3' (B + 2) (.slice (some ⟨g3, 0, none⟩) (i + 1) c3) (i + 1) (carI 7 8 (i + 1)) by unfold OwnI; rw [carI_snoc, if_neg (unhideI HI0)]; exact own3); have B3 := hideI (Box.grown ((unhideI BX2).step (below_a _ _)) grow3 (fun e => by have := (own_lt (unhideI HP8) _ e.symm).1; omega)); have O3 := hideI (Box.grown ((unhideI OB2).step (below_a _ _)) grow3 (fun e => by have := (own_lt (unhideI HP8) _ e.symm).1; omega)); have KB3 := hideI (Below.grown ((unhideI BL2).alloc (by omega) _) grow3 (by simp; omega) (fun j hj => by have := (own_lt (unhideI HP8) _ hj).1; omega)); clear own3 grow3 at3)
            go_roundg (2 - (i + 1))
            case measure => omega
            case rel => exact ⟨i + 1, by omega, rfl, by go_num, P3, B3, O3, KB3⟩
        · have hkn : i = 2 := by omega
          subst hkn
          have st := unhideI hbx
          have s0 := st.2.1 0 _ rfl
          have s1 := st.2.1 1 _ rfl
          have s2 := st.2.1 2 _ rfl
          have s3 := st.2.1 3 _ rfl
          have s4 := st.2.1 4 _ rfl
          have s5 := st.2.1 5 _ rfl
          have s6 := st.2.1 6 _ rfl
          have s7 := st.2.1 7 _ rfl
          have s8 := st.2.1 8 _ rfl
          have s9 := st.2.1 9 _ rfl
          have s10 := st.2.1 10 _ rfl
          have s11 := st.2.1 11 _ rfl
          have s12 := st.2.1 12 _ rfl
          have s13 := st.2.1 13 _ rfl
          clear st
          obtain ⟨rt1, rt2⟩ := carI_right 7 8 (by decide) (by decide) 2 (by decide)
          have R1 := hideI (fun v B w ho hB => lawRun_any (carI 7 8 2) (carS x y 2) (.slice none 0 0) v B w ho hB (Lies.nil _ _) (fun _ h => absurd rfl h) rt1 rt2 (by rw [carI_len]; decide) (carS_wrong (unhideI HX) (unhideI HY) 2) rfl)
          have HQ := hideI (unhideI CD)
          have HD := hideI (car_wd hw2 x y 7 8 (.inr ⟨rfl, rfl⟩))
          clear rt1 rt2 CS CD CC
          generalize endM ((startM (carS x y 2)).line [] (carI 7 8 2)) = m1 at *
          rw [carI_len] at R1
          unfold St.val St.cells carS at R1
          dsimp only at R1
          go_wp2_with fail
          refine (unhideI R1 _ (B + 2) _ (unhideI hp) (by omega)).mono ?_
          rintro e w6 ⟨vo6, vm6, rfl, i6, o6, g6⟩
          have KB6 := hideI (Below.grown (unhideI hbl) g6 (by omega) (fun j hj => by have := (own_lt (unhideI hp) _ hj).1; omega))
          obtain ⟨m6, c6, rfl, _, _⟩ := i6.at
          obtain ⟨n6, d6, rfl, _, _⟩ := o6.at
          clear i6 o6 g6 R1 s0 s1 s2 s3 s4 s5 s6 s7 s8 s9 s10 s11 s12 s13 hbx hob hp hbl fz o0 o1
          unfold ranV
          go_wp2_with (refine wpList_store_row rfl 31 (.tmp 17) (.tmp 99) rfl w6.heap.size (ranC m1 (.slice n6 m1.out.length d6) (.slice m6 (memL m1.mem).length c6)) rfl rfl 31 #[.int .i64 0, .int .i64 0, .slice none 0 0, .int .i64 0, .int .i64 0, .int .i64 0, .int .i64 0, .int .i64 0, .int .i64 0, .int .i64 0, .int .i64 0, .int .i64 0, .int .i64 0, .bool false, .bool false, .bool false, .bool false, .int .i64 0, .slice none 0 0] (heap_new _ _) Try.sizeRan rfl (ranC_one _ _ _ _ _ _ _) ?_; have SN := hideI (store_new w6 #[.int .i64 0, .int .i64 0, .slice none 0 0, .int .i64 0, .int .i64 0, .int .i64 0, .int .i64 0, .int .i64 0, .int .i64 0, .int .i64 0, .int .i64 0, .int .i64 0, .int .i64 0, .bool false, .bool false, .bool false, .bool false, .int .i64 0, .slice none 0 0] (ranC m1 (.slice n6 m1.out.length d6) (.slice m6 (memL m1.mem).length c6)) 31); have SH := hideI (store_heap w6 #[.int .i64 0, .int .i64 0, .slice none 0 0, .int .i64 0, .int .i64 0, .int .i64 0, .int .i64 0, .int .i64 0, .int .i64 0, .int .i64 0, .int .i64 0, .int .i64 0, .int .i64 0, .bool false, .bool false, .bool false, .bool false, .int .i64 0, .slice none 0 0] (ranC m1 (.slice n6 m1.out.length d6) (.slice m6 (memL m1.mem).length c6)) 31); generalize (w6.alloc (.cells #[.int .i64 0, .int .i64 0, .slice none 0 0, .int .i64 0, .int .i64 0, .int .i64 0, .int .i64 0, .int .i64 0, .int .i64 0, .int .i64 0, .int .i64 0, .int .i64 0, .int .i64 0, .bool false, .bool false, .bool false, .bool false, .int .i64 0, .slice none 0 0] 31)).setRow w6.heap.size (ranC m1 (.slice n6 m1.out.length d6) (.slice m6 (memL m1.mem).length c6)) = w7 at *)
          have K7 := hideI (bt (unhideI KB6) (unhideI SN).2)
          have J1 := join_n hw w6.heap.size m1.r w7 (unhideI HD) (fun i hi => ran_regs (unhideI SN).1 i (by omega))
          have SA := hideI (fun w => add_any a b 32 w hw.isW ha hb)
          have SS := hideI (fun w => sub_any a b 32 w hw.isW ha hb)
          rw [unhideI HQ] at J1
          clear HQ HD
          refine J1.mono ?_
          rintro e w8 ⟨rfl, h8⟩
          subst w8
          clear J1
          go_wp2_with fail
          refine (unhideI SA _).mono ?_
          rintro e w9 ⟨rfl, k9⟩
          have K9 := hideI (bt (unhideI K7) k9)
          have R9 := hideI ((unhideI SN).1.step k9)
          clear k9 SA
          go_wp2_with fail
          refine (unhideI SS _).mono ?_
          rintro e w10 ⟨rfl, k10⟩
          have K10 := hideI (bt (unhideI K9) k10)
          have R10 := hideI ((unhideI R9).step k10)
          have g13 := (unhideI R10).2.1 13 _ rfl
          have g14 := (unhideI R10).2.1 14 _ rfl
          have g15 := (unhideI R10).2.1 15 _ rfl
          have g16 := (unhideI R10).2.1 16 _ rfl
          have z10 := (unhideI R10).1
          have sz10 := (unhideI K10).size
          clear k10 SS
          have e1 : (cut 32 (a - b) != cut 32 (a - b)) = false := by simp
          generalize cut 32 (a - b) = D at *
          generalize cut 32 (a + b) = S9 at *
          go_wp2_with fail
          go_roundg (3 - 2)
          case measure => omega
          case rel => exact ⟨2, by decide, rfl, rfl, hideI (by repeat (first | exact (unhideI K10) | refine Below.setCell ?_ (by first | exact Nat.le_refl _ | (simp; done) | omega | (simp; omega)) _ | refine Below.alloc ?_ (by first | (simp; done) | omega | (simp; omega)) _))⟩
    · go_wp2_with fail
      have OB := hideI ((Box.new wr #[.int .i64 12, .int .i64 13] 41).step (below_a _ (.cells #[.int .i64 0, .int .i64 0, .int .i64 0, .int .i64 0, .int .i64 0, .int .i64 0, .int .i64 0, .int .i64 0, .bool false, .bool false, .bool false, .bool false, .int .i64 0, .slice none 0 0] 27)))
      have SB : Hid (Box ((wr.alloc (.cells #[.int .i64 12, .int .i64 13] 41)).alloc (.cells #[.int .i64 0, .int .i64 0, .int .i64 0, .int .i64 0, .int .i64 0, .int .i64 0, .int .i64 0, .int .i64 0, .bool false, .bool false, .bool false, .bool false, .int .i64 0, .slice none 0 0] 27)) (wr.heap.size + 1) (stL (crg x y 0))) := by
        have h := Box.new (wr.alloc (.cells #[.int .i64 12, .int .i64 13] 41)) #[.int .i64 0, .int .i64 0, .int .i64 0, .int .i64 0, .int .i64 0, .int .i64 0, .int .i64 0, .int .i64 0, .bool false, .bool false, .bool false, .bool false, .int .i64 0, .slice none 0 0] 27
        rw [World.size_alloc] at h
        exact h
      have KI := hideI (bt (unhideI hb4) (bt (below_a wr (.cells #[.int .i64 12, .int .i64 13] 41)) (below_a _ (.cells #[.int .i64 0, .int .i64 0, .int .i64 0, .int .i64 0, .int .i64 0, .int .i64 0, .int .i64 0, .int .i64 0, .bool false, .bool false, .bool false, .bool false, .int .i64 0, .slice none 0 0] 27))))
      have hsi : ((wr.alloc (.cells #[.int .i64 12, .int .i64 13] 41)).alloc (.cells #[.int .i64 0, .int .i64 0, .int .i64 0, .int .i64 0, .int .i64 0, .int .i64 0, .int .i64 0, .int .i64 0, .bool false, .bool false, .bool false, .bool false, .int .i64 0, .slice none 0 0] 27)).heap.size = wr.heap.size + 2 := by simp
      generalize (wr.alloc (.cells #[.int .i64 12, .int .i64 13] 41)).alloc (.cells #[.int .i64 0, .int .i64 0, .int .i64 0, .int .i64 0, .int .i64 0, .int .i64 0, .int .i64 0, .int .i64 0, .bool false, .bool false, .bool false, .bool false, .int .i64 0, .slice none 0 0] 27) = Wi at *
      clear t0 t1 t2 t3 t4 t5 ltb hb4
      generalize wr.heap.size = B at *
      go_loopg [14, 62] 2 (fun g p t ws => ∃ i : Nat, i ≤ 2 ∧ g = 2 - i ∧ t = .int .i64 i ∧ Hid (OwnI ws (B + 2) p i (carI 12 13 i)) ∧ Hid (Box ws (B + 1) (stL (crg x y i))) ∧ Hid (Box ws B [.int .i64 12, .int .i64 13]) ∧ Hid (Below W4.heap.size W4 ws))
      case atStart => exact ⟨0, Nat.zero_le _, rfl, rfl, World.ownsRow_nil _ _ _ _, SB, OB, KI⟩
      case round =>
        obtain ⟨i, hin, hgi, rfl, hp, hbx, hob, hbl⟩ := hrel
        clear SB OB KI
        have hzs := (unhideI hbx).1
        have fz := (unhideI hbx).2.2
        obtain ⟨o0, o1⟩ := (unhideI hob).at2
        have hzo := (unhideI hob).1
        have hzb := (unhideI hbl).size
        by_cases hlt : i < 2
        · have kx := bt (unhideI KW) (unhideI hbl)
          have cx := ws_cell (unhideI HXL) (Ints.step (unhideI X3) kx) i hlt
          have cy := ws_cell (unhideI HYL) (Ints.step (unhideI YI) kx) i hlt
          clear kx
          have c8 := (unhideI hbx).2.1 i _ (stL_at (crg x y i) i (by omega))
          have c9 := (unhideI hbx).2.1 (2 + i) _ (stL_at (crg x y i) (2 + i) (by omega))
          generalize crg x y i i = r8 at c8
          generalize crg x y i (2 + i) = r9 at c9
          have hne1 : w1.heap.size ≠ B + 1 := by omega
          have hne2 : w2.heap.size ≠ B + 1 := by omega
          have hix1 : (2 + (i : Int)).toNat = 2 + i := by omega
          have hix2 : (2 + (i : Int)) < 8 := by omega
          have hix3 : (0 : Int) ≤ 2 + (i : Int) := by omega
          have hix4 : (i : Int) < 8 := by omega
          have hix5 : (i : Int) < 2 := by omega
          have hii : i ≠ 2 + i := by omega
          have hix6 : IntKind.i64.wrap (2 + (i : Int)) = 2 + (i : Int) := by rw [IntKind.wrap_i64]; omega
          have hix7 : decide ((2 + (i : Int)) < 8) = true := by simp; omega
          have hix8 : decide ((0 : Int) ≤ 2 + (i : Int)) = true := by simp; omega
          go_wp2_with fail
          refine reg_start (fun W => W.cell? ⟨w1.heap.size, i, none⟩ = some (.int .i64 (x i)) ∧ W.cell? ⟨w2.heap.size, i, none⟩ = some (.int .i64 (y i))) (by kernel_rfl) ?_
          refine reg_seg 0 13 4 (by kernel_rfl) (by decide) (by kernel_rfl) (by kernel_rfl) (fun _ _ _ _ _ h => h) ?_
          simp only [List.take_succ_cons, List.take_zero, List.drop_succ_cons, List.drop_zero]
          repeat (refine wpSteady_step (fun K hK => ?_); go_simp; first | (refine steady_of ?_ (fun W hW => ?_) (hK _ ?_); rotate_left; (obtain ⟨h1, h2⟩ := hW; go_simp; first | done | rfl); clear hK K) | (refine hK _ ?_; clear hK K))
          refine wpSteady_nil ?_
          refine reg_seg 14 1 3 (by kernel_rfl) (by decide) (by kernel_rfl) (by kernel_rfl) (fun _ _ _ _ _ h => h) ?_
          simp only [List.take_succ_cons, List.take_zero, List.drop_succ_cons, List.drop_zero]
          repeat (refine wpSteady_step (fun K hK => ?_); go_simp; first | (refine steady_of ?_ (fun W hW => ?_) (hK _ ?_); rotate_left; (obtain ⟨h1, h2⟩ := hW; go_simp; first | done | rfl); clear hK K) | (refine hK _ ?_; clear hK K))
          refine wpSteady_nil ?_
          refine reg_one 13 2 (by kernel_rfl) (by kernel_rfl) ⟨cx, cy⟩ ?_
          simp only [List.take_succ_cons, List.take_zero, List.drop_succ_cons, List.drop_zero]
          go_wp2_with fail
          first | refine next_nil ?_ | refine next_go ?_
          have cx1 := (World.cell?_of_block (w := wr) (a := ⟨w1.heap.size, i, none⟩) (Below.heap_setCell wr ⟨B + 1, i, none⟩ (.int .i64 (x i)) w1.heap.size hne1)).trans cx
          have cy1 := (World.cell?_of_block (w := wr) (a := ⟨w2.heap.size, i, none⟩) (Below.heap_setCell wr ⟨B + 1, i, none⟩ (.int .i64 (x i)) w2.heap.size hne2)).trans cy
          refine reg_seg 15 1 1 (by kernel_rfl) (by decide) (by kernel_rfl) (by kernel_rfl) (fun _ _ _ _ _ h => h) ?_
          simp only [List.take_succ_cons, List.take_zero, List.drop_succ_cons, List.drop_zero]
          repeat (refine wpSteady_step (fun K hK => ?_); go_simp; first | (refine steady_of ?_ (fun W hW => ?_) (hK _ ?_); rotate_left; (obtain ⟨h1, h2⟩ := hW; go_simp; first | done | rfl); clear hK K) | (refine hK _ ?_; clear hK K))
          refine wpSteady_nil ?_
          refine reg_one 16 0 (by kernel_rfl) (by kernel_rfl) ⟨cx1, cy1⟩ ?_
          simp only [List.take_succ_cons, List.take_zero, List.drop_succ_cons, List.drop_zero]
          go_wp2_with fail
          first | refine next_nil ?_ | refine next_go ?_
          have cx2 := (World.cell?_of_block (w := wr.setCell ⟨B + 1, i, none⟩ (.int .i64 (x i))) (a := ⟨w1.heap.size, i, none⟩) (Below.heap_setCell _ ⟨B + 1, 2 + i, none⟩ (.int .i64 (y i)) w1.heap.size hne1)).trans cx1
          have cy2 := (World.cell?_of_block (w := wr.setCell ⟨B + 1, i, none⟩ (.int .i64 (x i))) (a := ⟨w2.heap.size, i, none⟩) (Below.heap_setCell _ ⟨B + 1, 2 + i, none⟩ (.int .i64 (y i)) w2.heap.size hne2)).trans cy1
          refine reg_end (by kernel_rfl) ⟨cx2, cy2⟩ ?_
          have BX2 := hideI (Box.drew (box_two (unhideI hbx) (by omega)))
          have OB2 := hideI (Box.drew (((unhideI hob).other (b' := B + 1) (j := i) (u := .int .i64 (x i)) (by omega)).other (b' := B + 1) (j := 2 + i) (u := .int .i64 (y i)) (by omega)))
          have HP2 := hideI (show OwnI ((wr.setCell ⟨B + 1, i, none⟩ (.int .i64 (x i))).setCell ⟨B + 1, 2 + i, none⟩ (.int .i64 (y i))).drew (B + 2) _ i (carI 12 13 i) from World.ownsRow.drew (ownsRow_setCell_below (ownsRow_setCell_below (unhideI hp) (by simp) _) (by simp) _))
          have BL2 := hideI ((((unhideI hbl).setCell (p := ⟨B + 1, i, none⟩) (by show W4.heap.size ≤ B + 1; omega) (.int .i64 (x i))).setCell (p := ⟨B + 1, 2 + i, none⟩) (by show W4.heap.size ≤ B + 1; omega) (.int .i64 (y i))).drew)
          have hsy : (((wr.setCell ⟨B + 1, i, none⟩ (.int .i64 (x i))).setCell ⟨B + 1, 2 + i, none⟩ (.int .i64 (y i))).drew).heap.size = wr.heap.size := by show ((wr.setCell ⟨B + 1, i, none⟩ (.int .i64 (x i))).setCell ⟨B + 1, 2 + i, none⟩ (.int .i64 (y i))).heap.size = _; simp [World.setCell]
          generalize ((wr.setCell ⟨B + 1, i, none⟩ (.int .i64 (x i))).setCell ⟨B + 1, 2 + i, none⟩ (.int .i64 (y i))).drew = wy at *
          obtain ⟨oo0, oo1⟩ := (unhideI OB2).at2
          have hzy := (unhideI OB2).1
          clear o0 o1 c8 c9 cx cy cx1 cy1 cx2 cy2 fz hbx hob hp hbl
          by_cases hi0 : i = 0
          · have bi : decide ((0 : Int) < (i : Int)) = false := by simp [hi0]
            have bn : ¬ (0 < i) := by omega
            have bm : decide (0 < i) = false := decide_eq_false bn
            have HI0 := hideI hi0
            clear hi0
            have HP8 := hideI ((unhideI HP2).new (.cells #[.int .i64 12, .int .i64 i, .int .i64 (2 + i), .int .i64 0] 45))
            go_wp2_with (at_builtin; refine wpList_append_lies _ rfl (.tmp 86) (.tmp 92) 43 rfl (B + 2) 45 i0 (.agg #[.int .i64 0, .int .i64 0, .int .i64 0, .int .i64 0]) 4 32 Try.underlying43 hi hz0 hz1 hz2 rfl (by decide) _ _ _ rfl (unhideI HP8) ⟨_, 0, none⟩ 1 1 [.int .i64 12, .int .i64 i, .int .i64 (2 + i), .int .i64 0] rfl rfl (new_c1 _ #[.int .i64 12, .int .i64 i, .int .i64 (2 + i), .int .i64 0] _ _ hsy.symm) (by simp [Value.oneCell']) (by decide) (by unfold maxLen; omega) (by omega) (by simp; omega) _ rfl ?_; intro g3 c3 w3' own3 grow3 at3 lt3; have P3 := hideI (show OwnI w3' (B + 2) (.slice (some ⟨g3, 0, none⟩) (i + 1) c3) (i + 1) (carI 12 13 (i + 1)) by unfold OwnI; rw [carI_snoc, if_pos (unhideI HI0)]; exact own3); have B3 := hideI (Box.grown ((unhideI BX2).step (below_a _ _)) grow3 (fun e => by have := (own_lt (unhideI HP8) _ e.symm).1; omega)); have O3 := hideI (Box.grown ((unhideI OB2).step (below_a _ _)) grow3 (fun e => by have := (own_lt (unhideI HP8) _ e.symm).1; omega)); have KB3 := hideI (Below.grown ((unhideI BL2).alloc (by omega) _) grow3 (by simp; omega) (fun j hj => by have := (own_lt (unhideI HP8) _ hj).1; omega)); clear own3 grow3 at3)
            go_roundg (2 - (i + 1))
            case measure => omega
            case rel => exact ⟨i + 1, by omega, rfl, by go_num, P3, B3, O3, KB3⟩
          · have bi : decide ((0 : Int) < (i : Int)) = true := by simp; omega
            have bn : 0 < i := by omega
            have bm : decide (0 < i) = true := decide_eq_true bn
            have HI0 := hideI hi0
            clear hi0
            have HP8 := hideI ((unhideI HP2).new (.cells #[.int .i64 13, .int .i64 i, .int .i64 (2 + i), .int .i64 0] 45))
            go_wp2_with (at_builtin; refine wpList_append_lies _ rfl (.tmp 86) (.tmp 92) 43 rfl (B + 2) 45 i0 (.agg #[.int .i64 0, .int .i64 0, .int .i64 0, .int .i64 0]) 4 32 Try.underlying43 hi hz0 hz1 hz2 rfl (by decide) _ _ _ rfl (unhideI HP8) ⟨_, 0, none⟩ 1 1 [.int .i64 13, .int .i64 i, .int .i64 (2 + i), .int .i64 0] rfl rfl (new_c1 _ #[.int .i64 13, .int .i64 i, .int .i64 (2 + i), .int .i64 0] _ _ hsy.symm) (by simp [Value.oneCell']) (by decide) (by unfold maxLen; omega) (by omega) (by simp; omega) _ rfl ?_; intro g3 c3 w3' own3 grow3 at3 lt3; have P3 := hideI (show OwnI w3' (B + 2) (.slice (some ⟨g3, 0, none⟩) (i + 1) c3) (i + 1) (carI 12 13 (i + 1)) by unfold OwnI; rw [carI_snoc, if_neg (unhideI HI0)]; exact own3); have B3 := hideI (Box.grown ((unhideI BX2).step (below_a _ _)) grow3 (fun e => by have := (own_lt (unhideI HP8) _ e.symm).1; omega)); have O3 := hideI (Box.grown ((unhideI OB2).step (below_a _ _)) grow3 (fun e => by have := (own_lt (unhideI HP8) _ e.symm).1; omega)); have KB3 := hideI (Below.grown ((unhideI BL2).alloc (by omega) _) grow3 (by simp; omega) (fun j hj => by have := (own_lt (unhideI HP8) _ hj).1; omega)); clear own3 grow3 at3)
            go_roundg (2 - (i + 1))
            case measure => omega
            case rel => exact ⟨i + 1, by omega, rfl, by go_num, P3, B3, O3, KB3⟩
        · have hkn : i = 2 := by omega
          subst hkn
          have st := unhideI hbx
          have s0 := st.2.1 0 _ rfl
          have s1 := st.2.1 1 _ rfl
          have s2 := st.2.1 2 _ rfl
          have s3 := st.2.1 3 _ rfl
          have s4 := st.2.1 4 _ rfl
          have s5 := st.2.1 5 _ rfl
          have s6 := st.2.1 6 _ rfl
          have s7 := st.2.1 7 _ rfl
          have s8 := st.2.1 8 _ rfl
          have s9 := st.2.1 9 _ rfl
          have s10 := st.2.1 10 _ rfl
          have s11 := st.2.1 11 _ rfl
          have s12 := st.2.1 12 _ rfl
          have s13 := st.2.1 13 _ rfl
          clear st
          obtain ⟨rt1, rt2⟩ := carI_right 12 13 (by decide) (by decide) 2 (by decide)
          have R1 := hideI (fun v B w ho hB => lawRun_any (carI 12 13 2) (carS x y 2) (.slice none 0 0) v B w ho hB (Lies.nil _ _) (fun _ h => absurd rfl h) rt1 rt2 (by rw [carI_len]; decide) (carS_wrong (unhideI HX) (unhideI HY) 2) rfl)
          have HQ := hideI (unhideI CC)
          have HD := hideI ((unhideI CC).2.1)
          clear rt1 rt2 CS CD CC
          generalize endM ((startM (carS x y 2)).line [] (carI 12 13 2)) = m1 at *
          rw [carI_len] at R1
          unfold St.val St.cells carS at R1
          dsimp only at R1
          go_wp2_with fail
          refine (unhideI R1 _ (B + 2) _ (unhideI hp) (by omega)).mono ?_
          rintro e w6 ⟨vo6, vm6, rfl, i6, o6, g6⟩
          have KB6 := hideI (Below.grown (unhideI hbl) g6 (by omega) (fun j hj => by have := (own_lt (unhideI hp) _ hj).1; omega))
          obtain ⟨m6, c6, rfl, _, _⟩ := i6.at
          obtain ⟨n6, d6, rfl, _, _⟩ := o6.at
          clear i6 o6 g6 R1 s0 s1 s2 s3 s4 s5 s6 s7 s8 s9 s10 s11 s12 s13 hbx hob hp hbl fz o0 o1
          unfold ranV
          go_wp2_with (refine wpList_store_row rfl 31 (.tmp 17) (.tmp 99) rfl w6.heap.size (ranC m1 (.slice n6 m1.out.length d6) (.slice m6 (memL m1.mem).length c6)) rfl rfl 31 #[.int .i64 0, .int .i64 0, .slice none 0 0, .int .i64 0, .int .i64 0, .int .i64 0, .int .i64 0, .int .i64 0, .int .i64 0, .int .i64 0, .int .i64 0, .int .i64 0, .int .i64 0, .bool false, .bool false, .bool false, .bool false, .int .i64 0, .slice none 0 0] (heap_new _ _) Try.sizeRan rfl (ranC_one _ _ _ _ _ _ _) ?_; have SN := hideI (store_new w6 #[.int .i64 0, .int .i64 0, .slice none 0 0, .int .i64 0, .int .i64 0, .int .i64 0, .int .i64 0, .int .i64 0, .int .i64 0, .int .i64 0, .int .i64 0, .int .i64 0, .int .i64 0, .bool false, .bool false, .bool false, .bool false, .int .i64 0, .slice none 0 0] (ranC m1 (.slice n6 m1.out.length d6) (.slice m6 (memL m1.mem).length c6)) 31); have SH := hideI (store_heap w6 #[.int .i64 0, .int .i64 0, .slice none 0 0, .int .i64 0, .int .i64 0, .int .i64 0, .int .i64 0, .int .i64 0, .int .i64 0, .int .i64 0, .int .i64 0, .int .i64 0, .int .i64 0, .bool false, .bool false, .bool false, .bool false, .int .i64 0, .slice none 0 0] (ranC m1 (.slice n6 m1.out.length d6) (.slice m6 (memL m1.mem).length c6)) 31); generalize (w6.alloc (.cells #[.int .i64 0, .int .i64 0, .slice none 0 0, .int .i64 0, .int .i64 0, .int .i64 0, .int .i64 0, .int .i64 0, .int .i64 0, .int .i64 0, .int .i64 0, .int .i64 0, .int .i64 0, .bool false, .bool false, .bool false, .bool false, .int .i64 0, .slice none 0 0] 31)).setRow w6.heap.size (ranC m1 (.slice n6 m1.out.length d6) (.slice m6 (memL m1.mem).length c6)) = w7 at *)
          have K7 := hideI (bt (unhideI KB6) (unhideI SN).2)
          have J1 := join_n hw w6.heap.size m1.r w7 (unhideI HD) (fun i hi => ran_regs (unhideI SN).1 i (by omega))
          have SA := hideI (fun w => add_any a b 32 w hw.isW ha hb)
          have SS := hideI (fun w => sub_any a b 32 w hw.isW ha hb)
          obtain ⟨q1, q2, q3, q4, q5⟩ := unhideI HQ
          rw [q1] at J1
          have Q3 := hideI q3
          have Q4 := hideI q4
          have Q5 := hideI q5
          have SC := hideI (fun w => cut_any a 32 w hw.isW ha)
          have SU := hideI (fun w => less_u a b 32 w hw.isW ha hb)
          have SL := hideI (fun w => less_s a b 32 w hw.isW ha hb)
          clear q1 q2 q3 q4 q5
          clear HQ HD
          refine J1.mono ?_
          rintro e w8 ⟨rfl, h8⟩
          subst w8
          clear J1
          go_wp2_with fail
          refine (unhideI SA _).mono ?_
          rintro e w9 ⟨rfl, k9⟩
          have K9 := hideI (bt (unhideI K7) k9)
          have R9 := hideI ((unhideI SN).1.step k9)
          clear k9 SA
          have g13 := (unhideI R9).2.1 13 _ rfl
          have g14 := (unhideI R9).2.1 14 _ rfl
          have g15 := (unhideI R9).2.1 15 _ rfl
          have g16 := (unhideI R9).2.1 16 _ rfl
          have z9 := (unhideI R9).1
          have sz9 := (unhideI K9).size
          have FB := hideI (Box.new w9 #[.bool m1.c, .bool m1.z, .bool m1.n, .bool m1.v] 25)
          have KA := hideI (below_a w9 (.cells #[.bool m1.c, .bool m1.z, .bool m1.n, .bool m1.v] 25))
          have sA : (w9.alloc (.cells #[.bool m1.c, .bool m1.z, .bool m1.n, .bool m1.v] 25)).heap.size = w9.heap.size + 1 := by simp
          go_wp2_with fail
          generalize w9.alloc (.cells #[.bool m1.c, .bool m1.z, .bool m1.n, .bool m1.v] 25) = WA at *
          refine (unhideI SC _).mono ?_
          rintro e w10 ⟨rfl, h10⟩
          subst w10
          go_wp2_with fail
          refine (unhideI SU _).mono ?_
          rintro e w10 ⟨rfl, h10⟩
          subst w10
          go_wp2_with fail
          refine (unhideI SL _).mono ?_
          rintro e w10 ⟨rfl, h10⟩
          subst w10
          go_wp2_with fail
          refine (unhideI SS _).mono ?_
          rintro e w10 ⟨rfl, k10⟩
          have FB2 := hideI ((unhideI FB).step k10)
          have p0 := (unhideI FB2).2.1 0 _ rfl
          have p1 := (unhideI FB2).2.1 1 _ rfl
          have p2 := (unhideI FB2).2.1 2 _ rfl
          have p3 := (unhideI FB2).2.1 3 _ rfl
          have z10 := (unhideI FB2).1
          have K10 := hideI (bt (bt (unhideI K9) (unhideI KA)) k10)
          have sz10 := (unhideI K10).size
          rw [unhideI Q3] at p0
          rw [unhideI Q5] at p1
          have h4 := unhideI Q4
          clear k10 SS SC SU SL g13 g14 g15 g16
          generalize decide (cut 32 a < cut 32 b) = LU at *
          generalize decide (sgn 32 a < sgn 32 b) = LS at *
          generalize cut 32 (a - b) = D at *
          generalize m1.n = fn at *
          generalize m1.v = fv at *
          have e1 : (LU != LU) = false := by simp
          have e2 : ((fn != fv) != LS) = false := by rw [h4]; simp
          have e5 : (fn == fv) = !LS := by rw [← h4]; cases fn <;> cases fv <;> rfl
          have e3 : ((D == 0) != (D == 0)) = false := by simp
          have e4 : (cut 32 a != cut 32 a) = false := by simp
          generalize cut 32 a = CA at *
          go_wp2_with fail
          go_roundg (3 - 3)
          case measure => omega
          case rel => exact ⟨3, by decide, rfl, rfl, hideI (by repeat (first | exact (unhideI K10) | refine Below.setCell ?_ (by first | exact Nat.le_refl _ | (simp; done) | omega | (simp; omega)) _ | refine Below.alloc ?_ (by first | (simp; done) | omega | (simp; omega)) _))⟩
    · go_wp2_with fail
      go_ret
      exact ⟨rfl, bt (unhideI K3) (bt (unhideI KW) (unhideI hb4))⟩
end Go.Proofs.Ytjlbenbfmookoab
