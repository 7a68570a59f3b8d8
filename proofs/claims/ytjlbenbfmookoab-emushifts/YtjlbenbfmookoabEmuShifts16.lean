/-
  EmuShifts at 16 bits, walked.
-/
import Derived.Test.YtjlbenbfmookoabEmuShifts0
namespace Go.Proofs.Ytjlbenbfmookoab
open Go.RowKit
set_option linter.unusedSimpArgs false
set_option linter.unusedVariables false

set_option maxRecDepth 100000 in
set_option maxHeartbeats 4000000 in
theorem shifts_16 (a : Int) (sg : Bool) (w : World) (ha : U a) :
    Calls Try.prog 5 #[.int .u64 a, .int .i64 16, .bool sg] w fun e w' => e = .returned (.bool true) ∧ Below w.heap.size w w' := by
  obtain ⟨i0, hi, hz0, hz1, hz2⟩ := info_parts Try.infoInstr
  have hw : Wid 1 16 := by simp [Wid]
  have SP := fun w => split_n hw a w ha
  have HX := hideI (fun i => w16_wd (cut 16 a) i)
  cases sg
  · 
    go_enter Try.func5, Try.ntmps5
    go_wp2_with fail
    refine (alive3 _).mono ?_
    rintro e w1 ⟨rfl, k1⟩
    have K1 := hideI k1
    clear k1
    go_wp2_with fail
    refine (SP _).mono ?_
    rintro e w2 ⟨rfl, i2, k2⟩
    have XI := hideI i2
    have K2 := hideI (bt (unhideI K1) k2)
    clear i2 k2
    go_wp2_with fail
    have SB : Hid (Box (w2.alloc (.cells #[.int .i64 0, .int .i64 0, .int .i64 0, .int .i64 0, .int .i64 0, .int .i64 0, .int .i64 0, .int .i64 0, .bool false, .bool false, .bool false, .bool false, .int .i64 0, .slice none 0 0] 27)) w2.heap.size (stL (rg (w16 (cut 16 a)) 0))) := Box.new w2 #[.int .i64 0, .int .i64 0, .int .i64 0, .int .i64 0, .int .i64 0, .int .i64 0, .int .i64 0, .int .i64 0, .bool false, .bool false, .bool false, .bool false, .int .i64 0, .slice none 0 0] 27
    have KS := hideI (below_a w2 (.cells #[.int .i64 0, .int .i64 0, .int .i64 0, .int .i64 0, .int .i64 0, .int .i64 0, .int .i64 0, .int .i64 0, .bool false, .bool false, .bool false, .bool false, .int .i64 0, .slice none 0 0] 27))
    have hs3 : (w2.alloc (.cells #[.int .i64 0, .int .i64 0, .int .i64 0, .int .i64 0, .int .i64 0, .int .i64 0, .int .i64 0, .int .i64 0, .bool false, .bool false, .bool false, .bool false, .int .i64 0, .slice none 0 0] 27)).heap.size = w2.heap.size + 1 := by simp
    generalize w2.alloc (.cells #[.int .i64 0, .int .i64 0, .int .i64 0, .int .i64 0, .int .i64 0, .int .i64 0, .int .i64 0, .int .i64 0, .bool false, .bool false, .bool false, .bool false, .int .i64 0, .slice none 0 0] 27) = W3 at *
    have UN := hideI (up_num hw a)
    have DQ := hideI (dn_num hw a false)
    simp only [Bool.false_eq_true, if_false, if_true] at DQ
    have HXL : Hid (wsL 1 (cut 16 a) = (List.range 1).map (w16 (cut 16 a))) := rfl
    generalize wsL 1 (cut 16 a) = xl at *
    generalize w16 (cut 16 a) = x at *
    go_loopg [10, 11, 47] 1 (fun g p q t wr => ∃ k : Nat, k ≤ 1 ∧ g = 1 - k ∧ t = .int .i64 k ∧ Hid (OwnI wr (w2.heap.size + 1) p k (up0 k)) ∧ Hid (OwnI wr (w2.heap.size + 1) q k (dn0 1 k)) ∧ Hid (Apart p q) ∧ Hid (Box wr w2.heap.size (stL (rg x k))) ∧ Hid (Below w2.heap.size w2 wr))
    case atStart => exact ⟨0, Nat.zero_le _, rfl, rfl, World.ownsRow_nil _ _ _ _, World.ownsRow_nil _ _ _ _, (fun k h => by cases h), SB, KS⟩
    case round =>
      obtain ⟨k, hk, hgk, rfl, hp, hq, hap, hbx, hb⟩ := hrel
      clear SB
      have hzr := (unhideI hbx).1
      by_cases hlt : k < 1
      · have c0 := ws_cell (unhideI HXL) (Ints.step (unhideI XI) (unhideI hb)) k hlt
        have fz := (unhideI hbx).2.2
        have c8 := (unhideI hbx).2.1 k _ (stL_at (rg x k) k (by omega))
        generalize rg x k k = ry at c8
        have hbx2 := hideI (show Box (wr.setCell ⟨w2.heap.size, k, none⟩ (.int .i64 (x k))) w2.heap.size (stL (rg x (k + 1))) by have h := (unhideI hbx).set (j := k) (u := .int .i64 (x k)) (by simp [stL]; omega); rw [stL_set _ _ _ (by omega), rg_next] at h; exact h)
        have hp2 := hideI (show OwnI (wr.setCell ⟨w2.heap.size, k, none⟩ (.int .i64 (x k))) (w2.heap.size + 1) _ k (up0 k) from ownsRow_setCell_below (unhideI hp) (by simp) _)
        have hq2 := hideI (show OwnI (wr.setCell ⟨w2.heap.size, k, none⟩ (.int .i64 (x k))) (w2.heap.size + 1) _ k (dn0 1 k) from ownsRow_setCell_below (unhideI hq) (by simp) _)
        have hb2 := hideI ((unhideI hb).setCell (p := ⟨w2.heap.size, k, none⟩) (Nat.le_refl _) (.int .i64 (x k)))
        obtain ⟨dd, hdd⟩ : ∃ dd : Int, dd = ((1 - 1 - k : Nat) : Int) := ⟨_, rfl⟩
        have hD1 : ((1 : Int) - 1 - k) = dd := by omega
        have hD2 : ((0 : Int) - k) = dd := by omega
        have hD3 : (-(k : Int)) = dd := by omega
        have HDD := hideI hdd
        clear hdd
        have HP8 := hideI ((unhideI hp2).new (.cells #[.int .i64 15, .int .i64 k, .int .i64 0, .int .i64 0] 45))
        have HQ8 := hideI ((unhideI hq2).new (.cells #[.int .i64 15, .int .i64 k, .int .i64 0, .int .i64 0] 45))
        have hsz : (wr.setCell ⟨w2.heap.size, k, none⟩ (.int .i64 (x k))).heap.size = wr.heap.size := by simp [World.setCell]
        go_wp2_with (first | (at_builtin; refine wpList_append_lies _ rfl (.tmp 57) (.tmp 60) 43 rfl (w2.heap.size + 1) 45 i0 (.agg #[.int .i64 0, .int .i64 0, .int .i64 0, .int .i64 0]) 4 32 Try.underlying43 hi hz0 hz1 hz2 rfl (by decide) _ _ _ rfl (unhideI HP8) ⟨_, 0, none⟩ 1 1 [.int .i64 15, .int .i64 k, .int .i64 0, .int .i64 0] rfl rfl (new_c1 _ #[.int .i64 15, .int .i64 k, .int .i64 0, .int .i64 0] _ _ hsz.symm) (by simp [Value.oneCell']) (by decide) (by unfold maxLen; omega) (by omega) (by simp; omega) _ rfl ?_; intro g3 c3 w3 own3 grow3 at3 lt3; have P3 := hideI (show OwnI w3 (w2.heap.size + 1) (.slice (some ⟨g3, 0, none⟩) (k + 1) c3) (k + 1) (up0 (k + 1)) by unfold OwnI; rw [up0_snoc]; exact own3); have Q3 := hideI (own_keep (unhideI HQ8) grow3 (unhideI hap)); have A3 := hideI (show Apart (.slice (some ⟨g3, 0, none⟩) (k + 1) c3) u11 from fun j hj hq' => by simp [Value.ownBlock] at hj; subst hj; rcases at3 with h | h; exact unhideI hap _ h hq'; have := (own_lt (unhideI HQ8) _ hq').2; rw [h] at this; exact absurd this (Nat.lt_irrefl _)); have B3 := hideI (Box.grown ((unhideI hbx2).step (below_a _ _)) grow3 (fun e => by have := (own_lt (unhideI HP8) _ e.symm).1; omega)); have KB3 := hideI (Below.grown ((unhideI hb2).alloc (by omega) _) grow3 (by simp; omega) (fun j hj => by have := (own_lt (unhideI HP8) _ hj).1; omega)); have sz3 := (unhideI KB3).size; have HQ9 := hideI ((unhideI Q3).new (.cells #[.int .i64 18, .int .i64 dd, .int .i64 0, .int .i64 0] 45)); clear own3 grow3 at3) | (at_builtin; refine wpList_append_lies _ rfl (.tmp 62) (.tmp 69) 43 rfl (w2.heap.size + 1) 45 i0 (.agg #[.int .i64 0, .int .i64 0, .int .i64 0, .int .i64 0]) 4 32 Try.underlying43 hi hz0 hz1 hz2 rfl (by decide) _ _ _ rfl (unhideI HQ9) ⟨_, 0, none⟩ 1 1 [.int .i64 18, .int .i64 dd, .int .i64 0, .int .i64 0] rfl rfl (new_c1 _ #[.int .i64 18, .int .i64 dd, .int .i64 0, .int .i64 0] _ _ rfl) (by simp [Value.oneCell']) (by decide) (by unfold maxLen; omega) (by omega) (by simp; omega) _ rfl ?_; intro g4 c4 w4 own4 grow4 at4 lt4; have Q4 := hideI (show OwnI w4 (w2.heap.size + 1) (.slice (some ⟨g4, 0, none⟩) (k + 1) c4) (k + 1) (dn0 1 (k + 1)) by unfold OwnI; rw [dn0_snoc, ← unhideI HDD]; exact own4); have P4 := hideI (own_keep ((unhideI P3).new _) grow4 (fun j h1 h2 => unhideI A3 j h2 h1)); have A4 := hideI (show Apart (.slice (some ⟨g3, 0, none⟩) (k + 1) c3) (.slice (some ⟨g4, 0, none⟩) (k + 1) c4) from fun j h1 h2 => by simp [Value.ownBlock] at h1 h2; subst h1; subst h2; rcases at4 with h | h; exact unhideI A3 _ rfl h; simp at h; omega); have B4 := hideI (Box.grown ((unhideI B3).step (below_a _ _)) grow4 (fun e => by have := (own_lt (unhideI HQ9) _ e.symm).1; omega)); have KB4 := hideI (Below.grown ((unhideI KB3).alloc (by omega) _) grow4 (by simp; omega) (fun j hj => by have := (own_lt (unhideI HQ9) _ hj).1; omega)); clear own4 grow4 at4))
        go_roundg (1 - (k + 1))
        case measure => omega
        case rel => exact ⟨k + 1, by omega, rfl, by go_num, P4, Q4, A4, B4, KB4⟩
      · have hkn : k = 1 := by omega
        subst hkn
        obtain ⟨gp, cp, rfl⟩ := own_form (unhideI hp) (by decide)
        obtain ⟨gq, cq, rfl⟩ := own_form (unhideI hq) (by decide)
        have hne : gp ≠ gq := fun e => unhideI hap gp rfl (by rw [e]; rfl)
        have hne2 : gq ≠ gp := Ne.symm hne
        have lp := own_lt (unhideI hp) gp rfl
        have lq := own_lt (unhideI hq) gq rfl
        have n1 : gp ≠ w2.heap.size := by omega
        have n2 : w2.heap.size ≠ gp := by omega
        have n3 : gq ≠ w2.heap.size := by omega
        have n4 : w2.heap.size ≠ gq := by omega
        have fp := World.ownsRow.frozenAt (unhideI hp) 0
        have fq := World.ownsRow.frozenAt (unhideI hq) 0
        have cp0 : wr.cell? ⟨gp, 0, none⟩ = some (.int .i64 15) := (World.ownsRow.cellAt (unhideI hp) 0 (by decide)).trans rfl
        have cq0 : wr.cell? ⟨gq, 0, none⟩ = some (.int .i64 18) := (World.ownsRow.cellAt (unhideI hq) 0 (by decide)).trans rfl
        have st := unhideI hbx
        have s0 := st.2.1 0 _ rfl
        have s1 := st.2.1 1 _ rfl
        have s2 := st.2.1 2 _ rfl
        have s3 := st.2.1 3 _ rfl
        have s4 := st.2.1 4 _ rfl
        have s5 := st.2.1 5 _ rfl
        have s6 := st.2.1 6 _ rfl
        have s7 := st.2.1 7 _ rfl
        have s8 := st.2.1 8 _ rfl
        have s9 := st.2.1 9 _ rfl
        have s10 := st.2.1 10 _ rfl
        have s11 := st.2.1 11 _ rfl
        have s12 := st.2.1 12 _ rfl
        have s13 := st.2.1 13 _ rfl
        clear st
        obtain ⟨ou, od⟩ := own_firsts (u := .int .i64 14) (v := .int .i64 16) (unhideI hp) (unhideI hq) hne
        rw [up0_cells] at ou
        rw [dn0_cells] at od
        have UP := hideI ou
        have DN := hideI od
        clear ou od
        have BX := hideI (((unhideI hbx).other (b' := gp) (j := 0) (u := .int .i64 14) n2).other (b' := gq) (j := 0) (u := .int .i64 16) n4)
        have KB := hideI (((unhideI hb).setCell (p := ⟨gp, 0, none⟩) (by show w2.heap.size ≤ gp; omega) (.int .i64 14)).setCell (p := ⟨gq, 0, none⟩) (by show w2.heap.size ≤ gq; omega) (.int .i64 16))
        have hsz : ((wr.setCell ⟨gp, 0, none⟩ (.int .i64 14)).setCell ⟨gq, 0, none⟩ (.int .i64 16)).heap.size = wr.heap.size := by simp [World.setCell]
        obtain ⟨rt1, rt2⟩ := upI_right 1 (by decide)
        obtain ⟨rd1, rd2⟩ := dnI_right 16 (by decide) 1 (by decide) 1 (Nat.le_refl _)
        have R1 := hideI (fun v B w ho hB => lawRun_any (upI 1) (shS x 1) (.slice none 0 0) v B w ho hB (Lies.nil _ _) (fun _ h => absurd rfl h) rt1 rt2 (by decide) (shS_wrong (unhideI HX) 1) rfl)
        have R2 := hideI (fun v B w ho hB => lawRun_any (dnI 16 1 1) (shS x 1) (.slice none 0 0) v B w ho hB (Lies.nil _ _) (fun _ h => absurd rfl h) rd1 rd2 (by rw [dnI_len]; decide) (shS_wrong (unhideI HX) 1) rfl)
        obtain ⟨u1, u2⟩ := up_end (unhideI HX) 1 (by decide)
        obtain ⟨d1, d2⟩ := dn_end (x := x) 16 (by decide) 1 (by decide)
        clear rt1 rt2 rd1 rd2
        generalize endM ((startM (shS x 1)).line [] (upI 1)) = m1 at *
        generalize endM ((startM (shS x 1)).line [] (dnI 16 1 1)) = m2 at *
        rw [upI_len] at R1
        rw [dnI_len] at R2
        have U1 := hideI u1
        have U2 := hideI u2
        have D1 := hideI d1
        have D2 := hideI d2
        clear u1 u2 d1 d2
        unfold St.val St.cells shS at R1 R2
        dsimp only at R1 R2
        go_wp2_with fail
        generalize (wr.setCell ⟨gp, 0, none⟩ (.int .i64 14)).setCell ⟨gq, 0, none⟩ (.int .i64 16) = W5 at *
        clear s0 s1 s2 s3 s4 s5 s6 s7 s8 s9 s10 s11 s12 s13 cp0 cq0 fp fq hp hq hap hbx hb
        refine (unhideI R1 _ (w2.heap.size + 1) _ (unhideI UP) (by omega)).mono ?_
        rintro e w6 ⟨vo6, vm6, rfl, i6, o6, g6⟩
        have DN6 := hideI (World.ownsRow.kept (unhideI DN) g6 (.inr (by simp [Value.ownBlock]; exact hne2)))
        have BX6 := hideI (Box.grown (unhideI BX) g6 (by simp [Value.ownBlock]; exact n2))
        have KB6 := hideI (Below.grown (unhideI KB) g6 (by omega) (fun j hj => by simp [Value.ownBlock] at hj; omega))
        have l6 := g6.size
        obtain ⟨m6, c6, rfl, _, _⟩ := i6.at
        obtain ⟨n6, d6, rfl, _, _⟩ := o6.at
        clear i6 o6 g6 R1 UP DN BX KB
        unfold ranV
        go_wp2_with (refine wpList_store_row rfl 31 (.tmp 14) (.tmp 83) rfl w6.heap.size (ranC m1 (.slice n6 m1.out.length d6) (.slice m6 (memL m1.mem).length c6)) rfl rfl 31 #[.int .i64 0, .int .i64 0, .slice none 0 0, .int .i64 0, .int .i64 0, .int .i64 0, .int .i64 0, .int .i64 0, .int .i64 0, .int .i64 0, .int .i64 0, .int .i64 0, .int .i64 0, .bool false, .bool false, .bool false, .bool false, .int .i64 0, .slice none 0 0] (heap_new _ _) Try.sizeRan rfl (ranC_one _ _ _ _ _ _ _) ?_; have SN := hideI (store_new w6 #[.int .i64 0, .int .i64 0, .slice none 0 0, .int .i64 0, .int .i64 0, .int .i64 0, .int .i64 0, .int .i64 0, .int .i64 0, .int .i64 0, .int .i64 0, .int .i64 0, .int .i64 0, .bool false, .bool false, .bool false, .bool false, .int .i64 0, .slice none 0 0] (ranC m1 (.slice n6 m1.out.length d6) (.slice m6 (memL m1.mem).length c6)) 31); have SH := hideI (store_heap w6 #[.int .i64 0, .int .i64 0, .slice none 0 0, .int .i64 0, .int .i64 0, .int .i64 0, .int .i64 0, .int .i64 0, .int .i64 0, .int .i64 0, .int .i64 0, .int .i64 0, .int .i64 0, .bool false, .bool false, .bool false, .bool false, .int .i64 0, .slice none 0 0] (ranC m1 (.slice n6 m1.out.length d6) (.slice m6 (memL m1.mem).length c6)) 31); generalize (w6.alloc (.cells #[.int .i64 0, .int .i64 0, .slice none 0 0, .int .i64 0, .int .i64 0, .int .i64 0, .int .i64 0, .int .i64 0, .int .i64 0, .int .i64 0, .int .i64 0, .int .i64 0, .int .i64 0, .bool false, .bool false, .bool false, .bool false, .int .i64 0, .slice none 0 0] 31)).setRow w6.heap.size (ranC m1 (.slice n6 m1.out.length d6) (.slice m6 (memL m1.mem).length c6)) = w7 at *; have st := (unhideI BX6).step (unhideI SN).2; have s0 := st.2.1 0 _ rfl; have s1 := st.2.1 1 _ rfl; have s2 := st.2.1 2 _ rfl; have s3 := st.2.1 3 _ rfl; have s4 := st.2.1 4 _ rfl; have s5 := st.2.1 5 _ rfl; have s6 := st.2.1 6 _ rfl; have s7 := st.2.1 7 _ rfl; have s8 := st.2.1 8 _ rfl; have s9 := st.2.1 9 _ rfl; have s10 := st.2.1 10 _ rfl; have s11 := st.2.1 11 _ rfl; have s12 := st.2.1 12 _ rfl; have s13 := st.2.1 13 _ rfl; have ls := st.1; clear st)
        have K7 := hideI (bt (unhideI KB6) (unhideI SN).2)
        have DN7 := hideI (own_step (unhideI DN6) (unhideI SN).2)
        refine (unhideI R2 _ (w2.heap.size + 1) _ (unhideI DN7) (by have := (unhideI SN).1.1; omega)).mono ?_
        rintro e w8 ⟨vo8, vm8, rfl, i8, o8, g8⟩
        have K8 := hideI (Below.grown (unhideI K7) g8 (by have := (unhideI SN).1.1; omega) (fun j hj => by simp [Value.ownBlock] at hj; omega))
        have A8 := hideI (Box.grown (unhideI SN).1 g8 (by simp [Value.ownBlock]; omega))
        obtain ⟨m8, c8, rfl, _, _⟩ := i8.at
        obtain ⟨n8, d8, rfl, _, _⟩ := o8.at
        clear i8 o8 g8 R2 DN6 DN7 BX6 KB6 K7 SN SH s0 s1 s2 s3 s4 s5 s6 s7 s8 s9 s10 s11 s12 s13
        unfold ranV
        go_wp2_with (refine wpList_store_row rfl 31 (.tmp 16) (.tmp 89) rfl w8.heap.size (ranC m2 (.slice n8 m2.out.length d8) (.slice m8 (memL m2.mem).length c8)) rfl rfl 31 #[.int .i64 0, .int .i64 0, .slice none 0 0, .int .i64 0, .int .i64 0, .int .i64 0, .int .i64 0, .int .i64 0, .int .i64 0, .int .i64 0, .int .i64 0, .int .i64 0, .int .i64 0, .bool false, .bool false, .bool false, .bool false, .int .i64 0, .slice none 0 0] (heap_new _ _) Try.sizeRan rfl (ranC_one _ _ _ _ _ _ _) ?_; have S9 := hideI (store_new w8 #[.int .i64 0, .int .i64 0, .slice none 0 0, .int .i64 0, .int .i64 0, .int .i64 0, .int .i64 0, .int .i64 0, .int .i64 0, .int .i64 0, .int .i64 0, .int .i64 0, .int .i64 0, .bool false, .bool false, .bool false, .bool false, .int .i64 0, .slice none 0 0] (ranC m2 (.slice n8 m2.out.length d8) (.slice m8 (memL m2.mem).length c8)) 31); have H9 := hideI (store_heap w8 #[.int .i64 0, .int .i64 0, .slice none 0 0, .int .i64 0, .int .i64 0, .int .i64 0, .int .i64 0, .int .i64 0, .int .i64 0, .int .i64 0, .int .i64 0, .int .i64 0, .int .i64 0, .bool false, .bool false, .bool false, .bool false, .int .i64 0, .slice none 0 0] (ranC m2 (.slice n8 m2.out.length d8) (.slice m8 (memL m2.mem).length c8)) 31); generalize (w8.alloc (.cells #[.int .i64 0, .int .i64 0, .slice none 0 0, .int .i64 0, .int .i64 0, .int .i64 0, .int .i64 0, .int .i64 0, .int .i64 0, .int .i64 0, .int .i64 0, .int .i64 0, .int .i64 0, .bool false, .bool false, .bool false, .bool false, .int .i64 0, .slice none 0 0] 31)).setRow w8.heap.size (ranC m2 (.slice n8 m2.out.length d8) (.slice m8 (memL m2.mem).length c8)) = w9 at *)
        have A9 := hideI ((unhideI A8).step (unhideI S9).2)
        have K9 := hideI (bt (unhideI K8) (unhideI S9).2)
        have X9 := hideI (Ints.step (unhideI XI) (unhideI K9))
        have J1 := join_n hw w6.heap.size m1.r w9 (fun i hi => by rw [unhideI U1 i hi]; exact upb_wd (unhideI HX i) (cin_b (n := 1) (fun j _ => unhideI HX j) i (by omega))) (fun i hi => ran_regs (unhideI A9) i (by omega))
        have J2 := join_n hw w8.heap.size m2.r w9 (fun i hi => by rw [unhideI D1 i hi]; exact dnb_wd (unhideI HX i) (by split; exact topIn_b _ (unhideI HX i); omega)) (fun i hi => ran_regs (unhideI S9).1 i (by omega))
        rw [(num_congr (unhideI U1)).trans (unhideI UN)] at J1
        rw [(num_congr (unhideI D1)).trans (unhideI DQ)] at J2
        have SL := fun w => shl_any a 1 16 w hw.isW ha ⟨by decide, by decide⟩
        have SR := fun w => shr_u a 1 16 w hw.isW ha ⟨by decide, by decide⟩
        rw [two_pow] at SL SR
        refine J1.mono ?_
        rintro e w10 ⟨rfl, h10⟩
        subst w10
        clear J1
        go_wp2_with fail
        refine J2.mono ?_
        rintro e w10 ⟨rfl, h10⟩
        subst w10
        clear J2
        go_wp2_with fail
        refine (SL _).mono ?_
        rintro e w11 ⟨rfl, k11⟩
        go_wp2_with fail
        refine (SR _).mono ?_
        rintro e w12 ⟨rfl, k12⟩
        have k9 := bt k11 k12
        clear k11 k12 SL SR
        generalize cut 16 (a * 2) = PL at *
        generalize cut 16 a / 2 = QR at *
        have A12 := (unhideI A9).step k9
        have f1 := A12.2.1 13 _ rfl
        rw [unhideI U2, top_cmp (unhideI HX _)] at f1
        have B12 := (unhideI S9).1.step k9
        have f2 := B12.2.1 13 _ rfl
        rw [unhideI D2] at f2
        have zz1 := A12.1
        have zz2 := B12.1
        have x0 := ws_cell (unhideI HXL) (Ints.step (unhideI X9) k9) 0 (by decide)
        have xn := ws_cell (unhideI HXL) (Ints.step (unhideI X9) k9) 0 (by decide)
        have bx0 := unhideI HX 0
        unfold wd at bx0
        have e1 : (decide (32767 < x 0) == decide (32767 < x 0)) = true := by simp
        have e2 : ((x 0 % 2 == 1) == (x 0 % 2 == 1)) = true := by simp
        have e3 : (PL == PL) = true := by simp
        have e4 : (QR == QR) = true := by simp
        have KF := hideI (bt (bt (unhideI K2) (unhideI K9)) k9)
        clear A12 B12 A9 S9 H9 A8 X9 K9 K8 XI HXL U1 U2 D1 D2 UN DQ
        go_wp2_with fail
        go_quiet (fail)
        go_wp2_with fail
        go_ret
        exact ⟨rfl, bdr (unhideI KF) _⟩

  · 
    go_enter Try.func5, Try.ntmps5
    go_wp2_with fail
    refine (alive3 _).mono ?_
    rintro e w1 ⟨rfl, k1⟩
    have K1 := hideI k1
    clear k1
    go_wp2_with fail
    refine (SP _).mono ?_
    rintro e w2 ⟨rfl, i2, k2⟩
    have XI := hideI i2
    have K2 := hideI (bt (unhideI K1) k2)
    clear i2 k2
    go_wp2_with fail
    have SB : Hid (Box (w2.alloc (.cells #[.int .i64 0, .int .i64 0, .int .i64 0, .int .i64 0, .int .i64 0, .int .i64 0, .int .i64 0, .int .i64 0, .bool false, .bool false, .bool false, .bool false, .int .i64 0, .slice none 0 0] 27)) w2.heap.size (stL (rg (w16 (cut 16 a)) 0))) := Box.new w2 #[.int .i64 0, .int .i64 0, .int .i64 0, .int .i64 0, .int .i64 0, .int .i64 0, .int .i64 0, .int .i64 0, .bool false, .bool false, .bool false, .bool false, .int .i64 0, .slice none 0 0] 27
    have KS := hideI (below_a w2 (.cells #[.int .i64 0, .int .i64 0, .int .i64 0, .int .i64 0, .int .i64 0, .int .i64 0, .int .i64 0, .int .i64 0, .bool false, .bool false, .bool false, .bool false, .int .i64 0, .slice none 0 0] 27))
    have hs3 : (w2.alloc (.cells #[.int .i64 0, .int .i64 0, .int .i64 0, .int .i64 0, .int .i64 0, .int .i64 0, .int .i64 0, .int .i64 0, .bool false, .bool false, .bool false, .bool false, .int .i64 0, .slice none 0 0] 27)).heap.size = w2.heap.size + 1 := by simp
    generalize w2.alloc (.cells #[.int .i64 0, .int .i64 0, .int .i64 0, .int .i64 0, .int .i64 0, .int .i64 0, .int .i64 0, .int .i64 0, .bool false, .bool false, .bool false, .bool false, .int .i64 0, .slice none 0 0] 27) = W3 at *
    have UN := hideI (up_num hw a)
    have DQ := hideI (dn_num hw a true)
    simp only [Bool.false_eq_true, if_false, if_true] at DQ
    have HXL : Hid (wsL 1 (cut 16 a) = (List.range 1).map (w16 (cut 16 a))) := rfl
    generalize wsL 1 (cut 16 a) = xl at *
    generalize w16 (cut 16 a) = x at *
    go_loopg [10, 11, 47] 1 (fun g p q t wr => ∃ k : Nat, k ≤ 1 ∧ g = 1 - k ∧ t = .int .i64 k ∧ Hid (OwnI wr (w2.heap.size + 1) p k (up0 k)) ∧ Hid (OwnI wr (w2.heap.size + 1) q k (dn0 1 k)) ∧ Hid (Apart p q) ∧ Hid (Box wr w2.heap.size (stL (rg x k))) ∧ Hid (Below w2.heap.size w2 wr))
    case atStart => exact ⟨0, Nat.zero_le _, rfl, rfl, World.ownsRow_nil _ _ _ _, World.ownsRow_nil _ _ _ _, (fun k h => by cases h), SB, KS⟩
    case round =>
      obtain ⟨k, hk, hgk, rfl, hp, hq, hap, hbx, hb⟩ := hrel
      clear SB
      have hzr := (unhideI hbx).1
      by_cases hlt : k < 1
      · have c0 := ws_cell (unhideI HXL) (Ints.step (unhideI XI) (unhideI hb)) k hlt
        have fz := (unhideI hbx).2.2
        have c8 := (unhideI hbx).2.1 k _ (stL_at (rg x k) k (by omega))
        generalize rg x k k = ry at c8
        have hbx2 := hideI (show Box (wr.setCell ⟨w2.heap.size, k, none⟩ (.int .i64 (x k))) w2.heap.size (stL (rg x (k + 1))) by have h := (unhideI hbx).set (j := k) (u := .int .i64 (x k)) (by simp [stL]; omega); rw [stL_set _ _ _ (by omega), rg_next] at h; exact h)
        have hp2 := hideI (show OwnI (wr.setCell ⟨w2.heap.size, k, none⟩ (.int .i64 (x k))) (w2.heap.size + 1) _ k (up0 k) from ownsRow_setCell_below (unhideI hp) (by simp) _)
        have hq2 := hideI (show OwnI (wr.setCell ⟨w2.heap.size, k, none⟩ (.int .i64 (x k))) (w2.heap.size + 1) _ k (dn0 1 k) from ownsRow_setCell_below (unhideI hq) (by simp) _)
        have hb2 := hideI ((unhideI hb).setCell (p := ⟨w2.heap.size, k, none⟩) (Nat.le_refl _) (.int .i64 (x k)))
        obtain ⟨dd, hdd⟩ : ∃ dd : Int, dd = ((1 - 1 - k : Nat) : Int) := ⟨_, rfl⟩
        have hD1 : ((1 : Int) - 1 - k) = dd := by omega
        have hD2 : ((0 : Int) - k) = dd := by omega
        have hD3 : (-(k : Int)) = dd := by omega
        have HDD := hideI hdd
        clear hdd
        have HP8 := hideI ((unhideI hp2).new (.cells #[.int .i64 15, .int .i64 k, .int .i64 0, .int .i64 0] 45))
        have HQ8 := hideI ((unhideI hq2).new (.cells #[.int .i64 15, .int .i64 k, .int .i64 0, .int .i64 0] 45))
        have hsz : (wr.setCell ⟨w2.heap.size, k, none⟩ (.int .i64 (x k))).heap.size = wr.heap.size := by simp [World.setCell]
        go_wp2_with (first | (at_builtin; refine wpList_append_lies _ rfl (.tmp 57) (.tmp 60) 43 rfl (w2.heap.size + 1) 45 i0 (.agg #[.int .i64 0, .int .i64 0, .int .i64 0, .int .i64 0]) 4 32 Try.underlying43 hi hz0 hz1 hz2 rfl (by decide) _ _ _ rfl (unhideI HP8) ⟨_, 0, none⟩ 1 1 [.int .i64 15, .int .i64 k, .int .i64 0, .int .i64 0] rfl rfl (new_c1 _ #[.int .i64 15, .int .i64 k, .int .i64 0, .int .i64 0] _ _ hsz.symm) (by simp [Value.oneCell']) (by decide) (by unfold maxLen; omega) (by omega) (by simp; omega) _ rfl ?_; intro g3 c3 w3 own3 grow3 at3 lt3; have P3 := hideI (show OwnI w3 (w2.heap.size + 1) (.slice (some ⟨g3, 0, none⟩) (k + 1) c3) (k + 1) (up0 (k + 1)) by unfold OwnI; rw [up0_snoc]; exact own3); have Q3 := hideI (own_keep (unhideI HQ8) grow3 (unhideI hap)); have A3 := hideI (show Apart (.slice (some ⟨g3, 0, none⟩) (k + 1) c3) u11 from fun j hj hq' => by simp [Value.ownBlock] at hj; subst hj; rcases at3 with h | h; exact unhideI hap _ h hq'; have := (own_lt (unhideI HQ8) _ hq').2; rw [h] at this; exact absurd this (Nat.lt_irrefl _)); have B3 := hideI (Box.grown ((unhideI hbx2).step (below_a _ _)) grow3 (fun e => by have := (own_lt (unhideI HP8) _ e.symm).1; omega)); have KB3 := hideI (Below.grown ((unhideI hb2).alloc (by omega) _) grow3 (by simp; omega) (fun j hj => by have := (own_lt (unhideI HP8) _ hj).1; omega)); have sz3 := (unhideI KB3).size; have HQ9 := hideI ((unhideI Q3).new (.cells #[.int .i64 18, .int .i64 dd, .int .i64 0, .int .i64 0] 45)); clear own3 grow3 at3) | (at_builtin; refine wpList_append_lies _ rfl (.tmp 62) (.tmp 69) 43 rfl (w2.heap.size + 1) 45 i0 (.agg #[.int .i64 0, .int .i64 0, .int .i64 0, .int .i64 0]) 4 32 Try.underlying43 hi hz0 hz1 hz2 rfl (by decide) _ _ _ rfl (unhideI HQ9) ⟨_, 0, none⟩ 1 1 [.int .i64 18, .int .i64 dd, .int .i64 0, .int .i64 0] rfl rfl (new_c1 _ #[.int .i64 18, .int .i64 dd, .int .i64 0, .int .i64 0] _ _ rfl) (by simp [Value.oneCell']) (by decide) (by unfold maxLen; omega) (by omega) (by simp; omega) _ rfl ?_; intro g4 c4 w4 own4 grow4 at4 lt4; have Q4 := hideI (show OwnI w4 (w2.heap.size + 1) (.slice (some ⟨g4, 0, none⟩) (k + 1) c4) (k + 1) (dn0 1 (k + 1)) by unfold OwnI; rw [dn0_snoc, ← unhideI HDD]; exact own4); have P4 := hideI (own_keep ((unhideI P3).new _) grow4 (fun j h1 h2 => unhideI A3 j h2 h1)); have A4 := hideI (show Apart (.slice (some ⟨g3, 0, none⟩) (k + 1) c3) (.slice (some ⟨g4, 0, none⟩) (k + 1) c4) from fun j h1 h2 => by simp [Value.ownBlock] at h1 h2; subst h1; subst h2; rcases at4 with h | h; exact unhideI A3 _ rfl h; simp at h; omega); have B4 := hideI (Box.grown ((unhideI B3).step (below_a _ _)) grow4 (fun e => by have := (own_lt (unhideI HQ9) _ e.symm).1; omega)); have KB4 := hideI (Below.grown ((unhideI KB3).alloc (by omega) _) grow4 (by simp; omega) (fun j hj => by have := (own_lt (unhideI HQ9) _ hj).1; omega)); clear own4 grow4 at4))
        go_roundg (1 - (k + 1))
        case measure => omega
        case rel => exact ⟨k + 1, by omega, rfl, by go_num, P4, Q4, A4, B4, KB4⟩
      · have hkn : k = 1 := by omega
        subst hkn
        obtain ⟨gp, cp, rfl⟩ := own_form (unhideI hp) (by decide)
        obtain ⟨gq, cq, rfl⟩ := own_form (unhideI hq) (by decide)
        have hne : gp ≠ gq := fun e => unhideI hap gp rfl (by rw [e]; rfl)
        have hne2 : gq ≠ gp := Ne.symm hne
        have lp := own_lt (unhideI hp) gp rfl
        have lq := own_lt (unhideI hq) gq rfl
        have n1 : gp ≠ w2.heap.size := by omega
        have n2 : w2.heap.size ≠ gp := by omega
        have n3 : gq ≠ w2.heap.size := by omega
        have n4 : w2.heap.size ≠ gq := by omega
        have fp := World.ownsRow.frozenAt (unhideI hp) 0
        have fq := World.ownsRow.frozenAt (unhideI hq) 0
        have cp0 : wr.cell? ⟨gp, 0, none⟩ = some (.int .i64 15) := (World.ownsRow.cellAt (unhideI hp) 0 (by decide)).trans rfl
        have cq0 : wr.cell? ⟨gq, 0, none⟩ = some (.int .i64 18) := (World.ownsRow.cellAt (unhideI hq) 0 (by decide)).trans rfl
        have st := unhideI hbx
        have s0 := st.2.1 0 _ rfl
        have s1 := st.2.1 1 _ rfl
        have s2 := st.2.1 2 _ rfl
        have s3 := st.2.1 3 _ rfl
        have s4 := st.2.1 4 _ rfl
        have s5 := st.2.1 5 _ rfl
        have s6 := st.2.1 6 _ rfl
        have s7 := st.2.1 7 _ rfl
        have s8 := st.2.1 8 _ rfl
        have s9 := st.2.1 9 _ rfl
        have s10 := st.2.1 10 _ rfl
        have s11 := st.2.1 11 _ rfl
        have s12 := st.2.1 12 _ rfl
        have s13 := st.2.1 13 _ rfl
        clear st
        obtain ⟨ou, od⟩ := own_firsts (u := .int .i64 14) (v := .int .i64 17) (unhideI hp) (unhideI hq) hne
        rw [up0_cells] at ou
        rw [dn0_cells] at od
        have UP := hideI ou
        have DN := hideI od
        clear ou od
        have BX := hideI (((unhideI hbx).other (b' := gp) (j := 0) (u := .int .i64 14) n2).other (b' := gq) (j := 0) (u := .int .i64 17) n4)
        have KB := hideI (((unhideI hb).setCell (p := ⟨gp, 0, none⟩) (by show w2.heap.size ≤ gp; omega) (.int .i64 14)).setCell (p := ⟨gq, 0, none⟩) (by show w2.heap.size ≤ gq; omega) (.int .i64 17))
        have hsz : ((wr.setCell ⟨gp, 0, none⟩ (.int .i64 14)).setCell ⟨gq, 0, none⟩ (.int .i64 17)).heap.size = wr.heap.size := by simp [World.setCell]
        obtain ⟨rt1, rt2⟩ := upI_right 1 (by decide)
        obtain ⟨rd1, rd2⟩ := dnI_right 17 (by decide) 1 (by decide) 1 (Nat.le_refl _)
        have R1 := hideI (fun v B w ho hB => lawRun_any (upI 1) (shS x 1) (.slice none 0 0) v B w ho hB (Lies.nil _ _) (fun _ h => absurd rfl h) rt1 rt2 (by decide) (shS_wrong (unhideI HX) 1) rfl)
        have R2 := hideI (fun v B w ho hB => lawRun_any (dnI 17 1 1) (shS x 1) (.slice none 0 0) v B w ho hB (Lies.nil _ _) (fun _ h => absurd rfl h) rd1 rd2 (by rw [dnI_len]; decide) (shS_wrong (unhideI HX) 1) rfl)
        obtain ⟨u1, u2⟩ := up_end (unhideI HX) 1 (by decide)
        obtain ⟨d1, d2⟩ := dn_end (x := x) 17 (by decide) 1 (by decide)
        clear rt1 rt2 rd1 rd2
        generalize endM ((startM (shS x 1)).line [] (upI 1)) = m1 at *
        generalize endM ((startM (shS x 1)).line [] (dnI 17 1 1)) = m2 at *
        rw [upI_len] at R1
        rw [dnI_len] at R2
        have U1 := hideI u1
        have U2 := hideI u2
        have D1 := hideI d1
        have D2 := hideI d2
        clear u1 u2 d1 d2
        unfold St.val St.cells shS at R1 R2
        dsimp only at R1 R2
        go_wp2_with fail
        generalize (wr.setCell ⟨gp, 0, none⟩ (.int .i64 14)).setCell ⟨gq, 0, none⟩ (.int .i64 17) = W5 at *
        clear s0 s1 s2 s3 s4 s5 s6 s7 s8 s9 s10 s11 s12 s13 cp0 cq0 fp fq hp hq hap hbx hb
        refine (unhideI R1 _ (w2.heap.size + 1) _ (unhideI UP) (by omega)).mono ?_
        rintro e w6 ⟨vo6, vm6, rfl, i6, o6, g6⟩
        have DN6 := hideI (World.ownsRow.kept (unhideI DN) g6 (.inr (by simp [Value.ownBlock]; exact hne2)))
        have BX6 := hideI (Box.grown (unhideI BX) g6 (by simp [Value.ownBlock]; exact n2))
        have KB6 := hideI (Below.grown (unhideI KB) g6 (by omega) (fun j hj => by simp [Value.ownBlock] at hj; omega))
        have l6 := g6.size
        obtain ⟨m6, c6, rfl, _, _⟩ := i6.at
        obtain ⟨n6, d6, rfl, _, _⟩ := o6.at
        clear i6 o6 g6 R1 UP DN BX KB
        unfold ranV
        go_wp2_with (refine wpList_store_row rfl 31 (.tmp 14) (.tmp 83) rfl w6.heap.size (ranC m1 (.slice n6 m1.out.length d6) (.slice m6 (memL m1.mem).length c6)) rfl rfl 31 #[.int .i64 0, .int .i64 0, .slice none 0 0, .int .i64 0, .int .i64 0, .int .i64 0, .int .i64 0, .int .i64 0, .int .i64 0, .int .i64 0, .int .i64 0, .int .i64 0, .int .i64 0, .bool false, .bool false, .bool false, .bool false, .int .i64 0, .slice none 0 0] (heap_new _ _) Try.sizeRan rfl (ranC_one _ _ _ _ _ _ _) ?_; have SN := hideI (store_new w6 #[.int .i64 0, .int .i64 0, .slice none 0 0, .int .i64 0, .int .i64 0, .int .i64 0, .int .i64 0, .int .i64 0, .int .i64 0, .int .i64 0, .int .i64 0, .int .i64 0, .int .i64 0, .bool false, .bool false, .bool false, .bool false, .int .i64 0, .slice none 0 0] (ranC m1 (.slice n6 m1.out.length d6) (.slice m6 (memL m1.mem).length c6)) 31); have SH := hideI (store_heap w6 #[.int .i64 0, .int .i64 0, .slice none 0 0, .int .i64 0, .int .i64 0, .int .i64 0, .int .i64 0, .int .i64 0, .int .i64 0, .int .i64 0, .int .i64 0, .int .i64 0, .int .i64 0, .bool false, .bool false, .bool false, .bool false, .int .i64 0, .slice none 0 0] (ranC m1 (.slice n6 m1.out.length d6) (.slice m6 (memL m1.mem).length c6)) 31); generalize (w6.alloc (.cells #[.int .i64 0, .int .i64 0, .slice none 0 0, .int .i64 0, .int .i64 0, .int .i64 0, .int .i64 0, .int .i64 0, .int .i64 0, .int .i64 0, .int .i64 0, .int .i64 0, .int .i64 0, .bool false, .bool false, .bool false, .bool false, .int .i64 0, .slice none 0 0] 31)).setRow w6.heap.size (ranC m1 (.slice n6 m1.out.length d6) (.slice m6 (memL m1.mem).length c6)) = w7 at *; have st := (unhideI BX6).step (unhideI SN).2; have s0 := st.2.1 0 _ rfl; have s1 := st.2.1 1 _ rfl; have s2 := st.2.1 2 _ rfl; have s3 := st.2.1 3 _ rfl; have s4 := st.2.1 4 _ rfl; have s5 := st.2.1 5 _ rfl; have s6 := st.2.1 6 _ rfl; have s7 := st.2.1 7 _ rfl; have s8 := st.2.1 8 _ rfl; have s9 := st.2.1 9 _ rfl; have s10 := st.2.1 10 _ rfl; have s11 := st.2.1 11 _ rfl; have s12 := st.2.1 12 _ rfl; have s13 := st.2.1 13 _ rfl; have ls := st.1; clear st)
        have K7 := hideI (bt (unhideI KB6) (unhideI SN).2)
        have DN7 := hideI (own_step (unhideI DN6) (unhideI SN).2)
        refine (unhideI R2 _ (w2.heap.size + 1) _ (unhideI DN7) (by have := (unhideI SN).1.1; omega)).mono ?_
        rintro e w8 ⟨vo8, vm8, rfl, i8, o8, g8⟩
        have K8 := hideI (Below.grown (unhideI K7) g8 (by have := (unhideI SN).1.1; omega) (fun j hj => by simp [Value.ownBlock] at hj; omega))
        have A8 := hideI (Box.grown (unhideI SN).1 g8 (by simp [Value.ownBlock]; omega))
        obtain ⟨m8, c8, rfl, _, _⟩ := i8.at
        obtain ⟨n8, d8, rfl, _, _⟩ := o8.at
        clear i8 o8 g8 R2 DN6 DN7 BX6 KB6 K7 SN SH s0 s1 s2 s3 s4 s5 s6 s7 s8 s9 s10 s11 s12 s13
        unfold ranV
        go_wp2_with (refine wpList_store_row rfl 31 (.tmp 16) (.tmp 89) rfl w8.heap.size (ranC m2 (.slice n8 m2.out.length d8) (.slice m8 (memL m2.mem).length c8)) rfl rfl 31 #[.int .i64 0, .int .i64 0, .slice none 0 0, .int .i64 0, .int .i64 0, .int .i64 0, .int .i64 0, .int .i64 0, .int .i64 0, .int .i64 0, .int .i64 0, .int .i64 0, .int .i64 0, .bool false, .bool false, .bool false, .bool false, .int .i64 0, .slice none 0 0] (heap_new _ _) Try.sizeRan rfl (ranC_one _ _ _ _ _ _ _) ?_; have S9 := hideI (store_new w8 #[.int .i64 0, .int .i64 0, .slice none 0 0, .int .i64 0, .int .i64 0, .int .i64 0, .int .i64 0, .int .i64 0, .int .i64 0, .int .i64 0, .int .i64 0, .int .i64 0, .int .i64 0, .bool false, .bool false, .bool false, .bool false, .int .i64 0, .slice none 0 0] (ranC m2 (.slice n8 m2.out.length d8) (.slice m8 (memL m2.mem).length c8)) 31); have H9 := hideI (store_heap w8 #[.int .i64 0, .int .i64 0, .slice none 0 0, .int .i64 0, .int .i64 0, .int .i64 0, .int .i64 0, .int .i64 0, .int .i64 0, .int .i64 0, .int .i64 0, .int .i64 0, .int .i64 0, .bool false, .bool false, .bool false, .bool false, .int .i64 0, .slice none 0 0] (ranC m2 (.slice n8 m2.out.length d8) (.slice m8 (memL m2.mem).length c8)) 31); generalize (w8.alloc (.cells #[.int .i64 0, .int .i64 0, .slice none 0 0, .int .i64 0, .int .i64 0, .int .i64 0, .int .i64 0, .int .i64 0, .int .i64 0, .int .i64 0, .int .i64 0, .int .i64 0, .int .i64 0, .bool false, .bool false, .bool false, .bool false, .int .i64 0, .slice none 0 0] 31)).setRow w8.heap.size (ranC m2 (.slice n8 m2.out.length d8) (.slice m8 (memL m2.mem).length c8)) = w9 at *)
        have A9 := hideI ((unhideI A8).step (unhideI S9).2)
        have K9 := hideI (bt (unhideI K8) (unhideI S9).2)
        have X9 := hideI (Ints.step (unhideI XI) (unhideI K9))
        have J1 := join_n hw w6.heap.size m1.r w9 (fun i hi => by rw [unhideI U1 i hi]; exact upb_wd (unhideI HX i) (cin_b (n := 1) (fun j _ => unhideI HX j) i (by omega))) (fun i hi => ran_regs (unhideI A9) i (by omega))
        have J2 := join_n hw w8.heap.size m2.r w9 (fun i hi => by rw [unhideI D1 i hi]; exact dnb_wd (unhideI HX i) (by split; exact topIn_b _ (unhideI HX i); omega)) (fun i hi => ran_regs (unhideI S9).1 i (by omega))
        rw [(num_congr (unhideI U1)).trans (unhideI UN)] at J1
        rw [(num_congr (unhideI D1)).trans (unhideI DQ)] at J2
        have SL := fun w => shl_any a 1 16 w hw.isW ha ⟨by decide, by decide⟩
        have SR := fun w => shr_s a 1 16 w hw.isW ha ⟨by decide, by decide⟩
        rw [two_pow] at SL SR
        refine J1.mono ?_
        rintro e w10 ⟨rfl, h10⟩
        subst w10
        clear J1
        go_wp2_with fail
        refine J2.mono ?_
        rintro e w10 ⟨rfl, h10⟩
        subst w10
        clear J2
        go_wp2_with fail
        refine (SL _).mono ?_
        rintro e w11 ⟨rfl, k11⟩
        go_wp2_with fail
        refine (SR _).mono ?_
        rintro e w12 ⟨rfl, k12⟩
        have k9 := bt k11 k12
        clear k11 k12 SL SR
        generalize cut 16 (a * 2) = PL at *
        generalize cut 16 (sgn 16 a / 2) = QR at *
        have A12 := (unhideI A9).step k9
        have f1 := A12.2.1 13 _ rfl
        rw [unhideI U2, top_cmp (unhideI HX _)] at f1
        have B12 := (unhideI S9).1.step k9
        have f2 := B12.2.1 13 _ rfl
        rw [unhideI D2] at f2
        have zz1 := A12.1
        have zz2 := B12.1
        have x0 := ws_cell (unhideI HXL) (Ints.step (unhideI X9) k9) 0 (by decide)
        have xn := ws_cell (unhideI HXL) (Ints.step (unhideI X9) k9) 0 (by decide)
        have bx0 := unhideI HX 0
        unfold wd at bx0
        have e1 : (decide (32767 < x 0) == decide (32767 < x 0)) = true := by simp
        have e2 : ((x 0 % 2 == 1) == (x 0 % 2 == 1)) = true := by simp
        have e3 : (PL == PL) = true := by simp
        have e4 : (QR == QR) = true := by simp
        have KF := hideI (bt (bt (unhideI K2) (unhideI K9)) k9)
        clear A12 B12 A9 S9 H9 A8 X9 K9 K8 XI HXL U1 U2 D1 D2 UN DQ
        go_wp2_with fail
        go_quiet (fail)
        go_wp2_with fail
        go_ret
        exact ⟨rfl, bdr (unhideI KF) _⟩

end Go.Proofs.Ytjlbenbfmookoab
