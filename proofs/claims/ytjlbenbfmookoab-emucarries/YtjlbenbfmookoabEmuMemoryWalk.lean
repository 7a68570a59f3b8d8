/-
  EmuMemory, walked.
-/
import Derived.Test.YtjlbenbfmookoabEmuMemory0
namespace Go.Proofs.Ytjlbenbfmookoab
open Go.RowKit
set_option linter.unusedSimpArgs false
set_option linter.unusedVariables false

theorem own_lit (w : World) (n B : Nat) (cs : Array Value) (hB : w.heap.size = B) (hm : n ≤ maxLen) (hs : cs.size = n * 4) : (w.alloc (.cells cs 45)).ownsRow B 45 4 (.slice (some ⟨B, 0, none⟩) n n) n cs.toList := by
  subst hB
  exact World.ownsRow_lit w cs n (Nat.le_refl _) hm hs

set_option maxRecDepth 100000 in
set_option maxHeartbeats 1500000 in
theorem walk_emuMemory (s : St) (a off x other : Int) (vm : Value) (w : World) (hm : Ints w vm s.mem) (_ : (Lit.int .i64 a).wf = true) (_ : (Lit.int .i64 off).wf = true) (_ : (Lit.int .i64 x).wf = true) (_ : (Lit.int .i64 other).wf = true) :
    Calls Try.prog 7 #[s.val vm, .int .i64 a, .int .i64 off, .int .i64 x, .int .i64 other] w fun e w' => e = .returned (.bool true) ∧ Below w.heap.size w w' := by
  by_cases hno : s.wrong = 0 ∧ 0 ≤ a ∧ 0 ≤ off ∧ 0 ≤ x ∧ 0 ≤ other ∧ a ≤ 65535 ∧ off ≤ 65535 ∧ x ≤ 65535 ∧ other ≤ 65535
  rotate_left
  · exact memory_no s a off x other vm w hm hno
  obtain ⟨h0, h1, h2, h3, h4, h5, h6, h7, h8⟩ := hno
  have HM := hideI hm
  obtain ⟨mo, mcap, rfl, hmx, _⟩ := hm.at
  clear hm
  unfold maxLen at hmx
  unfold St.val St.cells
  have b0 : (s.wrong != 0) = false := by simp [h0]
  have b1 : decide (a < 0) = false := by simp; omega
  have b2 : decide (off < 0) = false := by simp; omega
  have b3 : decide (x < 0) = false := by simp; omega
  have b4 : decide (other < 0) = false := by simp; omega
  have b5 : decide (65535 < a) = false := by simp; omega
  have b6 : decide (65535 < off) = false := by simp; omega
  have b7 : decide (65535 < x) = false := by simp; omega
  have b8 : decide (65535 < other) = false := by simp; omega
  go_enter Try.func7, Try.ntmps7
  go_wp2_with fail
  refine (alive3 _).mono ?_
  rintro e w1 ⟨rfl, k1⟩
  have K1 := hideI (bt (below_a w (.cells #[.int .i64 (s.r 0), .int .i64 (s.r 1), .int .i64 (s.r 2), .int .i64 (s.r 3), .int .i64 (s.r 4), .int .i64 (s.r 5), .int .i64 (s.r 6), .int .i64 (s.r 7), .bool s.c, .bool s.z, .bool s.n, .bool s.v, .int .i64 s.pc, .slice mo s.mem.length mcap] 27)) k1)
  have SB := (Box.new w #[.int .i64 (s.r 0), .int .i64 (s.r 1), .int .i64 (s.r 2), .int .i64 (s.r 3), .int .i64 (s.r 4), .int .i64 (s.r 5), .int .i64 (s.r 6), .int .i64 (s.r 7), .bool s.c, .bool s.z, .bool s.n, .bool s.v, .int .i64 s.pc, .slice mo s.mem.length mcap] 27).step k1
  have s0 := SB.2.1 0 _ rfl
  have s1 := SB.2.1 1 _ rfl
  have s2 := SB.2.1 2 _ rfl
  have s3 := SB.2.1 3 _ rfl
  have s4 := SB.2.1 4 _ rfl
  have s5 := SB.2.1 5 _ rfl
  have s6 := SB.2.1 6 _ rfl
  have s7 := SB.2.1 7 _ rfl
  have s8 := SB.2.1 8 _ rfl
  have s9 := SB.2.1 9 _ rfl
  have s10 := SB.2.1 10 _ rfl
  have s11 := SB.2.1 11 _ rfl
  have s12 := SB.2.1 12 _ rfl
  have s13 := SB.2.1 13 _ rfl
  have l1 := SB.1
  have fz1 := SB.2.2
  have WR := hideI (wrongS_any s (.slice mo s.mem.length mcap) _ ((unhideI HM).step (unhideI K1)))
  unfold St.val St.cells at WR
  clear k1
  go_wp2_with (go_at_call 22; refine (unhideI WR).mono ?_; rintro e w2 ⟨rfl, hw⟩; subst w2)
  have SB3 : Hid (Box (((w1.setCell ⟨w.heap.size, 12, none⟩ (.int .i64 0)).setCell ⟨w.heap.size, 1, none⟩ (.int .i64 a)).setCell ⟨w.heap.size, 2, none⟩ (.int .i64 x)) w.heap.size [.int .i64 (s.r 0), .int .i64 a, .int .i64 x, .int .i64 (s.r 3), .int .i64 (s.r 4), .int .i64 (s.r 5), .int .i64 (s.r 6), .int .i64 (s.r 7), .bool s.c, .bool s.z, .bool s.n, .bool s.v, .int .i64 0, .slice mo s.mem.length mcap]) := ((SB.set (j := 12) (by simp)).set (j := 1) (by simp)).set (j := 2) (by simp)
  have KC3 : Hid (Below w.heap.size w (((w1.setCell ⟨w.heap.size, 12, none⟩ (.int .i64 0)).setCell ⟨w.heap.size, 1, none⟩ (.int .i64 a)).setCell ⟨w.heap.size, 2, none⟩ (.int .i64 x))) := (by repeat (first | exact unhideI K1 | refine Below.setCell ?_ (by first | exact Nat.le_refl _ | (simp; done) | omega | (simp; omega)) _ | refine Below.alloc ?_ (by first | (simp; done) | omega | (simp; omega)) _))
  have hsz : (((w1.setCell ⟨w.heap.size, 12, none⟩ (.int .i64 0)).setCell ⟨w.heap.size, 1, none⟩ (.int .i64 a)).setCell ⟨w.heap.size, 2, none⟩ (.int .i64 x)).heap.size = w1.heap.size := by simp [World.setCell]
  generalize ((w1.setCell ⟨w.heap.size, 12, none⟩ (.int .i64 0)).setCell ⟨w.heap.size, 1, none⟩ (.int .i64 a)).setCell ⟨w.heap.size, 2, none⟩ (.int .i64 x) = W3 at *
  rw [← hsz] at *
  have lw3 : w.heap.size < W3.heap.size := (unhideI SB3).1
  clear s0 s1 s2 s3 s4 s5 s6 s7 s8 s9 s10 s11 s12 s13 fz1 SB WR K1 l1
  obtain ⟨cs, hcs⟩ : ∃ cs : Array Value, cs = #[.int .i64 (s.r 0), .int .i64 (s.r 1), .int .i64 (s.r 2), .int .i64 (s.r 3), .int .i64 (s.r 4), .int .i64 (s.r 5), .int .i64 (s.r 6), .int .i64 (s.r 7), .bool s.c, .bool s.z, .bool s.n, .bool s.v, .int .i64 s.pc, .slice mo s.mem.length mcap] := ⟨_, rfl⟩
  rw [← hcs]
  clear hcs
  obtain ⟨r1, r2⟩ := memI_right off h2 h6
  have KC := hideI (((unhideI KC3).alloc (by omega) (.cells cs 27)).alloc (by simp; omega) (.cells #[.int .i64 4, .int .i64 1, .int .i64 2, .int .i64 off, .int .i64 3, .int .i64 3, .int .i64 1, .int .i64 off] 45))
  have BX := hideI (((unhideI SB3).step (below_a _ (.cells cs 27))).step (below_a _ (.cells #[.int .i64 4, .int .i64 1, .int .i64 2, .int .i64 off, .int .i64 3, .int .i64 3, .int .i64 1, .int .i64 off] 45)))
  have RL := hideI (lawRun_any (memI off) (memS s a x) (.slice mo s.mem.length mcap) (.slice (some ⟨W3.heap.size + 1, 0, none⟩) 2 2) (W3.heap.size + 1) _ (own_lit (W3.alloc (.cells cs 27)) 2 (W3.heap.size + 1) #[.int .i64 4, .int .i64 1, .int .i64 2, .int .i64 off, .int .i64 3, .int .i64 3, .int .i64 1, .int .i64 off] (by simp) (by decide) (by simp)) (by simp) ((unhideI HM).step (unhideI KC)) (fun k hk hv => by have := ints_lt (unhideI HM) k hk hv; omega) r1 r2 (by simp [memI]) (memS_wrong s a x h0 (isw_of h1 h5) (isw_of h3 h7)) rfl)
  obtain ⟨q1, q2⟩ := mem_line s a off x
  generalize endM ((startM (memS s a x)).line [] (memI off)) = mm at *
  have Q1 := hideI q1
  have Q2 := hideI q2
  clear q1 q2 r1 r2
  refine (unhideI RL).mono ?_
  rintro e w5 ⟨vo, vm5, rfl, i5, o5, g5⟩
  have K5 := hideI (Below.grown (unhideI KC) g5 (by simp; omega) (fun k hk => by simp [Value.ownBlock] at hk; omega))
  have c13 := g5.cell ((unhideI BX).2.1 13 _ rfl) (by simp [Value.ownBlock]; omega)
  have l5 : w.heap.size < w5.heap.size := by have := g5.size; simp at this; omega
  have I5 := hideI i5
  obtain ⟨m5, c5, rfl, _, _⟩ := i5.at
  obtain ⟨n5, d5, rfl, _, _⟩ := o5.at
  clear i5 o5 g5 RL BX KC KC3 SB3
  have hlw : lw (a + off) = (a + off) % 65536 := rfl
  have hq : Hid ((memL mm.mem).getD ((a + off) % 65536).toNat 0 = x) := by
    unfold Hid
    rw [memL_get _ _ (by omega), unhideI Q2, hlw, upd_same]
  unfold ranV
  by_cases ho : other = (a + off) % 65536
  · have bo : (other == (a + off) % 65536) = true := by simp [← ho]
    go_wp2_with (first | (refine wpList_store_row rfl 31 (.tmp 11) (.tmp 66) rfl w5.heap.size (ranC mm (.slice n5 mm.out.length d5) (.slice m5 (memL mm.mem).length c5)) rfl rfl 31 #[.int .i64 0, .int .i64 0, .slice none 0 0, .int .i64 0, .int .i64 0, .int .i64 0, .int .i64 0, .int .i64 0, .int .i64 0, .int .i64 0, .int .i64 0, .int .i64 0, .int .i64 0, .bool false, .bool false, .bool false, .bool false, .int .i64 0, .slice none 0 0] (heap_new _ _) Try.sizeRan rfl (ranC_one _ _ _ _ _ _ _) ?_; have SN := hideI (store_new w5 #[.int .i64 0, .int .i64 0, .slice none 0 0, .int .i64 0, .int .i64 0, .int .i64 0, .int .i64 0, .int .i64 0, .int .i64 0, .int .i64 0, .int .i64 0, .int .i64 0, .int .i64 0, .bool false, .bool false, .bool false, .bool false, .int .i64 0, .slice none 0 0] (ranC mm (.slice n5 mm.out.length d5) (.slice m5 (memL mm.mem).length c5)) 31); have SH := hideI (store_heap w5 #[.int .i64 0, .int .i64 0, .slice none 0 0, .int .i64 0, .int .i64 0, .int .i64 0, .int .i64 0, .int .i64 0, .int .i64 0, .int .i64 0, .int .i64 0, .int .i64 0, .int .i64 0, .bool false, .bool false, .bool false, .bool false, .int .i64 0, .slice none 0 0] (ranC mm (.slice n5 mm.out.length d5) (.slice m5 (memL mm.mem).length c5)) 31); generalize (w5.alloc (.cells #[.int .i64 0, .int .i64 0, .slice none 0 0, .int .i64 0, .int .i64 0, .int .i64 0, .int .i64 0, .int .i64 0, .int .i64 0, .int .i64 0, .int .i64 0, .int .i64 0, .int .i64 0, .bool false, .bool false, .bool false, .bool false, .int .i64 0, .slice none 0 0] 31)).setRow w5.heap.size (ranC mm (.slice n5 mm.out.length d5) (.slice m5 (memL mm.mem).length c5)) = w6 at *; have p8 := (unhideI SN).1.2.1 8 _ rfl; rw [unhideI Q1] at p8; have p18 := (unhideI SN).1.2.1 18 _ rfl; have zz := (unhideI SN).1.1; have c13' := cell_keep (unhideI SN).2 l5 c13; have I6 := hideI (Ints.step (unhideI I5) (unhideI SN).2); have K6 := hideI (bt (unhideI K5) (unhideI SN).2); have WA := hideI (was_any (memL mm.mem) _ ((a + off) % 65536) _ (unhideI I6) (by omega) (by omega)); rw [unhideI hq] at WA) | (go_at_call 23; refine (unhideI WA).mono ?_; rintro e w7 ⟨rfl, hw⟩; subst w7))
    go_quiet (fail)
    go_wp2_with fail
    go_ret
    exact ⟨rfl, bdr (unhideI K6) _⟩
  · have bo : (other == (a + off) % 65536) = false := by simp; exact ho
    have hr : Hid ((memL mm.mem).getD other.toNat 0 = s.mem.getD other.toNat 0) := by
      unfold Hid
      rw [memL_get _ _ (by omega), unhideI Q2, upd_other _ _ _ _ (by rw [hlw]; omega)]
    go_wp2_with (first | (refine wpList_store_row rfl 31 (.tmp 11) (.tmp 66) rfl w5.heap.size (ranC mm (.slice n5 mm.out.length d5) (.slice m5 (memL mm.mem).length c5)) rfl rfl 31 #[.int .i64 0, .int .i64 0, .slice none 0 0, .int .i64 0, .int .i64 0, .int .i64 0, .int .i64 0, .int .i64 0, .int .i64 0, .int .i64 0, .int .i64 0, .int .i64 0, .int .i64 0, .bool false, .bool false, .bool false, .bool false, .int .i64 0, .slice none 0 0] (heap_new _ _) Try.sizeRan rfl (ranC_one _ _ _ _ _ _ _) ?_; have SN := hideI (store_new w5 #[.int .i64 0, .int .i64 0, .slice none 0 0, .int .i64 0, .int .i64 0, .int .i64 0, .int .i64 0, .int .i64 0, .int .i64 0, .int .i64 0, .int .i64 0, .int .i64 0, .int .i64 0, .bool false, .bool false, .bool false, .bool false, .int .i64 0, .slice none 0 0] (ranC mm (.slice n5 mm.out.length d5) (.slice m5 (memL mm.mem).length c5)) 31); have SH := hideI (store_heap w5 #[.int .i64 0, .int .i64 0, .slice none 0 0, .int .i64 0, .int .i64 0, .int .i64 0, .int .i64 0, .int .i64 0, .int .i64 0, .int .i64 0, .int .i64 0, .int .i64 0, .int .i64 0, .bool false, .bool false, .bool false, .bool false, .int .i64 0, .slice none 0 0] (ranC mm (.slice n5 mm.out.length d5) (.slice m5 (memL mm.mem).length c5)) 31); generalize (w5.alloc (.cells #[.int .i64 0, .int .i64 0, .slice none 0 0, .int .i64 0, .int .i64 0, .int .i64 0, .int .i64 0, .int .i64 0, .int .i64 0, .int .i64 0, .int .i64 0, .int .i64 0, .int .i64 0, .bool false, .bool false, .bool false, .bool false, .int .i64 0, .slice none 0 0] 31)).setRow w5.heap.size (ranC mm (.slice n5 mm.out.length d5) (.slice m5 (memL mm.mem).length c5)) = w6 at *; have p8 := (unhideI SN).1.2.1 8 _ rfl; rw [unhideI Q1] at p8; have p18 := (unhideI SN).1.2.1 18 _ rfl; have zz := (unhideI SN).1.1; have c13' := cell_keep (unhideI SN).2 l5 c13; have I6 := hideI (Ints.step (unhideI I5) (unhideI SN).2); have K6 := hideI (bt (unhideI K5) (unhideI SN).2); have WA := hideI (was_any (memL mm.mem) _ ((a + off) % 65536) _ (unhideI I6) (by omega) (by omega)); rw [unhideI hq] at WA) | (go_at_call 23; refine (unhideI WA).mono ?_; rintro e w7 ⟨rfl, hw⟩; subst w7))
    have WB := fun n => was_any (memL mm.mem) (.slice m5 (memL mm.mem).length c5) other (w6.drewN n) (Ints.step (unhideI I6) (bdr (Below.refl _ _) n)) h4 h8
    rw [unhideI hr] at WB
    have WC := fun n => was_any s.mem (.slice mo s.mem.length mcap) other (w6.drewN n) (Ints.step (Ints.step (unhideI HM) (unhideI K6)) (bdr (Below.refl _ _) n)) h4 h8
    generalize s.mem.getD other.toNat 0 = y at *
    clear SN SH HM I5 K5 WA Q1 Q2 hq hr
    generalize Value.slice m5 (memL mm.mem).length c5 = va at *
    generalize Value.slice mo s.mem.length mcap = vb at *
    generalize memL mm.mem = la at *
    refine wp_region_quiet_lit (by kernel_rfl) (by kernel_rfl) ?_
    repeat (go_big_quiet_step (fail))
    go_big_quiet_want
    go_big_quiet_op
    go_big_quiet_call (exact Calls.quiet_of_same (WB _))
    repeat (go_big_quiet_step (fail))
    go_big_quiet_want
    go_big_quiet_op
    go_big_quiet_call (exact Calls.quiet_of_same (WC _))
    repeat (go_big_quiet_step (fail))
    refine wpQuiet_nil ?_
    intro _ hw'
    obtain ⟨nq, hw''⟩ := hw'
    subst hw''
    go_wp2_with fail
    go_ret
    exact ⟨rfl, bdr (unhideI K6) _⟩
end Go.Proofs.Ytjlbenbfmookoab
