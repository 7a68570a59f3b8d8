/-
  From stop to stop is all at once: a run that was stopped, gone on with what was left.
-/
import Derived.Test.YtjlbenbfmookoaaPrG
import Derived.Test.YtjlbenbfmookoaaPrA
import Derived.Test.YtjlbenbfmookoaaEmuSlice
import Derived.Test.YtjlbenbfmookoaaRefT
namespace Go.Proofs.Ytjlbenbfmookoaa
open Go.RowKit
set_option linter.unusedSimpArgs false
set_option linter.unusedVariables false

theorem lies_lt {w : World} {s n : Nat} {v : Value} {cs : List Value} (h : Lies w s v n cs) : ∀ k, n ≠ 0 → v.ownBlock = some k → k < w.heap.size := by
  intro k hn hk
  obtain ⟨_, ao, cap, rfl, _, _, _, h5⟩ := h
  obtain ⟨b, off, rfl, hb, _⟩ := h5 hn
  simp [Value.ownBlock] at hk
  omega
theorem Lies.blk0 {w w' : World} {s n : Nat} {v : Value} {cs : List Value} (h : Lies w s v n cs) (hs : w.heap.size ≤ w'.heap.size) (hb : ∀ k, n ≠ 0 → v.ownBlock = some k → w'.heap[k]? = w.heap[k]?) : Lies w' s v n cs := by
  obtain ⟨h1, ao, cap, rfl, h3, h4, h6, h5⟩ := h
  refine ⟨h1, ao, cap, rfl, h3, h4, h6, fun hn => ?_⟩
  obtain ⟨c, off, rfl, hc, hl⟩ := h5 hn
  exact ⟨c, off, rfl, Nat.lt_of_lt_of_le hc hs, fun i hi => by rw [World.cell?_of_block (w := w) (a := ⟨c, off + i, none⟩) (hb c hn rfl)]; exact hl i hi⟩
theorem run_took_le (xs bs : List Int) : ∀ (k : Nat) (m : Ma), (Ma.run xs bs k m).took ≤ m.took + k
  | 0, m => by unfold Ma.run; split <;> simp
  | k + 1, m => by
    unfold Ma.run
    split
    · have := run_took_le xs bs k (m.step xs bs)
      rw [step_took] at this
      omega
    · omega
theorem took_in (xs bs : List Int) (s : St) (F : Int) (h : (runA xs s bs F).2 = 0) : 0 ≤ (runA xs s bs F).1.took ∧ (runA xs s bs F).1.took ≤ F := by
  unfold runA at h ⊢
  split at h
  · exact absurd h (by decide)
  rename_i n1
  rw [if_neg n1]
  split at h
  · exact absurd h (by decide)
  rename_i n2
  rw [if_neg n2]
  split at h
  rotate_left
  · rename_i n3; exact absurd h n3
  rename_i n3
  rw [if_pos n3]
  split at h
  · exact absurd h (by decide)
  rename_i n4
  split at h
  · exact absurd h (by decide)
  rename_i n5
  rw [if_neg n4, if_neg n5]
  have a := (run_mono xs bs F.toNat (startM s)).2.2
  have b := run_took_le xs bs F.toNat (startM s)
  have c : (startM s).took = 0 := rfl
  rw [c] at a b
  dsimp only
  omega
theorem one_guard {P : Program} {ops : Array Oper} {Q : Exit → Act → World → Prop} {o : Oper} {a : Act} {w : World} (hw : Region.wanted o (yielded ops a.tmps) = true) (h : wpList P ops Q [{ o with guard := none }] a w) : wpList P ops Q [o] a w := by
  unfold wpList at h ⊢
  rw [if_pos hw]
  rw [if_pos (by rfl)] at h
  have e : execOp a.eval ({ o with guard := none } : Oper) = execOp a.eval o := by cases o; rfl
  unfold Oper.wp Oper.asks at h ⊢
  rw [e] at h
  exact h
theorem Try.infoByte8 : (Try.prog.info? 5).map (fun i => (i.zero, i.size, i.bytes)) = some (some (.int .u8 0), 1, 1) := by kernel_rfl
theorem byts_cells (l : List Int) : ∀ u ∈ l.map byte1, u.oneCell' = true := by
  intro u hu
  obtain ⟨i, _, rfl⟩ := List.mem_map.1 hu
  rfl
theorem byts_two {w : World} {B : Nat} {v : Value} {a b : List Int} (h : w.ownsRow B 5 1 v (0 + a.length + b.length) ([] ++ a.map byte1 ++ b.map byte1)) : Byts w v (a ++ b) := by
  have := Lies.owned h
  unfold Byts
  rw [List.length_append, List.map_append]
  simpa using this
/-- What came of a run, and a block beside it. -/
structure Met (w w3 : World) (mb : Ma) (R : Nat) (vo vm : Value) (g : Nat) (W : World) : Prop where
  im : Ints W vm (memL mb.mem)
  io : Byts W vo mb.out
  low : Below w.heap.size w W
  blk : W.heap[g]? = some (.cells #[.int .i64 0, .int .i64 0, .slice none 0 0, .int .i64 0, .int .i64 0, .int .i64 0, .int .i64 0, .int .i64 0, .int .i64 0, .int .i64 0, .int .i64 0, .int .i64 0, .int .i64 0, .bool false, .bool false, .bool false, .bool false, .int .i64 0, .slice none 0 0] 33 (0, 0))
  hg : w3.heap.size ≤ g
  no : ∀ k, mb.out.length ≠ 0 → vo.ownBlock = some k → k ≠ g
  nm : ∀ k, (memL mb.mem).length ≠ 0 → vm.ownBlock = some k → k ≠ g
  keep : Below w3.heap.size w3 W
  rd : mb.rd ≤ R
  ol : mb.out.length ≤ 65536
set_option maxRecDepth 100000 in
set_option maxHeartbeats 6000000 in
theorem walk_probeGoesOn (xs : List Int) (s : St) (bs : List Int) (F : Int) (pl : List Int) (vc vm vi vp : Value) (w : World) (hc : Ints w vc xs) (hm : Ints w vm s.mem) (hi : Byts w vi bs) (hb : ∀ x ∈ bs, 0 ≤ x ∧ x ≤ 255) (hp : Ints w vp pl) :
    Calls Try.prog 5 #[vc, s.val vm, vi, .int .i64 F, vp] w fun e w' => e = .returned (.bool true) ∧ Below w.heap.size w w' := by
  have HC := hideI hc
  have HI := hideI hi
  have HM := hideI hm
  have HPL := hideI hp
  obtain ⟨po, pcap, rfl, hpx, _⟩ := hp.at
  have RA := hideI (fun vc vm vi w hc hm hi hp => until_any xs s bs F pl vc vm vi (.slice po pl.length pcap) w hc hm hi hp hb)
  have GM := hideI (fun m h h6 hf => goes_math (xs := xs) (s := s) (bs := bs) (F := F) (pl := pl) (m := m) h h6 hf)
  have RB := hideI (fun s' R G vc vm vi w hc hm hi => run_any xs s' (bs.drop R) G vc vm vi w hc hm hi (fun x hx => hb x (List.mem_of_mem_drop hx)))
  have RC := hideI (fun vc vm vi w hc hm hi => run_any xs s bs F vc vm vi w hc hm hi hb)
  obtain ⟨co, ccap, rfl, hcx, _⟩ := hc.at
  obtain ⟨mo, mcap, rfl, hmx, _⟩ := hm.at
  obtain ⟨io, icap, rfl, hix, _⟩ := hi.at
  clear hc hm hi hb hp
  unfold maxLen at hcx hmx hix hpx
  unfold St.val St.cells at *
  generalize (runW xs s bs F (isAt pl) (fun s _ _ => s) ()).1 = ra at *
  obtain ⟨ma, ea⟩ := ra
  unfold URet at RA
  dsimp only at RA
  by_cases he : ea = 0
  rotate_left
  · have be : (ea != 0) = true := by simp [he]
    clear GM RB RC
    go_enter Try.func5, Try.ntmps5
    go_wp2_with fail
    refine (alive16 _).mono ?_
    rintro e w1 ⟨rfl, k1⟩
    have K1 := hideI (bt (below_a w (.cells #[.int .i64 (s.r 0), .int .i64 (s.r 1), .int .i64 (s.r 2), .int .i64 (s.r 3), .int .i64 (s.r 4), .int .i64 (s.r 5), .int .i64 (s.r 6), .int .i64 (s.r 7), .bool s.c, .bool s.z, .bool s.n, .bool s.v, .int .i64 s.pc, .slice mo s.mem.length mcap] 27)) k1)
    have SB := (Box.new w #[.int .i64 (s.r 0), .int .i64 (s.r 1), .int .i64 (s.r 2), .int .i64 (s.r 3), .int .i64 (s.r 4), .int .i64 (s.r 5), .int .i64 (s.r 6), .int .i64 (s.r 7), .bool s.c, .bool s.z, .bool s.n, .bool s.v, .int .i64 s.pc, .slice mo s.mem.length mcap] 27).step k1
    have s0 := SB.2.1 0 _ rfl
    have s1 := SB.2.1 1 _ rfl
    have s2 := SB.2.1 2 _ rfl
    have s3 := SB.2.1 3 _ rfl
    have s4 := SB.2.1 4 _ rfl
    have s5 := SB.2.1 5 _ rfl
    have s6 := SB.2.1 6 _ rfl
    have s7 := SB.2.1 7 _ rfl
    have s8 := SB.2.1 8 _ rfl
    have s9 := SB.2.1 9 _ rfl
    have s10 := SB.2.1 10 _ rfl
    have s11 := SB.2.1 11 _ rfl
    have s12 := SB.2.1 12 _ rfl
    have s13 := SB.2.1 13 _ rfl
    have l1 := SB.1
    have HSB := hideI SB
    clear k1 SB
    go_wp2_with fail
    refine (unhideI RA _ _ _ _ ((unhideI HC).step (unhideI K1)) ((unhideI HM).step (unhideI K1)) (Lies.step (unhideI HI) (unhideI K1)) ((unhideI HPL).step (unhideI K1))).mono ?_
    rintro e w2 ⟨vo, vm, rfl, i2, o2, k2, f2, no2, nm2⟩
    have F2 := hideI f2
    have K2 := hideI (bt (unhideI K1) k2)
    have HS2 := hideI ((unhideI HSB).step k2)
    have I2 := hideI i2
    have O2 := hideI o2
    obtain ⟨m2, c2, rfl, _, _⟩ := i2.at
    obtain ⟨n2, d2, rfl, _, _⟩ := o2.at
    clear i2 o2 k2 f2 no2 nm2 s0 s1 s2 s3 s4 s5 s6 s7 s8 s9 s10 s11 s12 s13 HSB
    unfold ranV
    go_wp2_with (refine wpList_store_row rfl 33 (.tmp 11) (.tmp 28) rfl w2.heap.size (ranC ma (.slice n2 ma.out.length d2) (.slice m2 (memL ma.mem).length c2)) rfl rfl 33 #[.int .i64 0, .int .i64 0, .slice none 0 0, .int .i64 0, .int .i64 0, .int .i64 0, .int .i64 0, .int .i64 0, .int .i64 0, .int .i64 0, .int .i64 0, .int .i64 0, .int .i64 0, .bool false, .bool false, .bool false, .bool false, .int .i64 0, .slice none 0 0] (heap_new _ _) Try.sizeRan rfl (ranC_one _ _ _ _ _ _ _) ?_; have SN := hideI (store_new w2 #[.int .i64 0, .int .i64 0, .slice none 0 0, .int .i64 0, .int .i64 0, .int .i64 0, .int .i64 0, .int .i64 0, .int .i64 0, .int .i64 0, .int .i64 0, .int .i64 0, .int .i64 0, .bool false, .bool false, .bool false, .bool false, .int .i64 0, .slice none 0 0] (ranC ma (.slice n2 ma.out.length d2) (.slice m2 (memL ma.mem).length c2)) 33); have SH := hideI (store_heap w2 #[.int .i64 0, .int .i64 0, .slice none 0 0, .int .i64 0, .int .i64 0, .int .i64 0, .int .i64 0, .int .i64 0, .int .i64 0, .int .i64 0, .int .i64 0, .int .i64 0, .int .i64 0, .bool false, .bool false, .bool false, .bool false, .int .i64 0, .slice none 0 0] (ranC ma (.slice n2 ma.out.length d2) (.slice m2 (memL ma.mem).length c2)) 33); generalize (w2.alloc (.cells #[.int .i64 0, .int .i64 0, .slice none 0 0, .int .i64 0, .int .i64 0, .int .i64 0, .int .i64 0, .int .i64 0, .int .i64 0, .int .i64 0, .int .i64 0, .int .i64 0, .int .i64 0, .bool false, .bool false, .bool false, .bool false, .int .i64 0, .slice none 0 0] 33)).setRow w2.heap.size (ranC ma (.slice n2 ma.out.length d2) (.slice m2 (memL ma.mem).length c2)) = w3 at *; have K3 := hideI (bt (unhideI K2) (unhideI SN).2); have p0 := (unhideI SN).1.2.1 0 _ rfl; have p3 := (unhideI SN).1.2.1 3 _ rfl; have p4 := (unhideI SN).1.2.1 4 _ rfl; have p17 := (unhideI SN).1.2.1 17 _ rfl; have zz := (unhideI SN).1.1)
    go_ret
    exact ⟨rfl, unhideI K3⟩
  subst he
  by_cases h3' : ma.how = 6
  rotate_left
  · have bh : (ma.how != 6) = true := by simp [h3']
    clear GM RB RC
    go_enter Try.func5, Try.ntmps5
    go_wp2_with fail
    refine (alive16 _).mono ?_
    rintro e w1 ⟨rfl, k1⟩
    have K1 := hideI (bt (below_a w (.cells #[.int .i64 (s.r 0), .int .i64 (s.r 1), .int .i64 (s.r 2), .int .i64 (s.r 3), .int .i64 (s.r 4), .int .i64 (s.r 5), .int .i64 (s.r 6), .int .i64 (s.r 7), .bool s.c, .bool s.z, .bool s.n, .bool s.v, .int .i64 s.pc, .slice mo s.mem.length mcap] 27)) k1)
    have SB := (Box.new w #[.int .i64 (s.r 0), .int .i64 (s.r 1), .int .i64 (s.r 2), .int .i64 (s.r 3), .int .i64 (s.r 4), .int .i64 (s.r 5), .int .i64 (s.r 6), .int .i64 (s.r 7), .bool s.c, .bool s.z, .bool s.n, .bool s.v, .int .i64 s.pc, .slice mo s.mem.length mcap] 27).step k1
    have s0 := SB.2.1 0 _ rfl
    have s1 := SB.2.1 1 _ rfl
    have s2 := SB.2.1 2 _ rfl
    have s3 := SB.2.1 3 _ rfl
    have s4 := SB.2.1 4 _ rfl
    have s5 := SB.2.1 5 _ rfl
    have s6 := SB.2.1 6 _ rfl
    have s7 := SB.2.1 7 _ rfl
    have s8 := SB.2.1 8 _ rfl
    have s9 := SB.2.1 9 _ rfl
    have s10 := SB.2.1 10 _ rfl
    have s11 := SB.2.1 11 _ rfl
    have s12 := SB.2.1 12 _ rfl
    have s13 := SB.2.1 13 _ rfl
    have l1 := SB.1
    have HSB := hideI SB
    clear k1 SB
    go_wp2_with fail
    refine (unhideI RA _ _ _ _ ((unhideI HC).step (unhideI K1)) ((unhideI HM).step (unhideI K1)) (Lies.step (unhideI HI) (unhideI K1)) ((unhideI HPL).step (unhideI K1))).mono ?_
    rintro e w2 ⟨vo, vm, rfl, i2, o2, k2, f2, no2, nm2⟩
    have F2 := hideI f2
    have K2 := hideI (bt (unhideI K1) k2)
    have HS2 := hideI ((unhideI HSB).step k2)
    have I2 := hideI i2
    have O2 := hideI o2
    obtain ⟨m2, c2, rfl, _, _⟩ := i2.at
    obtain ⟨n2, d2, rfl, _, _⟩ := o2.at
    clear i2 o2 k2 f2 no2 nm2 s0 s1 s2 s3 s4 s5 s6 s7 s8 s9 s10 s11 s12 s13 HSB
    unfold ranV
    go_wp2_with (refine wpList_store_row rfl 33 (.tmp 11) (.tmp 28) rfl w2.heap.size (ranC ma (.slice n2 ma.out.length d2) (.slice m2 (memL ma.mem).length c2)) rfl rfl 33 #[.int .i64 0, .int .i64 0, .slice none 0 0, .int .i64 0, .int .i64 0, .int .i64 0, .int .i64 0, .int .i64 0, .int .i64 0, .int .i64 0, .int .i64 0, .int .i64 0, .int .i64 0, .bool false, .bool false, .bool false, .bool false, .int .i64 0, .slice none 0 0] (heap_new _ _) Try.sizeRan rfl (ranC_one _ _ _ _ _ _ _) ?_; have SN := hideI (store_new w2 #[.int .i64 0, .int .i64 0, .slice none 0 0, .int .i64 0, .int .i64 0, .int .i64 0, .int .i64 0, .int .i64 0, .int .i64 0, .int .i64 0, .int .i64 0, .int .i64 0, .int .i64 0, .bool false, .bool false, .bool false, .bool false, .int .i64 0, .slice none 0 0] (ranC ma (.slice n2 ma.out.length d2) (.slice m2 (memL ma.mem).length c2)) 33); have SH := hideI (store_heap w2 #[.int .i64 0, .int .i64 0, .slice none 0 0, .int .i64 0, .int .i64 0, .int .i64 0, .int .i64 0, .int .i64 0, .int .i64 0, .int .i64 0, .int .i64 0, .int .i64 0, .int .i64 0, .bool false, .bool false, .bool false, .bool false, .int .i64 0, .slice none 0 0] (ranC ma (.slice n2 ma.out.length d2) (.slice m2 (memL ma.mem).length c2)) 33); generalize (w2.alloc (.cells #[.int .i64 0, .int .i64 0, .slice none 0 0, .int .i64 0, .int .i64 0, .int .i64 0, .int .i64 0, .int .i64 0, .int .i64 0, .int .i64 0, .int .i64 0, .int .i64 0, .int .i64 0, .bool false, .bool false, .bool false, .bool false, .int .i64 0, .slice none 0 0] 33)).setRow w2.heap.size (ranC ma (.slice n2 ma.out.length d2) (.slice m2 (memL ma.mem).length c2)) = w3 at *; have K3 := hideI (bt (unhideI K2) (unhideI SN).2); have p0 := (unhideI SN).1.2.1 0 _ rfl; have p3 := (unhideI SN).1.2.1 3 _ rfl; have p4 := (unhideI SN).1.2.1 4 _ rfl; have p17 := (unhideI SN).1.2.1 17 _ rfl; have zz := (unhideI SN).1.1)
    go_ret
    exact ⟨rfl, unhideI K3⟩
  have bh : (ma.how != 6) = false := by simp [h3']
  have HH := hideI h3'
  clear h3'
  go_enter Try.func5, Try.ntmps5
  go_wp2_with fail
  refine (alive16 _).mono ?_
  rintro e w1 ⟨rfl, k1⟩
  have K1 := hideI (bt (below_a w (.cells #[.int .i64 (s.r 0), .int .i64 (s.r 1), .int .i64 (s.r 2), .int .i64 (s.r 3), .int .i64 (s.r 4), .int .i64 (s.r 5), .int .i64 (s.r 6), .int .i64 (s.r 7), .bool s.c, .bool s.z, .bool s.n, .bool s.v, .int .i64 s.pc, .slice mo s.mem.length mcap] 27)) k1)
  have SB := (Box.new w #[.int .i64 (s.r 0), .int .i64 (s.r 1), .int .i64 (s.r 2), .int .i64 (s.r 3), .int .i64 (s.r 4), .int .i64 (s.r 5), .int .i64 (s.r 6), .int .i64 (s.r 7), .bool s.c, .bool s.z, .bool s.n, .bool s.v, .int .i64 s.pc, .slice mo s.mem.length mcap] 27).step k1
  have s0 := SB.2.1 0 _ rfl
  have s1 := SB.2.1 1 _ rfl
  have s2 := SB.2.1 2 _ rfl
  have s3 := SB.2.1 3 _ rfl
  have s4 := SB.2.1 4 _ rfl
  have s5 := SB.2.1 5 _ rfl
  have s6 := SB.2.1 6 _ rfl
  have s7 := SB.2.1 7 _ rfl
  have s8 := SB.2.1 8 _ rfl
  have s9 := SB.2.1 9 _ rfl
  have s10 := SB.2.1 10 _ rfl
  have s11 := SB.2.1 11 _ rfl
  have s12 := SB.2.1 12 _ rfl
  have s13 := SB.2.1 13 _ rfl
  have l1 := SB.1
  have HSB := hideI SB
  clear k1 SB
  go_wp2_with fail
  refine (unhideI RA _ _ _ _ ((unhideI HC).step (unhideI K1)) ((unhideI HM).step (unhideI K1)) (Lies.step (unhideI HI) (unhideI K1)) ((unhideI HPL).step (unhideI K1))).mono ?_
  rintro e w2 ⟨vo, vm, rfl, i2, o2, k2, f2, no2, nm2⟩
  have F2 := hideI f2
  have K2 := hideI (bt (unhideI K1) k2)
  have HS2 := hideI ((unhideI HSB).step k2)
  have I2 := hideI i2
  have O2 := hideI o2
  obtain ⟨m2, c2, rfl, _, _⟩ := i2.at
  obtain ⟨n2, d2, rfl, _, _⟩ := o2.at
  clear i2 o2 k2 f2 no2 nm2 s0 s1 s2 s3 s4 s5 s6 s7 s8 s9 s10 s11 s12 s13 HSB
  unfold ranV
  have fin := unhideI F2 trivial
  obtain ⟨hat, ht0, ht1, hF6, g1, g2, g3⟩ := unhideI GM ma rfl (unhideI HH) fin
  have hrd := fin.rd
  have hoa := fin.out
  have b6 : decide ((bs.length : Int) < ma.rd) = false := by simp; omega
  have b7 : decide (F < ma.took) = false := by simp; omega
  have b6n : decide (bs.length < ma.rd) = false := by simp; omega
  have tA : 0 ≤ ma.took ∧ ma.took ≤ F := ⟨ht0, ht1⟩
  have tB := took_in xs (bs.drop ma.rd) ma.left (F - ma.took) g1
  have hfu : IntKind.i64.wrap (F - ma.took) = F - ma.took := by rw [IntKind.wrap_i64]; omega
  have hfu2 : wrap64 (F - ma.took) = F - ma.took := by rw [wrap64, ← IntKind.wrap_i64]; exact hfu
  have HAT := hideI hat
  have RB2 := hideI (unhideI RB ma.left ma.rd (F - ma.took))
  clear RB GM fin F2 hat
  generalize runA xs ma.left (bs.drop ma.rd) (F - ma.took) = rb at *
  generalize runA xs s bs F = rc at *
  obtain ⟨mb, eb⟩ := rb
  obtain ⟨mc, ec⟩ := rc
  dsimp only at RB2 RC g1 g2 g3 tB
  subst g1
  subst g2
  have G3 := hideI g3
  clear g3
  unfold Ma.left at RB2
  dsimp only at RB2
  have hicap : bs.length ≤ icap := by obtain ⟨_, _, _, e, h, _⟩ := unhideI HI; simp only [Value.slice.injEq] at e; omega
  have hinil : io = none → icap = 0 := by obtain ⟨_, _, _, e, _, _, h, _⟩ := unhideI HI; simp only [Value.slice.injEq] at e; obtain ⟨rfl, _, rfl⟩ := e; exact h
  have hicx : icap ≤ 2 ^ 63 - 1 := by obtain ⟨_, _, _, e, _, h, _⟩ := unhideI HI; simp only [Value.slice.injEq] at e; unfold maxLen at h; omega
  go_wp2_with (refine wpList_store_row rfl 33 (.tmp 11) (.tmp 28) rfl w2.heap.size (ranC ma (.slice n2 ma.out.length d2) (.slice m2 (memL ma.mem).length c2)) rfl rfl 33 #[.int .i64 0, .int .i64 0, .slice none 0 0, .int .i64 0, .int .i64 0, .int .i64 0, .int .i64 0, .int .i64 0, .int .i64 0, .int .i64 0, .int .i64 0, .int .i64 0, .int .i64 0, .bool false, .bool false, .bool false, .bool false, .int .i64 0, .slice none 0 0] (heap_new _ _) Try.sizeRan rfl (ranC_one _ _ _ _ _ _ _) ?_; have SN := hideI (store_new w2 #[.int .i64 0, .int .i64 0, .slice none 0 0, .int .i64 0, .int .i64 0, .int .i64 0, .int .i64 0, .int .i64 0, .int .i64 0, .int .i64 0, .int .i64 0, .int .i64 0, .int .i64 0, .bool false, .bool false, .bool false, .bool false, .int .i64 0, .slice none 0 0] (ranC ma (.slice n2 ma.out.length d2) (.slice m2 (memL ma.mem).length c2)) 33); have SH := hideI (store_heap w2 #[.int .i64 0, .int .i64 0, .slice none 0 0, .int .i64 0, .int .i64 0, .int .i64 0, .int .i64 0, .int .i64 0, .int .i64 0, .int .i64 0, .int .i64 0, .int .i64 0, .int .i64 0, .bool false, .bool false, .bool false, .bool false, .int .i64 0, .slice none 0 0] (ranC ma (.slice n2 ma.out.length d2) (.slice m2 (memL ma.mem).length c2)) 33); generalize (w2.alloc (.cells #[.int .i64 0, .int .i64 0, .slice none 0 0, .int .i64 0, .int .i64 0, .int .i64 0, .int .i64 0, .int .i64 0, .int .i64 0, .int .i64 0, .int .i64 0, .int .i64 0, .int .i64 0, .bool false, .bool false, .bool false, .bool false, .int .i64 0, .slice none 0 0] 33)).setRow w2.heap.size (ranC ma (.slice n2 ma.out.length d2) (.slice m2 (memL ma.mem).length c2)) = w3 at *; have K3 := hideI (bt (unhideI K2) (unhideI SN).2); have p0 := (unhideI SN).1.2.1 0 _ rfl; have p3 := (unhideI SN).1.2.1 3 _ rfl; have p4 := (unhideI SN).1.2.1 4 _ rfl; have p17 := (unhideI SN).1.2.1 17 _ rfl; have zz := (unhideI SN).1.1)
  have HBY := hideI (byts_from (Lies.step (unhideI HI) (unhideI K3)) hrd)
  go_loopg [13, 59] pl.length (fun g va t wr => ∃ (i : Nat), i ≤ pl.length ∧ g = pl.length - i ∧ t = .int .i64 i ∧ va = .bool (isAt (pl.take i) ma.pc) ∧ wr = w3)
  case atStart => exact ⟨0, Nat.zero_le _, rfl, rfl, by simp [isAt], rfl⟩
  case round =>
    obtain ⟨i, hi9, rfl, rfl, rfl, hw9⟩ := hrel
    have hw8 := hw9.symm
    clear hw9
    subst hw8
    by_cases hlt : i < pl.length
    · have hne : pl ≠ [] := by intro h; rw [h] at hlt; simp at hlt
      obtain ⟨po', pcap', e9, -, pat⟩ := ((unhideI HPL).step (unhideI K3)).at
      injection e9 with e9 _ e10
      subst e9 e10
      obtain ⟨pb, poff, rfl, hpb, pc9⟩ := pat hne
      have y1 := pc9 i hlt
      have RN := hideI (isAt_next hlt ma.pc)
      clear pc9 pat
      generalize pl[i] = y at *
      by_cases hq : isAt (pl.take i) ma.pc = true
      · have hr : isAt (pl.take (i + 1)) ma.pc = true := by rw [unhideI RN, hq]; rfl
        rw [hq]
        go_wp2_with fail
        go_roundg (pl.length - (i + 1))
        case measure => omega
        case rel => exact ⟨i + 1, hlt, rfl, by go_num, by rw [hr], rfl⟩
      · have hq2 : isAt (pl.take i) ma.pc = false := by simpa using hq
        rw [hq2]
        by_cases hy : y = ma.pc
        · have hyb : (y == ma.pc) = true := by simpa using hy
          have hr : isAt (pl.take (i + 1)) ma.pc = true := by rw [unhideI RN, hq2, hy]; simp
          clear hy
          go_wp2_with fail
          go_roundg (pl.length - (i + 1))
          case measure => omega
          case rel => exact ⟨i + 1, hlt, rfl, by go_num, by rw [hr], rfl⟩
        · have hyb : (y == ma.pc) = false := by simpa using hy
          have hr : isAt (pl.take (i + 1)) ma.pc = false := by rw [unhideI RN, hq2]; simp; exact fun h => hy h.symm
          clear hy
          go_wp2_with fail
          go_roundg (pl.length - (i + 1))
          case measure => omega
          case rel => exact ⟨i + 1, hlt, rfl, by go_num, by rw [hr], rfl⟩
    · have e9 : pl.take i = pl := List.take_of_length_le (by omega)
      rw [e9, unhideI HAT]
      clear hi9 e9
      go_wp2_with fail
      have PD := (unhideI SN).1
      have p0 := PD.2.1 0 _ rfl
      have p1 := PD.2.1 1 _ rfl
      have p2 := PD.2.1 2 _ rfl
      have p3 := PD.2.1 3 _ rfl
      have p4 := PD.2.1 4 _ rfl
      have p5 := PD.2.1 5 _ rfl
      have p6 := PD.2.1 6 _ rfl
      have p7 := PD.2.1 7 _ rfl
      have p8 := PD.2.1 8 _ rfl
      have p9 := PD.2.1 9 _ rfl
      have p10 := PD.2.1 10 _ rfl
      have p11 := PD.2.1 11 _ rfl
      have p12 := PD.2.1 12 _ rfl
      have p13 := PD.2.1 13 _ rfl
      have p14 := PD.2.1 14 _ rfl
      have p15 := PD.2.1 15 _ rfl
      have p16 := PD.2.1 16 _ rfl
      have p17 := PD.2.1 17 _ rfl
      have p18 := PD.2.1 18 _ rfl
      clear PD
      refine reg_start (fun W => ∀ b o, b < w3.heap.size → W.cell? ⟨b, o, none⟩ = w3.cell? ⟨b, o, none⟩) (by kernel_rfl) ?_
      refine reg_seg 0 11 7 (by kernel_rfl) (by decide) (by kernel_rfl) (by kernel_rfl) (fun _ _ _ _ _ h => h) ?_
      simp only [List.take_succ_cons, List.take_zero, List.drop_succ_cons, List.drop_zero]
      (refine wpSteady_step (fun K hK => ?_); go_simp; first | (refine steady_of ?_ (fun W hW => ?_) (hK _ ?_); rotate_left; (obtain hcW := hW; go_simp; first | done | rfl); clear hK K) | (refine hK _ ?_; clear hK K))
      (refine wpSteady_step (fun K hK => ?_); go_simp; first | (refine steady_of ?_ (fun W hW => ?_) (hK _ ?_); rotate_left; (obtain hcW := hW; go_simp; first | done | rfl); clear hK K) | (refine hK _ ?_; clear hK K))
      (refine wpSteady_step (fun K hK => ?_); go_simp; first | (refine steady_of ?_ (fun W hW => ?_) (hK _ ?_); rotate_left; (obtain hcW := hW; go_simp; first | done | rfl); clear hK K) | (refine hK _ ?_; clear hK K))
      (refine wpSteady_step (fun K hK => ?_); go_simp; first | (refine steady_of ?_ (fun W hW => ?_) (hK _ ?_); rotate_left; (obtain hcW := hW; go_simp; first | done | rfl); clear hK K) | (refine hK _ ?_; clear hK K))
      (refine wpSteady_step (fun K hK => ?_); go_simp; first | (refine steady_of ?_ (fun W hW => ?_) (hK _ ?_); rotate_left; (obtain hcW := hW; go_simp; first | done | rfl); clear hK K) | (refine hK _ ?_; clear hK K))
      (refine wpSteady_step (fun K hK => ?_); go_simp; first | (refine steady_of ?_ (fun W hW => ?_) (hK _ ?_); rotate_left; (obtain hcW := hW; go_simp; first | done | rfl); clear hK K) | (refine hK _ ?_; clear hK K))
      refine steady_slice rfl (.tmp 76) (.tmp 78) rfl io bs.length icap ma.rd rfl rfl hrd hicap hinil hicx ?_
      repeat (refine wpSteady_step (fun K hK => ?_); go_simp; first | (refine steady_of ?_ (fun W hW => ?_) (hK _ ?_); rotate_left; (obtain hcW := hW; go_simp; first | done | rfl); clear hK K) | (refine hK _ ?_; clear hK K))
      refine wpSteady_nil ?_
      apply reg_meet (R := Met w w3 mb (bs.drop ma.rd).length)
      · intro hrest
        refine reg_two 11 15 6 (by kernel_rfl) (by kernel_rfl) (fun _ _ _ => rfl) ?_ ?_
        · simp only [List.take_succ_cons, List.take_zero, List.drop_succ_cons, List.drop_zero]
          go_wp2_with fail
          refine (unhideI RB2 _ _ _ _ ((unhideI HC).step (unhideI K3).drew) (Ints.step (Ints.step (unhideI I2) (unhideI SN).2) (Below.refl _ _).drew) (Lies.step (unhideI HBY) (Below.refl _ _).drew)).mono ?_
          rintro e w4 ⟨vo4, vm4, rfl, i4, o4, k4, f4, no4, nm4⟩
          have MT := hideI (show Met w w3 mb (bs.drop ma.rd).length vo4 vm4 w4.heap.size (w4.alloc (.cells #[.int .i64 0, .int .i64 0, .slice none 0 0, .int .i64 0, .int .i64 0, .int .i64 0, .int .i64 0, .int .i64 0, .int .i64 0, .int .i64 0, .int .i64 0, .int .i64 0, .int .i64 0, .bool false, .bool false, .bool false, .bool false, .int .i64 0, .slice none 0 0] 33)) from { im := i4.step (below_a _ _), io := Lies.step o4 (below_a _ _), low := bt (bt (unhideI K3).drew k4) (below_a _ _), blk := heap_new _ _, hg := k4.size, no := fun k h1 h2 => Nat.ne_of_lt (lies_lt o4 k h1 h2), nm := fun k h1 h2 => Nat.ne_of_lt (lies_lt i4 k h1 h2), keep := bt (bt (Below.refl _ _).drew k4) (below_a _ _), rd := (f4 trivial).rd, ol := (f4 trivial).out })
          have C4 := hideI (below_cells k4).1
          clear i4 o4 k4 no4 nm4 f4
          unfold ranV
          go_wp2_with fail
          first | refine next_nil ?_ | refine next_go ?_
          refine reg_seg 12 3 3 (by kernel_rfl) (by decide) (by kernel_rfl) (by kernel_rfl) (fun _ _ _ _ _ h => h) ?_
          simp only [List.take_succ_cons, List.take_zero, List.drop_succ_cons, List.drop_zero]
          repeat (refine wpSteady_step (fun K hK => ?_); go_simp; first | (refine steady_of ?_ (fun W hW => ?_) (hK _ ?_); rotate_left; (obtain hcW := hW; go_simp; first | done | rfl); clear hK K) | (refine hK _ ?_; clear hK K))
          refine wpSteady_nil ?_
          refine reg_one 15 2 (by kernel_rfl) (by kernel_rfl) (unhideI C4) ?_
          simp only [List.take_succ_cons, List.take_zero, List.drop_succ_cons, List.drop_zero]
          go_wp2_with fail
          first | refine next_nil ?_ | refine next_go ?_
          generalize w4.alloc (.cells #[.int .i64 0, .int .i64 0, .slice none 0 0, .int .i64 0, .int .i64 0, .int .i64 0, .int .i64 0, .int .i64 0, .int .i64 0, .int .i64 0, .int .i64 0, .int .i64 0, .int .i64 0, .bool false, .bool false, .bool false, .bool false, .int .i64 0, .slice none 0 0] 33) = W5 at *
          generalize w4.heap.size = g5 at *
          exact hrest _ _ _ _ (unhideI MT)
        · simp only [List.take_succ_cons, List.take_zero, List.drop_succ_cons, List.drop_zero]
          go_wp2_with fail
          first | refine next_nil ?_ | refine next_go ?_
          have KA := hideI (bt (Below.refl _ w3).drew (below_a w3.drew (.cells #[.int .i64 0, .int .i64 0, .slice none 0 0, .int .i64 0, .int .i64 0, .int .i64 0, .int .i64 0, .int .i64 0, .int .i64 0, .int .i64 0, .int .i64 0, .int .i64 0, .int .i64 0, .bool false, .bool false, .bool false, .bool false, .int .i64 0, .slice none 0 0] 33)))
          have HB := hideI (heap_new w3.drew (.cells #[.int .i64 0, .int .i64 0, .slice none 0 0, .int .i64 0, .int .i64 0, .int .i64 0, .int .i64 0, .int .i64 0, .int .i64 0, .int .i64 0, .int .i64 0, .int .i64 0, .int .i64 0, .bool false, .bool false, .bool false, .bool false, .int .i64 0, .slice none 0 0] 33))
          have hds : w3.drew.heap.size = w3.heap.size := rfl
          have C3 := hideI (below_cells (unhideI KA)).1
          refine reg_one 11 5 (by kernel_rfl) (by kernel_rfl) (unhideI C3) ?_
          simp only [List.take_succ_cons, List.take_zero, List.drop_succ_cons, List.drop_zero]
          go_wp2_with fail
          refine (unhideI RB2 _ _ _ _ ((unhideI HC).step (bt (unhideI K3) (unhideI KA))) (Ints.step (Ints.step (unhideI I2) (unhideI SN).2) (unhideI KA)) (Lies.step (unhideI HBY) (unhideI KA))).mono ?_
          rintro e w4 ⟨vo4, vm4, rfl, i4, o4, k4, f4, no4, nm4⟩
          have hlt : w3.heap.size < (w3.drew.alloc (.cells #[.int .i64 0, .int .i64 0, .slice none 0 0, .int .i64 0, .int .i64 0, .int .i64 0, .int .i64 0, .int .i64 0, .int .i64 0, .int .i64 0, .int .i64 0, .int .i64 0, .int .i64 0, .bool false, .bool false, .bool false, .bool false, .int .i64 0, .slice none 0 0] 33)).heap.size := by rw [World.size_alloc]; exact Nat.lt_succ_self w3.heap.size
          have MT := hideI (show Met w w3 mb (bs.drop ma.rd).length vo4 vm4 w3.heap.size w4 from { im := i4, io := o4, low := bt (bt (unhideI K3) (unhideI KA)) k4, blk := (k4.block _ hlt).trans (unhideI HB), hg := Nat.le_refl _, no := fun k _ h2 => by have := no4 k h2; omega, nm := fun k _ h2 => by have := nm4 k h2; omega, keep := bt (unhideI KA) k4, rd := (f4 trivial).rd, ol := (f4 trivial).out })
          have C4 := hideI (below_cells (bt (unhideI KA) k4)).1
          clear i4 o4 k4 no4 nm4 f4 hlt HB C3 KA
          unfold ranV
          go_wp2_with fail
          first | refine next_nil ?_ | refine next_go ?_
          refine reg_seg 12 3 2 (by kernel_rfl) (by decide) (by kernel_rfl) (by kernel_rfl) (fun _ _ _ _ _ h => h) ?_
          simp only [List.take_succ_cons, List.take_zero, List.drop_succ_cons, List.drop_zero]
          repeat (refine wpSteady_step (fun K hK => ?_); go_simp; first | (refine steady_of ?_ (fun W hW => ?_) (hK _ ?_); rotate_left; (obtain hcW := hW; go_simp; first | done | rfl); clear hK K) | (refine hK _ ?_; clear hK K))
          refine wpSteady_nil ?_
          generalize w3.heap.size = g5 at *
          exact hrest _ _ _ _ (unhideI MT)
      · intro vo4 vm4 g5 W5 MT
        have I4 := hideI MT.im
        have O4 := hideI MT.io
        obtain ⟨m4, c4, rfl, _, _⟩ := MT.im.at
        obtain ⟨n4, d4, rfl, _, _⟩ := MT.io.at
        have C5 := hideI (below_cells MT.keep).1
        have HMT := hideI MT
        have hmr := MT.rd
        have hob := MT.ol
        have hg5 := MT.hg
        rw [List.length_drop] at hmr
        clear MT
        refine reg_one 16 1 (by kernel_rfl) (by kernel_rfl) (unhideI C5) ?_
        simp only [List.take_succ_cons, List.take_zero, List.drop_succ_cons, List.drop_zero]
        refine wpList_store_row rfl 33 (.tmp 16) (.tmp 85) rfl g5 (ranC mb (.slice n4 mb.out.length d4) (.slice m4 (memL mb.mem).length c4)) rfl rfl 33 #[.int .i64 0, .int .i64 0, .slice none 0 0, .int .i64 0, .int .i64 0, .int .i64 0, .int .i64 0, .int .i64 0, .int .i64 0, .int .i64 0, .int .i64 0, .int .i64 0, .int .i64 0, .bool false, .bool false, .bool false, .bool false, .int .i64 0, .slice none 0 0] (unhideI HMT).blk Try.sizeRan rfl (ranC_one _ _ _ _ _ _ _) ?_
        have HG6 := hideI (setRow_heap W5 g5 _ (ranC mb (.slice n4 mb.out.length d4) (.slice m4 (memL mb.mem).length c4)) _ _ (unhideI HMT).blk)
        have I6 := hideI (Lies.blk0 (w' := W5.setRow g5 (ranC mb (.slice n4 mb.out.length d4) (.slice m4 (memL mb.mem).length c4))) (unhideI I4) (by rw [size_setRow]; exact Nat.le_refl _) fun k h1 h2 => setRow_other _ _ _ _ ((unhideI HMT).nm k h1 h2))
        have O6 := hideI (Lies.blk0 (w' := W5.setRow g5 (ranC mb (.slice n4 mb.out.length d4) (.slice m4 (memL mb.mem).length c4))) (unhideI O4) (by rw [size_setRow]; exact Nat.le_refl _) fun k h1 h2 => setRow_other _ _ _ _ ((unhideI HMT).no k h1 h2))
        have K6 := hideI (Below.row (unhideI HMT).low (Nat.le_trans (unhideI K3).size hg5) (ranC mb (.slice n4 mb.out.length d4) (.slice m4 (memL mb.mem).length c4)))
        have N6 := hideI (Below.row (unhideI HMT).keep hg5 (ranC mb (.slice n4 mb.out.length d4) (.slice m4 (memL mb.mem).length c4)))
        generalize W5.setRow g5 (ranC mb (.slice n4 mb.out.length d4) (.slice m4 (memL mb.mem).length c4)) = W6 at *
        have C6 := hideI (below_cells (unhideI N6)).1
        clear HMT I4 O4 C5
        first | refine next_nil ?_ | refine next_go ?_
        refine reg_one 17 0 (by kernel_rfl) (by kernel_rfl) (unhideI C6) ?_
        simp only [List.take_succ_cons, List.take_zero, List.drop_succ_cons, List.drop_zero]
        go_wp2_with fail
        first | refine next_nil ?_ | refine next_go ?_
        refine reg_end (by kernel_rfl) (unhideI C6) ?_
        have SB6 := ((unhideI HS2).step (unhideI SN).2).step (unhideI N6)
        have s0 := SB6.2.1 0 _ rfl
        have s1 := SB6.2.1 1 _ rfl
        have s2 := SB6.2.1 2 _ rfl
        have s3 := SB6.2.1 3 _ rfl
        have s4 := SB6.2.1 4 _ rfl
        have s5 := SB6.2.1 5 _ rfl
        have s6 := SB6.2.1 6 _ rfl
        have s7 := SB6.2.1 7 _ rfl
        have s8 := SB6.2.1 8 _ rfl
        have s9 := SB6.2.1 9 _ rfl
        have s10 := SB6.2.1 10 _ rfl
        have s11 := SB6.2.1 11 _ rfl
        have s12 := SB6.2.1 12 _ rfl
        have s13 := SB6.2.1 13 _ rfl
        have l6 := SB6.1
        have BB6 := hideI (Box.heap (unhideI HG6))
        have BA6 := hideI ((unhideI SN).1.step (unhideI N6))
        clear SB6 HS2 C6 HG6 p0 p1 p2 p3 p4 p5 p6 p7 p8 p9 p10 p11 p12 p13 p14 p15 p16 p17 p18
        go_wp2_with fail
        refine (unhideI RC _ _ _ _ ((unhideI HC).step (unhideI K6)) ((unhideI HM).step (unhideI K6)) (Lies.step (unhideI HI) (unhideI K6))).mono ?_
        rintro e w7 ⟨vo7, vm7, rfl, i7, o7, k7, _⟩
        have K7 := hideI (bt (unhideI K6) k7)
        have BA7 := hideI ((unhideI BA6).step k7)
        have BB7 := hideI ((unhideI BB6).step k7)
        have OA7 := hideI (Lies.step (Lies.step (Lies.step (unhideI O2) (unhideI SN).2) (unhideI N6)) k7)
        have IB7 := hideI (Ints.step (unhideI I6) k7)
        have OB7 := hideI (Lies.step (unhideI O6) k7)
        have I7 := hideI i7
        have O7 := hideI o7
        obtain ⟨m7, c7, rfl, _, _⟩ := i7.at
        obtain ⟨n7, d7, rfl, _, _⟩ := o7.at
        clear i7 o7 k7 s0 s1 s2 s3 s4 s5 s6 s7 s8 s9 s10 s11 s12 s13 BA6 BB6 I6 O6 SN SH N6
        unfold ranV
        by_cases hlen : 65536 < ma.out.length + mb.out.length
        · have b9 : decide ((65536 : Int) < (ma.out.length : Int) + mb.out.length) = true := by simp; omega
          go_wp2_with (refine wpList_store_row rfl 33 (.tmp 17) (.tmp 93) rfl w7.heap.size (ranC mc (.slice n7 mc.out.length d7) (.slice m7 (memL mc.mem).length c7)) rfl rfl 33 #[.int .i64 0, .int .i64 0, .slice none 0 0, .int .i64 0, .int .i64 0, .int .i64 0, .int .i64 0, .int .i64 0, .int .i64 0, .int .i64 0, .int .i64 0, .int .i64 0, .int .i64 0, .bool false, .bool false, .bool false, .bool false, .int .i64 0, .slice none 0 0] (heap_new _ _) Try.sizeRan rfl (ranC_one _ _ _ _ _ _ _) ?_; have S8 := hideI (store_new w7 #[.int .i64 0, .int .i64 0, .slice none 0 0, .int .i64 0, .int .i64 0, .int .i64 0, .int .i64 0, .int .i64 0, .int .i64 0, .int .i64 0, .int .i64 0, .int .i64 0, .int .i64 0, .bool false, .bool false, .bool false, .bool false, .int .i64 0, .slice none 0 0] (ranC mc (.slice n7 mc.out.length d7) (.slice m7 (memL mc.mem).length c7)) 33); have H8 := hideI (store_heap w7 #[.int .i64 0, .int .i64 0, .slice none 0 0, .int .i64 0, .int .i64 0, .int .i64 0, .int .i64 0, .int .i64 0, .int .i64 0, .int .i64 0, .int .i64 0, .int .i64 0, .int .i64 0, .bool false, .bool false, .bool false, .bool false, .int .i64 0, .slice none 0 0] (ranC mc (.slice n7 mc.out.length d7) (.slice m7 (memL mc.mem).length c7)) 33); generalize (w7.alloc (.cells #[.int .i64 0, .int .i64 0, .slice none 0 0, .int .i64 0, .int .i64 0, .int .i64 0, .int .i64 0, .int .i64 0, .int .i64 0, .int .i64 0, .int .i64 0, .int .i64 0, .int .i64 0, .bool false, .bool false, .bool false, .bool false, .int .i64 0, .slice none 0 0] 33)).setRow w7.heap.size (ranC mc (.slice n7 mc.out.length d7) (.slice m7 (memL mc.mem).length c7)) = w8 at *; have BA8 := hideI ((unhideI BA7).step (unhideI S8).2); have BB8 := hideI ((unhideI BB7).step (unhideI S8).2); have K8 := hideI (bt (unhideI K7) (unhideI S8).2); have a2 := (unhideI BA8).2.1 2 _ rfl; have b2' := (unhideI BB8).2.1 2 _ rfl; have za := (unhideI BA8).1; have zb := (unhideI BB8).1; have zc := (unhideI S8).1.1)
          go_ret
          exact ⟨rfl, unhideI K8⟩
        have b9 : decide ((65536 : Int) < (ma.out.length : Int) + mb.out.length) = false := by simp; omega
        have g9 := unhideI G3 (by omega)
        subst g9
        go_wp2_with (refine wpList_store_row rfl 33 (.tmp 17) (.tmp 93) rfl w7.heap.size (ranC (mb.shift ma.out ma.rd ma.took) (.slice n7 (mb.shift ma.out ma.rd ma.took).out.length d7) (.slice m7 (memL (mb.shift ma.out ma.rd ma.took).mem).length c7)) rfl rfl 33 #[.int .i64 0, .int .i64 0, .slice none 0 0, .int .i64 0, .int .i64 0, .int .i64 0, .int .i64 0, .int .i64 0, .int .i64 0, .int .i64 0, .int .i64 0, .int .i64 0, .int .i64 0, .bool false, .bool false, .bool false, .bool false, .int .i64 0, .slice none 0 0] (heap_new _ _) Try.sizeRan rfl (ranC_one _ _ _ _ _ _ _) ?_; have S8 := hideI (store_new w7 #[.int .i64 0, .int .i64 0, .slice none 0 0, .int .i64 0, .int .i64 0, .int .i64 0, .int .i64 0, .int .i64 0, .int .i64 0, .int .i64 0, .int .i64 0, .int .i64 0, .int .i64 0, .bool false, .bool false, .bool false, .bool false, .int .i64 0, .slice none 0 0] (ranC (mb.shift ma.out ma.rd ma.took) (.slice n7 (mb.shift ma.out ma.rd ma.took).out.length d7) (.slice m7 (memL (mb.shift ma.out ma.rd ma.took).mem).length c7)) 33); have H8 := hideI (store_heap w7 #[.int .i64 0, .int .i64 0, .slice none 0 0, .int .i64 0, .int .i64 0, .int .i64 0, .int .i64 0, .int .i64 0, .int .i64 0, .int .i64 0, .int .i64 0, .int .i64 0, .int .i64 0, .bool false, .bool false, .bool false, .bool false, .int .i64 0, .slice none 0 0] (ranC (mb.shift ma.out ma.rd ma.took) (.slice n7 (mb.shift ma.out ma.rd ma.took).out.length d7) (.slice m7 (memL (mb.shift ma.out ma.rd ma.took).mem).length c7)) 33); generalize (w7.alloc (.cells #[.int .i64 0, .int .i64 0, .slice none 0 0, .int .i64 0, .int .i64 0, .int .i64 0, .int .i64 0, .int .i64 0, .int .i64 0, .int .i64 0, .int .i64 0, .int .i64 0, .int .i64 0, .bool false, .bool false, .bool false, .bool false, .int .i64 0, .slice none 0 0] 33)).setRow w7.heap.size (ranC (mb.shift ma.out ma.rd ma.took) (.slice n7 (mb.shift ma.out ma.rd ma.took).out.length d7) (.slice m7 (memL (mb.shift ma.out ma.rd ma.took).mem).length c7)) = w8 at *; have BA8 := hideI ((unhideI BA7).step (unhideI S8).2); have BB8 := hideI ((unhideI BB7).step (unhideI S8).2); have K8 := hideI (bt (unhideI K7) (unhideI S8).2); have a2 := (unhideI BA8).2.1 2 _ rfl; have b2' := (unhideI BB8).2.1 2 _ rfl; have za := (unhideI BA8).1; have zb := (unhideI BB8).1; have zc := (unhideI S8).1.1)
        have ca := unhideI BA8
        have cb := unhideI BB8
        have cc := (unhideI S8).1
        have pa3 := ca.2.1 3 _ rfl
        have pa4 := ca.2.1 4 _ rfl
        have q0 := cb.2.1 0 _ rfl
        have q1 := cb.2.1 1 _ rfl
        have q2 := cb.2.1 2 _ rfl
        have q3 := cb.2.1 3 _ rfl
        have q4 := cb.2.1 4 _ rfl
        have q5 := cb.2.1 5 _ rfl
        have q6 := cb.2.1 6 _ rfl
        have q7 := cb.2.1 7 _ rfl
        have q8 := cb.2.1 8 _ rfl
        have q9 := cb.2.1 9 _ rfl
        have q10 := cb.2.1 10 _ rfl
        have q11 := cb.2.1 11 _ rfl
        have q12 := cb.2.1 12 _ rfl
        have q13 := cb.2.1 13 _ rfl
        have q14 := cb.2.1 14 _ rfl
        have q15 := cb.2.1 15 _ rfl
        have q16 := cb.2.1 16 _ rfl
        have q17 := cb.2.1 17 _ rfl
        have q18 := cb.2.1 18 _ rfl
        have r0 := cc.2.1 0 _ rfl
        have r1 := cc.2.1 1 _ rfl
        have r2 := cc.2.1 2 _ rfl
        have r3 := cc.2.1 3 _ rfl
        have r4 := cc.2.1 4 _ rfl
        have r5 := cc.2.1 5 _ rfl
        have r6 := cc.2.1 6 _ rfl
        have r7 := cc.2.1 7 _ rfl
        have r8 := cc.2.1 8 _ rfl
        have r9 := cc.2.1 9 _ rfl
        have r10 := cc.2.1 10 _ rfl
        have r11 := cc.2.1 11 _ rfl
        have r12 := cc.2.1 12 _ rfl
        have r13 := cc.2.1 13 _ rfl
        have r14 := cc.2.1 14 _ rfl
        have r15 := cc.2.1 15 _ rfl
        have r16 := cc.2.1 16 _ rfl
        have r17 := cc.2.1 17 _ rfl
        have r18 := cc.2.1 18 _ rfl
        have e3 : Hid (((mb.shift ma.out ma.rd ma.took).rd : Int) = (ma.rd : Int) + mb.rd) := by unfold Hid Ma.shift; simp
        have e4 : Hid ((mb.shift ma.out ma.rd ma.took).took = ma.took + mb.took) := rfl
        rw [unhideI e3] at r3
        rw [unhideI e4] at r4
        have IB8 := hideI (Ints.step (unhideI IB7) (unhideI S8).2)
        have IC8 := hideI (Ints.step (unhideI I7) (unhideI S8).2)
        have OA8 := hideI (Lies.step (unhideI OA7) (unhideI S8).2)
        have OB8 := hideI (Lies.step (unhideI OB7) (unhideI S8).2)
        have OC8 := hideI (Lies.step (unhideI O7) (unhideI S8).2)
        clear ca cb cc BA8 BB8 S8 H8 IB7 I7 OA7 OB7 O7 BA7 BB7 e3 e4 G3
        unfold Ma.shift at *
        dsimp only at *
        obtain ⟨ta1, ta2⟩ := tA
        obtain ⟨tb1, tb2⟩ := tB
        have ta3 : ma.took ≤ 1000000 := by omega
        have tb3 : mb.took ≤ 1000000 := by omega
        have hs1 : (ma.rd : Int) + (mb.rd : Int) ≤ 9223372036854775807 := by omega
        have hs2 : (ma.rd : Int) ≤ 9223372036854775807 := by omega
        have hs3 : (mb.rd : Int) ≤ 9223372036854775807 := by omega
        have hs4 : IntKind.i64.wrap ((ma.rd : Int) + (mb.rd : Int)) = (ma.rd : Int) + (mb.rd : Int) := by rw [IntKind.wrap_i64]; omega
        have hs5 : IntKind.i64.wrap (ma.took + mb.took) = ma.took + mb.took := by rw [IntKind.wrap_i64]; omega
        obtain ⟨k0, hk0, hk1, hk2, hk3⟩ := info_parts Try.infoByte8
        refine reg_start (fun W => ∀ b o, b < w8.heap.size → W.cell? ⟨b, o, none⟩ = w8.cell? ⟨b, o, none⟩) (by kernel_rfl) ?_
        refine reg_seg 0 27 15 (by kernel_rfl) (by decide) (by kernel_rfl) (by kernel_rfl) (fun _ _ _ _ _ h => h) ?_
        simp only [List.take_succ_cons, List.take_zero, List.drop_succ_cons, List.drop_zero]
        repeat (refine wpSteady_step (fun K hK => ?_); go_simp; first | (refine steady_of ?_ (fun W hW => ?_) (hK _ ?_); rotate_left; (obtain hcW := hW; go_simp; first | done | rfl); clear hK K) | (refine hK _ ?_; clear hK K))
        refine wpSteady_nil ?_
        refine reg_one 27 14 (by kernel_rfl) (by kernel_rfl) (fun _ _ _ => rfl) ?_
        simp only [List.take_succ_cons, List.take_zero, List.drop_succ_cons, List.drop_zero]
        go_wp2_with fail
        have SS := sameS_yes mb (memL mb.mem) (.slice m4 (memL mb.mem).length c4) (.slice m7 (memL mb.mem).length c7) _ (Ints.step (unhideI IB8) (Below.refl _ w8).drew) (Ints.step (unhideI IC8) (Below.refl _ w8).drew)
        unfold stC at SS
        refine SS.mono ?_
        clear SS
        rintro e w9 ⟨rfl, k9⟩
        have N9 := hideI (bt (Below.refl _ w8).drew k9)
        have C9 := hideI (below_cells (unhideI N9)).1
        clear k9 IB8 IC8 q0 q1 q3 q4 q5 q6 q7 q8 q9 q10 q11 q12 q13 q14 q15 q16 q17 q18 r0 r1 r3 r4 r5 r6 r7 r8 r9 r10 r11 r12 r13 r14 r15 r16 r17 r18 hs1 hs2 hs3 hs4 hs5
        go_wp2_with fail
        first | refine next_nil ?_ | refine next_go ?_
        refine reg_seg 28 2 12 (by kernel_rfl) (by decide) (by kernel_rfl) (by kernel_rfl) (fun _ _ _ _ _ h => h) ?_
        simp only [List.take_succ_cons, List.take_zero, List.drop_succ_cons, List.drop_zero]
        repeat (refine wpSteady_step (fun K hK => ?_); go_simp; first | (refine steady_of ?_ (fun W hW => ?_) (hK _ ?_); rotate_left; (obtain hcW := hW; go_simp; first | done | rfl); clear hK K) | (refine hK _ ?_; clear hK K))
        refine wpSteady_nil ?_
        refine reg_seg 31 2 10 (by kernel_rfl) (by decide) (by kernel_rfl) (by kernel_rfl) (fun _ _ _ _ _ h => h) ?_
        simp only [List.take_succ_cons, List.take_zero, List.drop_succ_cons, List.drop_zero]
        repeat (refine wpSteady_step (fun K hK => ?_); go_simp; first | (refine steady_of ?_ (fun W hW => ?_) (hK _ ?_); rotate_left; (obtain hcW := hW; go_simp; first | done | rfl); clear hK K) | (refine hK _ ?_; clear hK K))
        refine wpSteady_nil ?_
        refine reg_seg 34 2 8 (by kernel_rfl) (by decide) (by kernel_rfl) (by kernel_rfl) (fun _ _ _ _ _ h => h) ?_
        simp only [List.take_succ_cons, List.take_zero, List.drop_succ_cons, List.drop_zero]
        repeat (refine wpSteady_step (fun K hK => ?_); go_simp; first | (refine steady_of ?_ (fun W hW => ?_) (hK _ ?_); rotate_left; (obtain hcW := hW; go_simp; first | done | rfl); clear hK K) | (refine hK _ ?_; clear hK K))
        refine wpSteady_nil ?_
        refine reg_seg 37 2 6 (by kernel_rfl) (by decide) (by kernel_rfl) (by kernel_rfl) (fun _ _ _ _ _ h => h) ?_
        simp only [List.take_succ_cons, List.take_zero, List.drop_succ_cons, List.drop_zero]
        repeat (refine wpSteady_step (fun K hK => ?_); go_simp; first | (refine steady_of ?_ (fun W hW => ?_) (hK _ ?_); rotate_left; (obtain hcW := hW; go_simp; first | done | rfl); clear hK K) | (refine hK _ ?_; clear hK K))
        refine wpSteady_nil ?_
        refine reg_one 30 5 (by kernel_rfl) (by kernel_rfl) (unhideI C9) ?_
        simp only [List.take_succ_cons, List.take_zero, List.drop_succ_cons, List.drop_zero]
        go_wp2_with fail
        first | refine next_nil ?_ | refine next_go ?_
        have ON := hideI (own_nil' w9 w8.heap.size 5 1 (unhideI N9).size)
        have N10 := hideI (bt (unhideI N9) (below_a w9 (.cells #[] 5)))
        have C10 := hideI (below_cells (unhideI N10)).1
        refine reg_one 33 4 (by kernel_rfl) (by kernel_rfl) (unhideI C10) ?_
        simp only [List.take_succ_cons, List.take_zero, List.drop_succ_cons, List.drop_zero]
        refine one_guard (by first | rfl | go_simp) ?_
        refine append_lies rfl (.tmp 143) (.tmp 145) 28 rfl w8.heap.size 5 k0 (.int .u8 0) 1 1 Try.underlying28 hk0 hk1 hk2 hk3 rfl (by decide) _ _ _ rfl (unhideI ON) _ _ _ rfl (Lies.step (unhideI OA8) (unhideI N10)) (byts_cells _) (by unfold maxLen; omega) (by omega) (unhideI N10).size ?_
        intro v11 w11 own11 grow11
        have N11 := hideI (below_own (unhideI N10) (unhideI N10).size (unhideI ON) grow11)
        have O11 := hideI own11
        have C11 := hideI (below_cells (unhideI N11)).1
        clear own11 grow11 ON C10
        first | refine next_nil ?_ | refine next_go ?_
        refine reg_one 36 3 (by kernel_rfl) (by kernel_rfl) (unhideI C11) ?_
        simp only [List.take_succ_cons, List.take_zero, List.drop_succ_cons, List.drop_zero]
        refine one_guard (by first | rfl | go_simp) ?_
        refine append_lies rfl (.tmp 146) (.tmp 148) 28 rfl w8.heap.size 5 k0 (.int .u8 0) 1 1 Try.underlying28 hk0 hk1 hk2 hk3 rfl (by decide) _ _ _ rfl (unhideI O11) _ _ _ rfl (Lies.step (unhideI OB8) (unhideI N11)) (byts_cells _) (by unfold maxLen; omega) (by omega) (unhideI N11).size ?_
        intro v12 w12 own12 grow12
        have N12 := hideI (below_own (unhideI N11) (unhideI N11).size (unhideI O11) grow12)
        have B12 := hideI (byts_two own12)
        have C12 := hideI (below_cells (unhideI N12)).1
        clear own12 grow12 C11
        first | refine next_nil ?_ | refine next_go ?_
        refine reg_one 39 2 (by kernel_rfl) (by kernel_rfl) (unhideI C12) ?_
        simp only [List.take_succ_cons, List.take_zero, List.drop_succ_cons, List.drop_zero]
        go_wp2_with fail
        have SC : Byts w12 (.slice n7 (ma.out ++ mb.out).length d7) (ma.out ++ mb.out) := Lies.step (unhideI OC8) (unhideI N12)
        rw [List.length_append] at SC
        have SD := sameB_yes (ma.out ++ mb.out) v12 (.slice n7 (ma.out.length + mb.out.length) d7) w12 (unhideI B12) SC
        refine SD.mono ?_
        rintro e w13 ⟨rfl, k13⟩
        have N13 := hideI (bt (unhideI N12) k13)
        have C13 := hideI (below_cells (unhideI N13)).1
        go_wp2_with fail
        first | refine next_nil ?_ | refine next_go ?_
        refine reg_seg 40 2 0 (by kernel_rfl) (by decide) (by kernel_rfl) (by kernel_rfl) (fun _ _ _ _ _ h => h) ?_
        simp only [List.take_succ_cons, List.take_zero, List.drop_succ_cons, List.drop_zero]
        repeat (refine wpSteady_step (fun K hK => ?_); go_simp; first | (refine steady_of ?_ (fun W hW => ?_) (hK _ ?_); rotate_left; (obtain hcW := hW; go_simp; first | done | rfl); clear hK K) | (refine hK _ ?_; clear hK K))
        refine wpSteady_nil ?_
        refine reg_end (by kernel_rfl) (unhideI C13) ?_
        go_wp2_with fail
        go_ret
        exact ⟨rfl, bt (unhideI K8) (unhideI N13)⟩
end Go.Proofs.Ytjlbenbfmookoaa
