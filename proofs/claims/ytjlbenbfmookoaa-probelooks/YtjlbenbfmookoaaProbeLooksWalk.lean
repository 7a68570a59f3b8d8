/-
  Who looks changes nothing: a traced run is the run.
-/
import Derived.Test.YtjlbenbfmookoaaPrA
import Derived.Test.YtjlbenbfmookoaaRefT
import Derived.Test.YtjlbenbfmookoaaPrL
namespace Go.Proofs.Ytjlbenbfmookoaa
open Go.RowKit
set_option linter.unusedSimpArgs false
set_option linter.unusedVariables false

theorem looks_math {xs : List Int} {s : St} {bs : List Int} {F : Int} {most : Nat} (h : (runW xs s bs F (fun _ => false) (tkT most) []).1.2 = 0) :
    xs.length ≤ 65536 ∧ TrOk xs s.pc (runW xs s bs F (fun _ => false) (tkT most) []).2 ∧ (runW xs s bs F (fun _ => false) (tkT most) []).2.length ≤ most ∧ ((runW xs s bs F (fun _ => false) (tkT most) []).2.length : Int) ≤ (runW xs s bs F (fun _ => false) (tkT most) []).1.1.took := by
  unfold runW at h ⊢
  by_cases h1 : 65536 < xs.length
  · rw [if_pos h1] at h; exact absurd h (by show ¬ (4 : Int) = 0; decide)
  rw [if_neg h1] at h ⊢
  by_cases h2 : 65536 < bs.length
  · rw [if_pos h2] at h; exact absurd h (by show ¬ (4 : Int) = 0; decide)
  rw [if_neg h2] at h ⊢
  by_cases h3 : s.wrong = 0
  · rw [if_pos h3] at h ⊢
    by_cases h4 : F < 0
    · rw [if_pos h4] at h; exact absurd h (by show ¬ (3 : Int) = 0; decide)
    rw [if_neg h4] at h ⊢
    by_cases h5 : 1000000 < F
    · rw [if_pos h5] at h; exact absurd h (by show ¬ (3 : Int) = 0; decide)
    rw [if_neg h5]
    refine ⟨by omega, ?_⟩
    exact goW_trace (fun p hp => (oneA_ok xs p hp).1) F.toNat (startM s) [] rfl ⟨⟨fun i h => by simp at h, fun h => by simp at h, fun i h => by simp at h⟩, by simp, by show (0 : Int) ≤ 0; decide, fun _ => rfl, fun _ => rfl, fun _ h => by simp at h⟩
  · rw [if_neg h3] at h; exact absurd h h3
theorem wpList_load_rowG {P : Program} {ops : Array Oper} {rest : List Oper} {o : Oper} {a : Act} {w : World} {Q : Exit → Act → World → Prop} (hw : Region.wanted o (yielded ops a.tmps) = true) (ty : TypeId) (x : Operand) (ho : o.op = .load ty x)
    (g : Nat) (hx : a.eval x = .pointer (some ⟨g, 0, none⟩)) (t : TypeId) (cs : Array Value) (fr : Nat × Nat) (d : TypeDesc) (hg : w.heap[g]? = some (.cells cs t fr))
    (hu : P.underlying ty = some d) (hd : (match d with | .struct _ | .array _ _ => true | _ => false) = true) (hi : (P.info? ty).map (·.size) = some cs.size)
    (h : wpList P ops Q rest (a.put o.dst (.agg cs)) w) : wpList P ops Q (o :: rest) a w := by
  unfold wpList
  rw [if_pos hw]
  exact .inl (wp_load_row ty x ho g hx t cs fr d hg hu hd hi h)
theorem eqIns (a b c d : Int) (w : World) : (Op.equalIn 10000 49 (.agg #[.int .i64 a, .int .i64 b, .int .i64 c, .int .i64 d]) (.agg #[.int .i64 a, .int .i64 b, .int .i64 c, .int .i64 d])).run Try.prog w = .ok true w := by
  have hS : Try.prog.underlying 49 = some (.struct (Try.prog.fieldsOf 49)) := by kernel_rfl
  rw [show (10000 : Nat) = 9999 + 1 from rfl, run_equalIn_agg w 9999 49 _ _ hS (by kernel_rfl)]
  simp only [Program.fieldsOf, Try.underlying49]
  go_simp
theorem flat17 : ∀ (l : List Sht) (i j : Nat) (h : i < l.length), j < 17 → (l.flatMap shC)[i * 17 + j]? = (shC l[i])[j]?
  | [], i, j, h, _ => by simp at h
  | x :: l, 0, j, h, hj => by
    have hx : (shC x).length = 17 := rfl
    rw [List.flatMap_cons, List.getElem?_append_left (by omega)]
    simp
  | x :: l, i + 1, j, h, hj => by
    have ih := flat17 l i j (by simpa using h) hj
    have hx : (shC x).length = 17 := rfl
    rw [List.flatMap_cons, List.getElem?_append_right (by omega), hx, show (i + 1) * 17 + j - 17 = i * 17 + j by omega]
    simpa using ih
theorem shots_at {w : World} {v : Value} {L : List Sht} (h : Lies w 17 v L.length (L.flatMap shC)) : ∃ ao cap, v = .slice ao L.length cap ∧ L.length ≤ maxLen ∧ (L ≠ [] → ∃ b off, ao = some ⟨b, off, none⟩ ∧ b < w.heap.size ∧ ∀ i (hi : i < L.length), ∀ j, j < 17 → w.cell? ⟨b, off + i * 17 + j, none⟩ = (shC L[i])[j]?) := by
  obtain ⟨_, ao, cap, rfl, h3, h4, _, h5⟩ := h
  refine ⟨ao, cap, rfl, Nat.le_trans h3 h4, fun hn => ?_⟩
  obtain ⟨b, off, rfl, hb, hc⟩ := h5 (by intro h; exact hn (List.eq_nil_of_length_eq_zero h))
  refine ⟨b, off, rfl, hb, fun i hi j hj => ?_⟩
  rw [Nat.add_assoc, hc (i * 17 + j) (by omega), flat17 L i j hi hj]

theorem Try.sizeShot : (Try.prog.info? 51).map (·.size) = some 17 := by kernel_rfl
theorem sht_one (x : Sht) : x.cells.all (·.oneCell') = true := by simp [Sht.cells, Value.oneCell']
theorem row_alloc16 (w : World) (Z A : Array Value) (T : TypeId) : (w.alloc (.cells Z T)).setRow w.heap.size A = w.alloc (.cells A T) := by
  unfold World.setRow World.alloc
  congr 1
  apply Array.ext_getElem?
  intro i
  rw [Array.getElem?_modify]
  by_cases h : w.heap.size = i
  · subst h; simp
  · rw [if_neg h, Array.getElem?_push, Array.getElem?_push, if_neg (Ne.symm h), if_neg (Ne.symm h)]
theorem lt_of16 {i i1 n : Nat} (e : i1 = i + 1) (h : (i1 : Int) < (n : Int)) : i + 1 < n := by omega
theorem heapNew16 (w : World) (o : Obj) : (w.alloc o).heap[w.heap.size]? = some o := by show (w.heap.push _)[w.heap.size]? = _; simp
set_option maxRecDepth 100000 in
set_option maxHeartbeats 4000000 in
theorem walk_probeLooks (xs : List Int) (s : St) (bs : List Int) (F most : Int) (vc vm vi : Value) (w : World) (hc : Ints w vc xs) {P0 P3 P4 : Prop} (_ : P0) (hm : Ints w vm s.mem) (hi : Byts w vi bs) (hb : ∀ x ∈ bs, 0 ≤ x ∧ x ≤ 255) (_ : P3) (_ : P4) :
    Calls Try.prog 4 #[vc, s.val vm, vi, .int .i64 F, .int .i64 most] w fun e w' => e = .returned (.bool true) ∧ Below w.heap.size w w' := by
  have HC := hideI hc
  have HI := hideI hi
  have HM := hideI hm
  have HB := hideI hb
  obtain ⟨co, ccap, rfl, hmx, _⟩ := hc.at
  obtain ⟨mo, mcap, rfl, hmm, _⟩ := hm.at
  have K0 := hideI (below_a w (.cells (s.cells (.slice mo s.mem.length mcap)) 27))
  have S0 : Hid (Box (w.alloc (.cells (s.cells (.slice mo s.mem.length mcap)) 27)) w.heap.size (s.cells (.slice mo s.mem.length mcap)).toList) := Box.new w _ 27
  have ALL := hideI (fun W => alive16 W)
  have HT := hideI (fun W k => trace_any xs s bs F most (.slice co xs.length ccap) (.slice mo s.mem.length mcap) vi W ((unhideI HC).step k) ((unhideI HM).step k) (Lies.step (unhideI HI) k) (unhideI HB))
  have RN := hideI (fun W k => run_any xs s bs F (.slice co xs.length ccap) (.slice mo s.mem.length mcap) vi W ((unhideI HC).step k) ((unhideI HM).step k) (Lies.step (unhideI HI) k) (unhideI HB))
  have ON := hideI (fun p W k => iOne_any xs (.slice co xs.length ccap) p W ((unhideI HC).step k))
  have CM := hideI (looks_math (xs := xs) (s := s) (bs := bs) (F := F) (most := most.toNat))
  have er9 : Hid ((runW xs s bs F (fun _ => false) (tkT most.toNat) []).1 = runA xs s bs F) := by unfold Hid; rw [runW_run fun _ => rfl]
  clear hc hm hi hb HC HI HM HB
  generalize runW xs s bs F (fun _ => false) (tkT most.toNat) [] = RW at *
  generalize runA xs s bs F = RA at *
  obtain ⟨rm, L⟩ := RW
  dsimp only at *
  have er9' := unhideI er9
  subst er9'
  clear er9
  obtain ⟨m, er⟩ := rm
  dsimp only at *
  unfold St.val St.cells at *
  generalize hW0 : w.alloc (.cells #[.int .i64 (s.r 0), .int .i64 (s.r 1), .int .i64 (s.r 2), .int .i64 (s.r 3), .int .i64 (s.r 4), .int .i64 (s.r 5), .int .i64 (s.r 6), .int .i64 (s.r 7), .bool s.c, .bool s.z, .bool s.n, .bool s.v, .int .i64 s.pc, .slice mo s.mem.length mcap] 27) = w0 at *
  go_enter Try.func4, Try.ntmps4
  go_wp2_with fail
  refine (unhideI ALL _).mono ?_
  rintro e w1 ⟨rfl, k1⟩
  have S1 := (unhideI S0).step k1
  have K1 := hideI (bt (unhideI K0) k1)
  have x0 := S1.2.1 0 _ rfl
  have x1 := S1.2.1 1 _ rfl
  have x2 := S1.2.1 2 _ rfl
  have x3 := S1.2.1 3 _ rfl
  have x4 := S1.2.1 4 _ rfl
  have x5 := S1.2.1 5 _ rfl
  have x6 := S1.2.1 6 _ rfl
  have x7 := S1.2.1 7 _ rfl
  have x8 := S1.2.1 8 _ rfl
  have x9 := S1.2.1 9 _ rfl
  have x10 := S1.2.1 10 _ rfl
  have x11 := S1.2.1 11 _ rfl
  have x12 := S1.2.1 12 _ rfl
  have x13 := S1.2.1 13 _ rfl
  clear S0 K0 hW0
  go_wp2_with fail
  refine (unhideI HT _ (unhideI K1)).mono ?_
  rintro e w2 ⟨k2, hbad, hgood⟩
  have K2 := hideI (bt (unhideI K1) k2)
  by_cases hq : most < 0 ∨ 10000 < most
  · have := hbad hq
    subst this
    unfold ran0
    have hb1 : ((3 : Int) != 0) = true := by decide
    go_wp2_with (refine wpList_store_row rfl 33 (.tmp 12) (.tmp 29) rfl w2.heap.size #[.int .i64 0, .int .i64 0, .slice none 0 0, .int .i64 0, .int .i64 0, .int .i64 0, .int .i64 0, .int .i64 0, .int .i64 0, .int .i64 0, .int .i64 0, .int .i64 0, .int .i64 0, .bool false, .bool false, .bool false, .bool false, .int .i64 0, .slice none 0 0] rfl rfl 33 #[.int .i64 0, .int .i64 0, .slice none 0 0, .int .i64 0, .int .i64 0, .int .i64 0, .int .i64 0, .int .i64 0, .int .i64 0, .int .i64 0, .int .i64 0, .int .i64 0, .int .i64 0, .bool false, .bool false, .bool false, .bool false, .int .i64 0, .slice none 0 0] (heap_new _ _) Try.sizeRan rfl ran0_one ?_; have SN := hideI (store_new w2 #[.int .i64 0, .int .i64 0, .slice none 0 0, .int .i64 0, .int .i64 0, .int .i64 0, .int .i64 0, .int .i64 0, .int .i64 0, .int .i64 0, .int .i64 0, .int .i64 0, .int .i64 0, .bool false, .bool false, .bool false, .bool false, .int .i64 0, .slice none 0 0] #[.int .i64 0, .int .i64 0, .slice none 0 0, .int .i64 0, .int .i64 0, .int .i64 0, .int .i64 0, .int .i64 0, .int .i64 0, .int .i64 0, .int .i64 0, .int .i64 0, .int .i64 0, .bool false, .bool false, .bool false, .bool false, .int .i64 0, .slice none 0 0] 33); generalize (w2.alloc (.cells #[.int .i64 0, .int .i64 0, .slice none 0 0, .int .i64 0, .int .i64 0, .int .i64 0, .int .i64 0, .int .i64 0, .int .i64 0, .int .i64 0, .int .i64 0, .int .i64 0, .int .i64 0, .bool false, .bool false, .bool false, .bool false, .int .i64 0, .slice none 0 0] 33)).setRow w2.heap.size #[.int .i64 0, .int .i64 0, .slice none 0 0, .int .i64 0, .int .i64 0, .int .i64 0, .int .i64 0, .int .i64 0, .int .i64 0, .int .i64 0, .int .i64 0, .int .i64 0, .int .i64 0, .bool false, .bool false, .bool false, .bool false, .int .i64 0, .slice none 0 0] = w3 at *)
    go_ret
    exact ⟨rfl, bt (unhideI K2) (unhideI SN).2⟩
  · obtain ⟨v2, vo, vm2, rfl, l2, i2, o2, f2, hl6⟩ := hgood ⟨by omega, by omega⟩
    dsimp only at *
    have S2 := S1.step k2
    have L2 := hideI l2
    have I2 := hideI i2
    have O2 := hideI o2
    obtain ⟨m3, c3, rfl, _, _⟩ := i2.at
    obtain ⟨n3, d3, rfl, _, _⟩ := o2.at
    obtain ⟨lo, lcap, rfl, -, -⟩ := shots_at l2
    clear hbad hgood l2 i2 o2 x0 x1 x2 x3 x4 x5 x6 x7 x8 x9 x10 x11 x12 x13 k2
    by_cases he : er = 0
    · subst he
      have hb1 : ((0 : Int) != 0) = false := by decide
      unfold ranV
      have SX := hideI S2
      go_wp2_with (refine wpList_store_row rfl 33 (.tmp 12) (.tmp 29) rfl w2.heap.size (ranC m (.slice n3 m.out.length d3) (.slice m3 (memL m.mem).length c3)) rfl rfl 33 #[.int .i64 0, .int .i64 0, .slice none 0 0, .int .i64 0, .int .i64 0, .int .i64 0, .int .i64 0, .int .i64 0, .int .i64 0, .int .i64 0, .int .i64 0, .int .i64 0, .int .i64 0, .bool false, .bool false, .bool false, .bool false, .int .i64 0, .slice none 0 0] (heap_new _ _) Try.sizeRan rfl (ranC_one _ _ _ _ _ _ _) ?_; have SN := hideI (store_new w2 #[.int .i64 0, .int .i64 0, .slice none 0 0, .int .i64 0, .int .i64 0, .int .i64 0, .int .i64 0, .int .i64 0, .int .i64 0, .int .i64 0, .int .i64 0, .int .i64 0, .int .i64 0, .bool false, .bool false, .bool false, .bool false, .int .i64 0, .slice none 0 0] (ranC m (.slice n3 m.out.length d3) (.slice m3 (memL m.mem).length c3)) 33); have SH := hideI (store_heap w2 #[.int .i64 0, .int .i64 0, .slice none 0 0, .int .i64 0, .int .i64 0, .int .i64 0, .int .i64 0, .int .i64 0, .int .i64 0, .int .i64 0, .int .i64 0, .int .i64 0, .int .i64 0, .bool false, .bool false, .bool false, .bool false, .int .i64 0, .slice none 0 0] (ranC m (.slice n3 m.out.length d3) (.slice m3 (memL m.mem).length c3)) 33); generalize (w2.alloc (.cells #[.int .i64 0, .int .i64 0, .slice none 0 0, .int .i64 0, .int .i64 0, .int .i64 0, .int .i64 0, .int .i64 0, .int .i64 0, .int .i64 0, .int .i64 0, .int .i64 0, .int .i64 0, .bool false, .bool false, .bool false, .bool false, .int .i64 0, .slice none 0 0] 33)).setRow w2.heap.size (ranC m (.slice n3 m.out.length d3) (.slice m3 (memL m.mem).length c3)) = w3 at *; have S3 := (unhideI SX).step (unhideI SN).2; have x0 := S3.2.1 0 _ rfl; have x1 := S3.2.1 1 _ rfl; have x2 := S3.2.1 2 _ rfl; have x3 := S3.2.1 3 _ rfl; have x4 := S3.2.1 4 _ rfl; have x5 := S3.2.1 5 _ rfl; have x6 := S3.2.1 6 _ rfl; have x7 := S3.2.1 7 _ rfl; have x8 := S3.2.1 8 _ rfl; have x9 := S3.2.1 9 _ rfl; have x10 := S3.2.1 10 _ rfl; have x11 := S3.2.1 11 _ rfl; have x12 := S3.2.1 12 _ rfl; have x13 := S3.2.1 13 _ rfl; clear S3)
      have K3 := hideI (bt (unhideI K2) (unhideI SN).2)
      refine (unhideI RN _ (unhideI K3)).mono ?_
      rintro e w4 ⟨vo4, vm4, rfl, i4, o4, k4, -, -, -⟩
      have R4 := hideI ((k4.block w2.heap.size (unhideI SN).1.1).trans (unhideI SH))
      have B4 := hideI ((unhideI SN).1.step k4)
      have S4 := hideI (((unhideI SX).step (unhideI SN).2).step k4)
      have L4 := hideI (Lies.step (Lies.step (unhideI L2) (unhideI SN).2) k4)
      have IA4 := hideI (Ints.step (Ints.step (unhideI I2) (unhideI SN).2) k4)
      have OA4 := hideI (Lies.step (Lies.step (unhideI O2) (unhideI SN).2) k4)
      have K4 := hideI (bt (unhideI K3) k4)
      have IB4 := hideI i4
      have OB4 := hideI o4
      obtain ⟨m5, c5, rfl, _, _⟩ := i4.at
      obtain ⟨n5, d5, rfl, _, _⟩ := o4.at
      clear i4 o4 k4 x0 x1 x2 x3 x4 x5 x6 x7 x8 x9 x10 x11 x12 x13 K2 K3 SN SH SX L2 I2 O2 S1 S2
      obtain ⟨hx6, ok, hmost, htook⟩ : xs.length ≤ 65536 ∧ TrOk xs s.pc L ∧ L.length ≤ most.toNat ∧ (L.length : Int) ≤ m.took := by first | exact unhideI CM rfl | exact unhideI CM trivial
      have OKH := hideI ok
      have hgt1 : decide (most < (L.length : Int)) = false := by simp; omega
      have hgt2 : decide (m.took < (L.length : Int)) = false := by simp; omega
      have SR := hideI (sameR_yes m (memL m.mem))
      unfold ranV at SR
      unfold ranV
      have hx6H := hideI hx6
      clear CM ok hmost htook hx6
      have hw24 : Hid (w2.heap.size < w4.heap.size) := (unhideI B4).1
      go_wp2_with (first | (refine wpList_store_row rfl 33 (.tmp 14) (.tmp 39) rfl w4.heap.size (ranC m (.slice n5 m.out.length d5) (.slice m5 (memL m.mem).length c5)) rfl rfl 33 #[.int .i64 0, .int .i64 0, .slice none 0 0, .int .i64 0, .int .i64 0, .int .i64 0, .int .i64 0, .int .i64 0, .int .i64 0, .int .i64 0, .int .i64 0, .int .i64 0, .int .i64 0, .bool false, .bool false, .bool false, .bool false, .int .i64 0, .slice none 0 0] (heap_new _ _) Try.sizeRan rfl (ranC_one _ _ _ _ _ _ _) ?_; have SN := hideI (store_new w4 #[.int .i64 0, .int .i64 0, .slice none 0 0, .int .i64 0, .int .i64 0, .int .i64 0, .int .i64 0, .int .i64 0, .int .i64 0, .int .i64 0, .int .i64 0, .int .i64 0, .int .i64 0, .bool false, .bool false, .bool false, .bool false, .int .i64 0, .slice none 0 0] (ranC m (.slice n5 m.out.length d5) (.slice m5 (memL m.mem).length c5)) 33); have SH := hideI (store_heap w4 #[.int .i64 0, .int .i64 0, .slice none 0 0, .int .i64 0, .int .i64 0, .int .i64 0, .int .i64 0, .int .i64 0, .int .i64 0, .int .i64 0, .int .i64 0, .int .i64 0, .int .i64 0, .bool false, .bool false, .bool false, .bool false, .int .i64 0, .slice none 0 0] (ranC m (.slice n5 m.out.length d5) (.slice m5 (memL m.mem).length c5)) 33); generalize (w4.alloc (.cells #[.int .i64 0, .int .i64 0, .slice none 0 0, .int .i64 0, .int .i64 0, .int .i64 0, .int .i64 0, .int .i64 0, .int .i64 0, .int .i64 0, .int .i64 0, .int .i64 0, .int .i64 0, .bool false, .bool false, .bool false, .bool false, .int .i64 0, .slice none 0 0] 33)).setRow w4.heap.size (ranC m (.slice n5 m.out.length d5) (.slice m5 (memL m.mem).length c5)) = w5 at *; have R5 := hideI (((unhideI SN).2.block w2.heap.size (unhideI hw24)).trans (unhideI R4)); have B5 := (unhideI B4).step (unhideI SN).2; have b4 := B5.2.1 4 _ rfl; have b40 := B5.1; clear B5) | (refine wpList_load_rowG rfl 33 (.tmp 12) rfl w2.heap.size rfl 33 (ranC m (.slice n3 m.out.length d3) (.slice m3 (memL m.mem).length c3)) (0, 0) _ (unhideI R5) Try.underlying33 rfl Try.sizeRan ?_) | (refine wpList_load_rowG rfl 33 (.tmp 14) rfl w4.heap.size rfl 33 (ranC m (.slice n5 m.out.length d5) (.slice m5 (memL m.mem).length c5)) (0, 0) _ (unhideI SH) Try.underlying33 rfl Try.sizeRan ?_))
      refine (unhideI SR _ _ _ _ w5 (Ints.step (unhideI IA4) (unhideI SN).2) (Ints.step (unhideI IB4) (unhideI SN).2) (Lies.step (unhideI OA4) (unhideI SN).2) (Lies.step (unhideI OB4) (unhideI SN).2)).mono ?_
      rintro e w6 ⟨rfl, k6⟩
      have B6 := ((unhideI B4).step (unhideI SN).2).step k6
      have b4 := B6.2.1 4 _ rfl
      have b40 := B6.1
      have L6 := hideI (Lies.step (Lies.step (unhideI L4) (unhideI SN).2) k6)
      have S6 := hideI (((unhideI S4).step (unhideI SN).2).step k6)
      have K6 := hideI (bt (bt (unhideI K4) (unhideI SN).2) k6)
      clear B6 k6 SN SH R4 R5 B4 L4 S4 K4 IA4 IB4 OA4 OB4 SR RN HT ALL
      go_wp2_with fail
      clear b4 b40 hgt1 hgt2
      generalize Value.agg (ranC m (.slice n3 m.out.length d3) (.slice m3 (memL m.mem).length c3)) = RV1 at *
      generalize Value.agg (ranC m (.slice n5 m.out.length d5) (.slice m5 (memL m.mem).length c5)) = RV2 at *
      generalize Value.agg #[.int .i64 (s.r 0), .int .i64 (s.r 1), .int .i64 (s.r 2), .int .i64 (s.r 3), .int .i64 (s.r 4), .int .i64 (s.r 5), .int .i64 (s.r 6), .int .i64 (s.r 7), .bool s.c, .bool s.z, .bool s.n, .bool s.v, .int .i64 s.pc, .slice mo s.mem.length mcap] = SV1 at *
      go_loopg [64] L.length (fun g t wr => ∃ (i : Nat), i ≤ L.length ∧ g = L.length - i ∧ t = .int .i64 i ∧ Hid (Below w6.heap.size w6 wr))
      case atStart => exact ⟨0, Nat.zero_le _, rfl, rfl, Below.refl _ _⟩
      case round =>
        obtain ⟨i, hi, rfl, rfl, J⟩ := hrel
        by_cases hlt : i < L.length
        · have hne : L ≠ [] := by intro h; rw [h] at hlt; simp at hlt
          obtain ⟨lo', lcap', e9, -, lat⟩ := shots_at (Lies.step (unhideI L6) (unhideI J))
          injection e9 with e9 _ e10
          subst e9 e10
          obtain ⟨lb, loff, rfl, hlb, lc⟩ := lat hne
          have S7 := (unhideI S6).step (unhideI J)
          have K7 := hideI (bt (unhideI K6) (unhideI J))
          obtain ⟨o1, o1'⟩ := (unhideI OKH).one i hlt
          have o4 := oneA_ok xs L[i].a o1
          have o5 := one_in o1
          have hx6 := unhideI hx6H
          have o2 : i = 0 → L[i].a = s.pc := fun h => by subst h; exact (unhideI OKH).at0 hlt
          have o3 := hideI (fun h => (unhideI OKH).next i h)
          obtain ⟨i1, hi1⟩ : ∃ i1, i1 = i + 1 := ⟨_, rfl⟩
          have hwi : IntKind.i64.wrap ((i : Int) + 1) = (i1 : Int) := by rw [wrap16 (by omega) (by omega)]; omega
          have hwi2 : wrap64 ((i : Int) + 1) = (i1 : Int) := by rw [← hwi, IntKind.wrap_i64, wrap64]
          have LN := hideI (fun h => lc (i + 1) h 0 (by decide))
          have lci := fun j hj => lc i hlt j hj
          have hLi1 := hideI hi1
          obtain ⟨za, hza⟩ : ∃ za : Int, Hid (∀ h : i + 1 < L.length, za = L[i + 1].a ∧ wr.cell? ⟨lb, loff + i1 * 17, none⟩ = some (.int .i64 za)) := by
            by_cases h : i + 1 < L.length
            · refine ⟨L[i + 1].a, fun _ => ⟨rfl, ?_⟩⟩
              have := unhideI LN h
              rw [Nat.add_zero] at this
              rw [hi1, this]; rfl
            · exact ⟨0, fun h' => absurd h' h⟩
          have O3 : Hid (i + 1 < L.length → (L[i].i.o < 19 ∨ 27 < L[i].i.o) → lw (L[i].a + (oneA xs L[i].a).2) = za) := fun h hj => by rw [(unhideI hza h).1]; exact (unhideI o3 h hj).symm
          clear lc lat LN o3 hi1
          generalize L[i] = x at *
          have RA : Hid (wr.rangeAt lb (loff + i * 17) x.cells.toList) := fun j v hv => by
            have hj : j < 17 := by have := (List.getElem?_eq_some_iff.1 hv).1; simpa [Sht.cells] using this
            rw [lci j hj]; exact hv
          have ONE := hideI (fun W k => unhideI ON x.a W k)
          rw [o1'] at ONE o4
          generalize (oneA xs x.a).2 = n at *
          have n0 : (n == 0) = false := by simp [o1]
          have hwx : IntKind.i64.wrap (x.a + n) = x.a + n := wrap16 (by omega) (by omega)
          have hwx2 : wrap64 (x.a + n) = x.a + n := by rw [wrap64, ← IntKind.wrap_i64]; exact hwx
          have hx0 : 0 ≤ x.a + n := by omega
          have k7 := hideI (below_a wr (.cells x.cells 51))
          have E7 := hideI (Box.new wr x.cells 51)
          have K8 := hideI (bt (unhideI K7) (unhideI k7))
          have S8 := S7.step (unhideI k7)
          clear S7 lci o4 o5 o1 o1'
          have e0 : (wr.alloc (.cells x.cells 51)).cell? ⟨wr.heap.size, 0, none⟩ = some (.int .i64 x.a) := (unhideI E7).2.1 0 _ rfl
          have e00 := (unhideI E7).1
          go_wp2_with (first | (refine wpList_load_mid rfl 51 (.tmp 67) rfl lb (loff + i * 17) rfl x.cells.toList _ (unhideI RA) Try.underlying51 rfl (by show _ = some 17; exact Try.sizeShot) ?_) | (refine wpList_store_row rfl 51 (.tmp 16) (.tmp 68) rfl wr.heap.size x.cells rfl rfl _ _ (heapNew16 _ _) (by show _ = some 17; exact Try.sizeShot) rfl (sht_one x) ?_; rw [row_alloc16]))
          refine (unhideI ONE _ (unhideI K8)).mono ?_
          rintro e w8 ⟨rfl, k8⟩
          unfold agg
          have k9 := bt k8 (below_a w8 (.cells #[.int .i64 x.i.o, .int .i64 x.i.d, .int .i64 x.i.s, .int .i64 x.i.m] 49))
          have E9 := (unhideI E7).step k9
          have F9 := Box.new w8 #[.int .i64 x.i.o, .int .i64 x.i.d, .int .i64 x.i.s, .int .i64 x.i.m] 49
          have S9 := S8.step k9
          have J9 := hideI (bt (unhideI J) (bt (unhideI k7) k9))
          have HZ : Hid ((i1 : Int) < (L.length : Int) → (w8.alloc (.cells #[.int .i64 x.i.o, .int .i64 x.i.d, .int .i64 x.i.s, .int .i64 x.i.m] 49)).cell? ⟨lb, loff + i1 * 17, none⟩ = some (.int .i64 za) ∧ lb < (w8.alloc (.cells #[.int .i64 x.i.o, .int .i64 x.i.d, .int .i64 x.i.s, .int .i64 x.i.m] 49)).heap.size ∧ ((x.i.o < 19 ∨ 27 < x.i.o) → (x.a + n) % 65536 = za)) := fun h => by
            have hl1 : i + 1 < L.length := lt_of16 (unhideI hLi1) h
            exact ⟨cell_keep (bt (unhideI k7) k9) hlb (unhideI hza hl1).2, Nat.lt_of_lt_of_le hlb (bt (unhideI k7) k9).size, fun hj => unhideI O3 hl1 hj⟩
          clear e0 e00 hza O3
          generalize hW9 : w8.alloc (.cells #[.int .i64 x.i.o, .int .i64 x.i.d, .int .i64 x.i.s, .int .i64 x.i.m] 49) = w9 at *
          have e0 := E9.2.1 0 _ rfl
          have e1 := E9.2.1 1 _ rfl
          have e2 := E9.2.1 2 _ rfl
          have e3 := E9.2.1 3 _ rfl
          have e4 := E9.2.1 4 _ rfl
          have e5 := E9.1
          have f0 := F9.2.1 0 _ rfl
          have f1 := F9.2.1 1 _ rfl
          have f2 := F9.2.1 2 _ rfl
          have f3 := F9.2.1 3 _ rfl
          have f4 := F9.1
          have s12 := S9.2.1 12 _ rfl
          have s13 := S9.1
          have EQ := eqIns x.i.o x.i.d x.i.s x.i.m
          clear E9 F9 S9 k9 k8 ONE K8 S8 RA E7 k7
          by_cases hi0 : i = 0
          · have bi : ((i : Int) == 0) = true := by simp [hi0]
            have at0 : (x.a != s.pc) = false := by simp [o2 hi0]
            clear o2 hi0
            go_wp2_with fail
            refine looks_r15 e0 e1 e5 hwi hwi2 hwx hwx2 hx0 HZ ?_
            unfold Hid
            intro v95 v96 v97 v98 v99 v100 v101 v102 v103 v104 v105 v106 v107 v108 v109 v110 v111 v112 v113 v114 v115 v116 v117 v118 v119 v120 v121 v122 v123 v124
            go_wp2_with fail
            go_roundg (L.length - (i + 1))
            case measure => omega
            case rel => exact ⟨i + 1, hlt, rfl, by rw [unhideI hLi1], (unhideI J9).drew⟩
          · have bi : ((i : Int) == 0) = false := by simp [hi0]
            clear o2 hi0
            go_wp2_with fail
            refine looks_r15 e0 e1 e5 hwi hwi2 hwx hwx2 hx0 HZ ?_
            unfold Hid
            intro v95 v96 v97 v98 v99 v100 v101 v102 v103 v104 v105 v106 v107 v108 v109 v110 v111 v112 v113 v114 v115 v116 v117 v118 v119 v120 v121 v122 v123 v124
            go_wp2_with fail
            go_roundg (L.length - (i + 1))
            case measure => omega
            case rel => exact ⟨i + 1, hlt, rfl, by rw [unhideI hLi1], (unhideI J9).drew⟩
        · go_wp2_with fail
          go_ret
          exact ⟨rfl, bt (unhideI K6) (unhideI J)⟩
    · have hb1 : (er != 0) = true := by simp [he]
      unfold ranV
      go_wp2_with (refine wpList_store_row rfl 33 (.tmp 12) (.tmp 29) rfl w2.heap.size (ranC m (.slice n3 m.out.length d3) (.slice m3 (memL m.mem).length c3)) rfl rfl 33 #[.int .i64 0, .int .i64 0, .slice none 0 0, .int .i64 0, .int .i64 0, .int .i64 0, .int .i64 0, .int .i64 0, .int .i64 0, .int .i64 0, .int .i64 0, .int .i64 0, .int .i64 0, .bool false, .bool false, .bool false, .bool false, .int .i64 0, .slice none 0 0] (heap_new _ _) Try.sizeRan rfl (ranC_one _ _ _ _ _ _ _) ?_; have SN := hideI (store_new w2 #[.int .i64 0, .int .i64 0, .slice none 0 0, .int .i64 0, .int .i64 0, .int .i64 0, .int .i64 0, .int .i64 0, .int .i64 0, .int .i64 0, .int .i64 0, .int .i64 0, .int .i64 0, .bool false, .bool false, .bool false, .bool false, .int .i64 0, .slice none 0 0] (ranC m (.slice n3 m.out.length d3) (.slice m3 (memL m.mem).length c3)) 33); have SH := hideI (store_heap w2 #[.int .i64 0, .int .i64 0, .slice none 0 0, .int .i64 0, .int .i64 0, .int .i64 0, .int .i64 0, .int .i64 0, .int .i64 0, .int .i64 0, .int .i64 0, .int .i64 0, .int .i64 0, .bool false, .bool false, .bool false, .bool false, .int .i64 0, .slice none 0 0] (ranC m (.slice n3 m.out.length d3) (.slice m3 (memL m.mem).length c3)) 33); generalize (w2.alloc (.cells #[.int .i64 0, .int .i64 0, .slice none 0 0, .int .i64 0, .int .i64 0, .int .i64 0, .int .i64 0, .int .i64 0, .int .i64 0, .int .i64 0, .int .i64 0, .int .i64 0, .int .i64 0, .bool false, .bool false, .bool false, .bool false, .int .i64 0, .slice none 0 0] 33)).setRow w2.heap.size (ranC m (.slice n3 m.out.length d3) (.slice m3 (memL m.mem).length c3)) = w3 at *)
      go_ret
      exact ⟨rfl, bt (unhideI K2) (unhideI SN).2⟩
end Go.Proofs.Ytjlbenbfmookoaa
