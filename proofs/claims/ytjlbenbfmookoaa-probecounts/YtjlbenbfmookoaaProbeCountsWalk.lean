/-
  Each step is somewhere: what probe.Hits tells, added up, is the number of steps.
-/
import Derived.Test.YtjlbenbfmookoaaPrA
namespace Go.Proofs.Ytjlbenbfmookoaa
open Go.RowKit
set_option linter.unusedSimpArgs false
set_option linter.unusedVariables false

theorem counts_math {xs : List Int} {s : St} {bs : List Int} {F : Int} (h : (runW xs s bs F (fun _ => false) tkH (hits0 xs)).1.2 = 0) :
    (runW xs s bs F (fun _ => false) tkH (hits0 xs)).2.length = xs.length ∧ (∀ x ∈ (runW xs s bs F (fun _ => false) tkH (hits0 xs)).2, 0 ≤ x ∧ x ≤ 1000000) ∧ xs.length ≤ 65536 ∧
    ((runW xs s bs F (fun _ => false) tkH (hits0 xs)).2.sum = (runA xs s bs F).1.took ∨ ((runA xs s bs F).1.how = 4 ∧ (runW xs s bs F (fun _ => false) tkH (hits0 xs)).2.sum + 1 = (runA xs s bs F).1.took ∧ ((xs.length : Int) ≤ (runA xs s bs F).1.pc ∨ (runA xs s bs F).1.pc < 0))) := by
  have e := runW_run (xs := xs) (s := s) (bs := bs) (F := F) (st := fun _ => false) (tk := tkH) (s0 := hits0 xs) fun _ => rfl
  rw [← e]
  unfold runW at h ⊢
  by_cases h1 : 65536 < xs.length
  · rw [if_pos h1] at h; exact absurd h (by show ¬ (4 : Int) = 0; decide)
  rw [if_neg h1] at h ⊢
  by_cases h2 : 65536 < bs.length
  · rw [if_pos h2] at h; exact absurd h (by show ¬ (4 : Int) = 0; decide)
  rw [if_neg h2] at h ⊢
  by_cases h3 : s.wrong = 0
  · rw [if_pos h3] at h ⊢
    by_cases h4 : F < 0
    · rw [if_pos h4] at h; exact absurd h (by show ¬ (3 : Int) = 0; decide)
    rw [if_neg h4] at h ⊢
    by_cases h5 : 1000000 < F
    · rw [if_pos h5] at h; exact absurd h (by show ¬ (3 : Int) = 0; decide)
    rw [if_neg h5]
    have hl : (hits0 xs).length = xs.length := by unfold hits0; simp; omega
    have hz : ∀ x ∈ hits0 xs, x = 0 := fun x hx => List.eq_of_mem_replicate hx
    have hs : (hits0 xs).sum = 0 := by unfold hits0; simp
    have t0 : (startM s).took = 0 := rfl
    obtain ⟨a, b, c⟩ := goW_hits (xs := xs) (bs := bs) (st := fun _ => false) F.toNat (startM s) (hits0 xs) rfl ⟨hl, fun x hx => by rw [hz x hx, t0]; decide⟩ (by rw [t0]; decide) (by rw [t0]; omega)
    rw [hs, t0] at c
    refine ⟨a, b, by omega, ?_⟩
    dsimp only
    rcases c with c | ⟨c1, c2, c3⟩
    · left; omega
    · right; exact ⟨c1, by omega, c3⟩
  · rw [if_neg h3] at h; exact absurd h h3
theorem sum_take (l : List Int) (i : Nat) (h : i < l.length) : (l.take (i + 1)).sum = (l.take i).sum + l[i] := by
  have e : l.take (i + 1) = l.take i ++ [l[i]] := by rw [List.take_add_one, List.getElem?_eq_getElem h]; rfl
  rw [e]
  generalize l.take i = a
  generalize l[i] = b
  simp
theorem sum_bound : ∀ (l : List Int) (M : Int), (∀ x ∈ l, 0 ≤ x ∧ x ≤ M) → 0 ≤ l.sum ∧ l.sum ≤ M * l.length
  | [], M, _ => by simp
  | x :: l, M, h => by
    obtain ⟨a, b⟩ := sum_bound l M fun y hy => h y (List.mem_cons_of_mem _ hy)
    have := h x List.mem_cons_self
    simp only [List.sum_cons, List.length_cons]
    refine ⟨by omega, ?_⟩
    push_cast
    rw [Int.mul_add, Int.mul_one]
    omega
set_option maxRecDepth 100000 in
set_option maxHeartbeats 4000000 in
theorem walk_probeCounts (xs : List Int) (s : St) (bs : List Int) (F : Int) (vc vm vi : Value) (w : World) (hc : Ints w vc xs) {P0 P3 : Prop} (_ : P0) (hm : Ints w vm s.mem) (hi : Byts w vi bs) (hb : ∀ x ∈ bs, 0 ≤ x ∧ x ≤ 255) (_ : P3) :
    Calls Try.prog 6 #[vc, s.val vm, vi, .int .i64 F] w fun e w' => e = .returned (.bool true) ∧ Below w.heap.size w w' := by
  have HC := hideI hc
  have HI := hideI hi
  have HM := hideI hm
  have HB := hideI hb
  obtain ⟨co, ccap, rfl, hmx, _⟩ := hc.at
  obtain ⟨mo, mcap, rfl, hmm, _⟩ := hm.at
  have K0 := hideI (below_a w (.cells (s.cells (.slice mo s.mem.length mcap)) 27))
  have S0 : Hid (Box (w.alloc (.cells (s.cells (.slice mo s.mem.length mcap)) 27)) w.heap.size (s.cells (.slice mo s.mem.length mcap)).toList) := Box.new w _ 27
  have ALL := hideI (fun W => alive16 W)
  have HT := hideI (fun W k => hits_any xs s bs F (.slice co xs.length ccap) (.slice mo s.mem.length mcap) vi W ((unhideI HC).step k) ((unhideI HM).step k) (Lies.step (unhideI HI) k) (unhideI HB))
  have RN := hideI (fun W k => run_any xs s bs F (.slice co xs.length ccap) (.slice mo s.mem.length mcap) vi W ((unhideI HC).step k) ((unhideI HM).step k) (Lies.step (unhideI HI) k) (unhideI HB))
  have CM := hideI (counts_math (xs := xs) (s := s) (bs := bs) (F := F))
  have er9 : Hid ((runW xs s bs F (fun _ => false) tkH (hits0 xs)).1.2 = (runA xs s bs F).2) := by unfold Hid; rw [runW_run fun _ => rfl]
  clear hc hm hi hb HC HI HM HB
  generalize runW xs s bs F (fun _ => false) tkH (hits0 xs) = RW at *
  generalize runA xs s bs F = RA at *
  obtain ⟨rm, L⟩ := RW
  obtain ⟨rm, er⟩ := rm
  obtain ⟨m, er2⟩ := RA
  dsimp only at *
  have er9' := unhideI er9
  subst er9'
  clear er9
  unfold St.val St.cells at *
  generalize hW0 : w.alloc (.cells #[.int .i64 (s.r 0), .int .i64 (s.r 1), .int .i64 (s.r 2), .int .i64 (s.r 3), .int .i64 (s.r 4), .int .i64 (s.r 5), .int .i64 (s.r 6), .int .i64 (s.r 7), .bool s.c, .bool s.z, .bool s.n, .bool s.v, .int .i64 s.pc, .slice mo s.mem.length mcap] 27) = w0 at *
  go_enter Try.func6, Try.ntmps6
  go_wp2_with fail
  refine (unhideI ALL _).mono ?_
  rintro e w1 ⟨rfl, k1⟩
  have S1 := (unhideI S0).step k1
  have K1 := hideI (bt (unhideI K0) k1)
  have x0 := S1.2.1 0 _ rfl
  have x1 := S1.2.1 1 _ rfl
  have x2 := S1.2.1 2 _ rfl
  have x3 := S1.2.1 3 _ rfl
  have x4 := S1.2.1 4 _ rfl
  have x5 := S1.2.1 5 _ rfl
  have x6 := S1.2.1 6 _ rfl
  have x7 := S1.2.1 7 _ rfl
  have x8 := S1.2.1 8 _ rfl
  have x9 := S1.2.1 9 _ rfl
  have x10 := S1.2.1 10 _ rfl
  have x11 := S1.2.1 11 _ rfl
  have x12 := S1.2.1 12 _ rfl
  have x13 := S1.2.1 13 _ rfl
  clear S0 K0 hW0
  go_wp2_with fail
  refine (unhideI HT _ (unhideI K1)).mono ?_
  rintro e w2 ⟨k2, h0, hn⟩
  have K2 := hideI (bt (unhideI K1) k2)
  by_cases he : er = 0
  · subst he
    obtain ⟨hL, hpos, hx6, hor⟩ := unhideI CM rfl
    have hLx := hideI hL
    have hL6 : L.length ≤ 65536 := by omega
    clear hL hx6
    obtain ⟨v2, rfl, i2⟩ := h0 rfl
    have S2 := S1.step k2
    have I2 := hideI i2
    obtain ⟨lo, lcap, rfl, -, -⟩ := i2.at
    clear hn h0 CM i2 k2 x0 x1 x2 x3 x4 x5 x6 x7 x8 x9 x10 x11 x12 x13
    have x0 := S2.2.1 0 _ rfl
    have x1 := S2.2.1 1 _ rfl
    have x2 := S2.2.1 2 _ rfl
    have x3 := S2.2.1 3 _ rfl
    have x4 := S2.2.1 4 _ rfl
    have x5 := S2.2.1 5 _ rfl
    have x6 := S2.2.1 6 _ rfl
    have x7 := S2.2.1 7 _ rfl
    have x8 := S2.2.1 8 _ rfl
    have x9 := S2.2.1 9 _ rfl
    have x10 := S2.2.1 10 _ rfl
    have x11 := S2.2.1 11 _ rfl
    have x12 := S2.2.1 12 _ rfl
    have x13 := S2.2.1 13 _ rfl
    go_wp2_with fail
    refine (unhideI RN _ (unhideI K2)).mono ?_
    rintro e w3 ⟨vo, vm3, rfl, i3, o3, k3, f3, -, -⟩
    have fine : m.Fine bs := by first | exact f3 rfl | exact f3 trivial
    have hpc := fine.pc
    clear f3 fine
    have K3 := hideI (bt (unhideI K2) k3)
    have I3 := hideI ((unhideI I2).step k3)
    obtain ⟨m3, c3, rfl, _, _⟩ := i3.at
    obtain ⟨n3, d3, rfl, _, _⟩ := o3.at
    clear i3 o3 k3 I2 S1 S2 x0 x1 x2 x3 x4 x5 x6 x7 x8 x9 x10 x11 x12 x13 ALL HT RN
    unfold ranV
    go_wp2_with (refine wpList_store_row rfl 33 (.tmp 11) (.tmp 33) rfl w3.heap.size (ranC m (.slice n3 m.out.length d3) (.slice m3 (memL m.mem).length c3)) rfl rfl 33 #[.int .i64 0, .int .i64 0, .slice none 0 0, .int .i64 0, .int .i64 0, .int .i64 0, .int .i64 0, .int .i64 0, .int .i64 0, .int .i64 0, .int .i64 0, .int .i64 0, .int .i64 0, .bool false, .bool false, .bool false, .bool false, .int .i64 0, .slice none 0 0] (heap_new _ _) Try.sizeRan rfl (ranC_one _ _ _ _ _ _ _) ?_; have SN := hideI (store_new w3 #[.int .i64 0, .int .i64 0, .slice none 0 0, .int .i64 0, .int .i64 0, .int .i64 0, .int .i64 0, .int .i64 0, .int .i64 0, .int .i64 0, .int .i64 0, .int .i64 0, .int .i64 0, .bool false, .bool false, .bool false, .bool false, .int .i64 0, .slice none 0 0] (ranC m (.slice n3 m.out.length d3) (.slice m3 (memL m.mem).length c3)) 33); have SH := hideI (store_heap w3 #[.int .i64 0, .int .i64 0, .slice none 0 0, .int .i64 0, .int .i64 0, .int .i64 0, .int .i64 0, .int .i64 0, .int .i64 0, .int .i64 0, .int .i64 0, .int .i64 0, .int .i64 0, .bool false, .bool false, .bool false, .bool false, .int .i64 0, .slice none 0 0] (ranC m (.slice n3 m.out.length d3) (.slice m3 (memL m.mem).length c3)) 33); generalize (w3.alloc (.cells #[.int .i64 0, .int .i64 0, .slice none 0 0, .int .i64 0, .int .i64 0, .int .i64 0, .int .i64 0, .int .i64 0, .int .i64 0, .int .i64 0, .int .i64 0, .int .i64 0, .int .i64 0, .bool false, .bool false, .bool false, .bool false, .int .i64 0, .slice none 0 0] 33)).setRow w3.heap.size (ranC m (.slice n3 m.out.length d3) (.slice m3 (memL m.mem).length c3)) = w4 at *)
    have R4 := (unhideI SN).1
    have I4 := hideI ((unhideI I3).step (unhideI SN).2)
    have K4 := hideI (bt (unhideI K3) (unhideI SN).2)
    clear I3 K3 SH
    have hw4 : w3.heap.size < w4.heap.size := R4.1
    clear R4
    go_loopg [12, 37] L.length (fun g va t wr => ∃ (i : Nat), i ≤ L.length ∧ g = L.length - i ∧ t = .int .i64 i ∧ va = .int .i64 (L.take i).sum ∧ Hid (Below w4.heap.size w4 wr))
    case atStart => exact ⟨0, Nat.zero_le _, rfl, rfl, rfl, Below.refl _ _⟩
    case round =>
      obtain ⟨i, hi, rfl, rfl, rfl, J⟩ := hrel
      have hlw := (unhideI J).size
      have hpos9 := hideI hpos
      clear hpos
      by_cases hlt : i < L.length
      · have hne : L ≠ [] := by intro h; rw [h] at hlt; simp at hlt
        obtain ⟨lo', lcap', e9, -, lat⟩ := ((unhideI I4).step (unhideI J)).at
        injection e9 with e9 _ e10
        subst e9 e10
        obtain ⟨lb, loff, rfl, hlb, lc⟩ := lat hne
        have y1 := lc i hlt
        have yp := unhideI hpos9 L[i] (List.getElem_mem hlt)
        have SB := sum_bound (L.take i) 1000000 fun x hx => unhideI hpos9 x (List.mem_of_mem_take hx)
        have hlen : (L.take i).length ≤ 65536 := by rw [List.length_take]; omega
        have SN2 := hideI (sum_take L i hlt)
        clear lc lat
        generalize L[i] = y at *
        have d1 : decide (y < 0) = false := by simp; omega
        have hsum : IntKind.i64.wrap ((L.take i).sum + y) = (L.take (i + 1)).sum := by rw [wrap16 (by omega) (by omega)]; exact (unhideI SN2).symm
        have hsum2 : wrap64 ((L.take i).sum + y) = (L.take (i + 1)).sum := by rw [← hsum, IntKind.wrap_i64]; first | rfl | (unfold wrap64; rfl)
        clear SB
        go_wp2_with fail
        go_roundg (L.length - (i + 1))
        case measure => omega
        case rel => exact ⟨i + 1, by omega, rfl, by go_num, rfl, J⟩
      · have e : i = L.length := by omega
        subst e
        rw [List.take_length]
        have SB := sum_bound L 1000000 fun x hx => unhideI hpos9 x hx
        generalize L.sum = S at *
        have RR := (unhideI SN).1.step (unhideI J)
        have r0 := RR.2.1 0 _ rfl
        have r4 := RR.2.1 4 _ rfl
        have r17 := RR.2.1 17 _ rfl
        have hwr9 := RR.1
        have KE := hideI (bt (unhideI K4) (unhideI J))
        clear RR SN I4 K4 J hpos9
        have bl : ((L.length : Int) == (xs.length : Int)) = true := by simp [unhideI hLx]
        have hor9 := hideI hor
        have hpc9 := hideI hpc
        clear hor hpc
        rcases unhideI hor9 with h1 | ⟨h4, h2, h3⟩
        · have b1 : (S == m.took) = true := by simp [h1]
          clear h1 SB hor9
          go_wp2_with fail
          go_ret
          exact ⟨rfl, unhideI KE⟩
        · have b1 : (S == m.took) = false := by simp; omega
          have b2 : decide ((xs.length : Int) ≤ m.pc) = true := by have := unhideI hpc9; unfold wd at this; simp; omega
          have w1 : IntKind.i64.wrap (m.took - 1) = S := by rw [wrap16 (by omega) (by omega)]; omega
          have w2 : wrap64 (m.took - 1) = S := by rw [← w1, IntKind.wrap_i64]; first | rfl | (unfold wrap64; rfl)
          rw [h4] at r0
          clear h2 h3 h4 SB hor9
          go_wp2_with fail
          go_ret
          exact ⟨rfl, unhideI KE⟩
  · have hb1 : (er != 0) = true := by simp [he]
    have := hn he
    subst this
    go_wp2_with fail
    go_ret
    exact ⟨rfl, unhideI K2⟩
end Go.Proofs.Ytjlbenbfmookoaa
