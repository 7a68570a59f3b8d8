/-
  emu.Run.
-/
import Derived.Test.YtbdadpdblkhdjaaEmuS
import Derived.Test.YtbdadpdblkhdjaaEmuA
import Derived.Test.YtbdadpdblkhdjaaEmuZ
namespace Go.Proofs.Ytbdadpdblkhdjaa
open Go.RowKit
set_option linter.unusedSimpArgs false
set_option linter.unusedVariables false

theorem act_took (m : Ma) (i : Ins) (bs : List Int) : (m.act i bs).took = m.took := by
  simp only [Ma.act, Ma.jump, Ma.tell, Ma.take, apply_ite Ma.took, Ma.setR, Ma.st, Ma.sum, Ma.cmp, Ma.dif, Ma.become, Ma.push, Ma.pop, ite_self]
theorem step_took (m : Ma) (xs bs : List Int) : (m.step xs bs).took = m.took + 1 := by
  unfold Ma.step
  split
  · rfl
  · dsimp only
    split
    · rw [act_took]
    · dsimp only; rw [act_took]
theorem run_end (xs bs : List Int) (k : Nat) (m : Ma) (h : ¬ m.how = 0) : Ma.run xs bs k m = m := by
  cases k <;> (unfold Ma.run; rw [if_neg h])
def zeroMa : Ma := { r := fun _ => 0, c := false, z := false, n := false, v := false, pc := 0, mem := fun _ => 0, how := 0, trap := 0, out := [], rd := 0, took := 0 }
theorem lastN_zero : ∀ n, lastN (fun _ => 0) n = 0
  | 0 => rfl
  | n + 1 => by unfold lastN; rw [if_pos rfl]; exact lastN_zero n
theorem memL_zero : memL zeroMa.mem = [] := by
  unfold memL
  have : lastN zeroMa.mem 65536 = 0 := lastN_zero _
  rw [this]; rfl
/-- What Run answers. -/
def runA (xs : List Int) (s : St) (bs : List Int) (F : Int) : Ma × Int :=
  if 65536 < xs.length then (zeroMa, 4) else if 65536 < bs.length then (zeroMa, 4) else if s.wrong = 0 then (if F < 0 then (zeroMa, 3) else if 1000000 < F then (zeroMa, 3) else (Ma.run xs bs F.toNat (startM s), 0)) else (zeroMa, s.wrong)

theorem results_row_tmp {P : Program} {fn : Func} {p u : Tmp} {ty : TypeId} (h : fn.results = #[.cell p ty, .tmp u]) (tmps : Array Value) (w : World) (g : Nat) (t : TypeId) (cs : Array Value) (fr : Nat × Nat) (d : TypeDesc) (x : Value)
    (hp : tmps.getD p undef = .pointer (some ⟨g, 0, none⟩)) (hx : tmps.getD u undef = x) (hg : w.heap[g]? = some (.cells cs t fr))
    (hu : P.underlying ty = some d) (hd : (match d with | .struct _ | .array _ _ => true | _ => false) = true) (hi : (P.info? ty).map (·.size) = some cs.size) :
    (results fn tmps).run P w = .ok (.tuple #[.agg cs, x]) w := by
  rw [results_cell_tmp h, hp, hx]
  simp [asAddr, run_loadVar_row w g t ty cs fr d hg hu hd hi]

def ran0 : Array Value := #[.int .i64 0, .int .i64 0, .slice none 0 0, .int .i64 0, .int .i64 0, .int .i64 0, .int .i64 0, .int .i64 0, .int .i64 0, .int .i64 0, .int .i64 0, .int .i64 0, .int .i64 0, .bool false, .bool false, .bool false, .bool false, .int .i64 0, .slice none 0 0]
theorem ran0_one : ran0.all (·.oneCell') = true := by simp [ran0, Value.oneCell']
theorem ran0_zero : ranC zeroMa (.slice none 0 0) (.slice none 0 0) = ran0 := rfl
/-- An answer that is none. -/
theorem ran_none {w w' : World} {bs : List Int} (h : Below w.heap.size w w') (er : Int) (he : ¬ er = 0) : ∃ vo vm, Ending.returned (.tuple #[.agg ran0, .int .i64 er]) = .returned (.tuple #[ranV (zeroMa, er).1 vo vm, .int .i64 (zeroMa, er).2]) ∧ Ints w' vm (memL (zeroMa, er).1.mem) ∧ Byts w' vo (zeroMa, er).1.out ∧ Below w.heap.size w w' ∧ ((zeroMa, er).2 = 0 → (zeroMa, er).1.Fine bs) ∧ (∀ k, vo.ownBlock = some k → w.heap.size ≤ k) ∧ (∀ k, vm.ownBlock = some k → w.heap.size ≤ k) :=
  ⟨.slice none 0 0, .slice none 0 0, rfl, by rw [memL_zero]; exact Lies.nil _ _, Lies.nil _ _, h, fun h0 => absurd h0 he, (fun _ h => by cases h), fun _ h => by cases h⟩

set_option maxRecDepth 100000 in
set_option maxHeartbeats 2000000 in
theorem run_any (xs : List Int) (s : St) (bs : List Int) (F : Int) (vc vm vi : Value) (w : World) (hc : Ints w vc xs) (hm : Ints w vm s.mem) (hi : Byts w vi bs) (hb : ∀ x ∈ bs, 0 ≤ x ∧ x ≤ 255) :
    Calls Try.prog 5 #[vc, s.val vm, vi, .int .i64 F] w fun e w' => ∃ vo vm', e = .returned (.tuple #[ranV (runA xs s bs F).1 vo vm', .int .i64 (runA xs s bs F).2]) ∧ Ints w' vm' (memL (runA xs s bs F).1.mem) ∧ Byts w' vo (runA xs s bs F).1.out ∧ Below w.heap.size w w' ∧ ((runA xs s bs F).2 = 0 → (runA xs s bs F).1.Fine bs) ∧ (∀ k, vo.ownBlock = some k → w.heap.size ≤ k) ∧ (∀ k, vm'.ownBlock = some k → w.heap.size ≤ k) := by
  have HC := hideI hc
  have HI := hideI hi
  have HM := hideI hm
  have HB := hideI hb
  obtain ⟨co, ccap, rfl, hmx, _⟩ := hc.at
  obtain ⟨mo, mcap, rfl, hmm, _⟩ := hm.at
  obtain ⟨io, icap, rfl, hmi, _⟩ := hi.at
  clear hc hm hi hb
  unfold maxLen at hmx hmm hmi
  have K2 := hideI (bt (below_a w (.cells (s.cells (.slice mo s.mem.length mcap)) 27)) (below_a _ (.cells ran0 30)))
  have G2 : Hid (((w.alloc (.cells (s.cells (.slice mo s.mem.length mcap)) 27)).alloc (.cells ran0 30)).heap[w.heap.size + 1]? = some (.cells ran0 30 (0, 0))) := by
    have h := heap_new (w.alloc (.cells (s.cells (.slice mo s.mem.length mcap)) 27)) (.cells ran0 30)
    rw [World.size_alloc] at h
    exact h
  unfold St.cells ran0 at K2 G2
  by_cases h1 : 65536 < xs.length
  · have hR : Hid (runA xs s bs F = (zeroMa, 4)) := by unfold Hid runA; rw [if_pos h1]
    rw [unhideI hR]
    have b1 : decide ((65536 : Int) < xs.length) = true := by simp; omega
    unfold St.val St.cells
    go_enter Try.func5, Try.ntmps5
    go_wp2_with (refine wpList_store_row rfl 30 (.tmp 8) (.tmp 20) rfl (w.heap.size + 1) #[.int .i64 0, .int .i64 0, .slice none 0 0, .int .i64 0, .int .i64 0, .int .i64 0, .int .i64 0, .int .i64 0, .int .i64 0, .int .i64 0, .int .i64 0, .int .i64 0, .int .i64 0, .bool false, .bool false, .bool false, .bool false, .int .i64 0, .slice none 0 0] rfl rfl 30 #[.int .i64 0, .int .i64 0, .slice none 0 0, .int .i64 0, .int .i64 0, .int .i64 0, .int .i64 0, .int .i64 0, .int .i64 0, .int .i64 0, .int .i64 0, .int .i64 0, .int .i64 0, .bool false, .bool false, .bool false, .bool false, .int .i64 0, .slice none 0 0] (unhideI G2) Try.sizeRan rfl ran0_one ?_; have HG := hideI (setRow_heap _ (w.heap.size + 1) _ #[.int .i64 0, .int .i64 0, .slice none 0 0, .int .i64 0, .int .i64 0, .int .i64 0, .int .i64 0, .int .i64 0, .int .i64 0, .int .i64 0, .int .i64 0, .int .i64 0, .int .i64 0, .bool false, .bool false, .bool false, .bool false, .int .i64 0, .slice none 0 0] _ _ (unhideI G2)); have HK := hideI (Below.row (unhideI K2) (by omega : w.heap.size ≤ w.heap.size + 1) #[.int .i64 0, .int .i64 0, .slice none 0 0, .int .i64 0, .int .i64 0, .int .i64 0, .int .i64 0, .int .i64 0, .int .i64 0, .int .i64 0, .int .i64 0, .int .i64 0, .int .i64 0, .bool false, .bool false, .bool false, .bool false, .int .i64 0, .slice none 0 0]))
    exact bodyPost_ret (results_row_tmp Try.results5 _ _ (w.heap.size + 1) 30 ran0 (0, 0) _ _ rfl rfl (unhideI HG) Try.underlying30 rfl Try.sizeRan) rfl (ran_none (unhideI HK) 4 (by decide))
  have b1 : decide ((65536 : Int) < xs.length) = false := by simp; omega
  by_cases h2 : 65536 < bs.length
  · have hR : Hid (runA xs s bs F = (zeroMa, 4)) := by unfold Hid runA; rw [if_neg h1, if_pos h2]
    rw [unhideI hR]
    have b2 : decide ((65536 : Int) < bs.length) = true := by simp; omega
    unfold St.val St.cells
    go_enter Try.func5, Try.ntmps5
    go_wp2_with (refine wpList_store_row rfl 30 (.tmp 8) (.tmp 20) rfl (w.heap.size + 1) #[.int .i64 0, .int .i64 0, .slice none 0 0, .int .i64 0, .int .i64 0, .int .i64 0, .int .i64 0, .int .i64 0, .int .i64 0, .int .i64 0, .int .i64 0, .int .i64 0, .int .i64 0, .bool false, .bool false, .bool false, .bool false, .int .i64 0, .slice none 0 0] rfl rfl 30 #[.int .i64 0, .int .i64 0, .slice none 0 0, .int .i64 0, .int .i64 0, .int .i64 0, .int .i64 0, .int .i64 0, .int .i64 0, .int .i64 0, .int .i64 0, .int .i64 0, .int .i64 0, .bool false, .bool false, .bool false, .bool false, .int .i64 0, .slice none 0 0] (unhideI G2) Try.sizeRan rfl ran0_one ?_; have HG := hideI (setRow_heap _ (w.heap.size + 1) _ #[.int .i64 0, .int .i64 0, .slice none 0 0, .int .i64 0, .int .i64 0, .int .i64 0, .int .i64 0, .int .i64 0, .int .i64 0, .int .i64 0, .int .i64 0, .int .i64 0, .int .i64 0, .bool false, .bool false, .bool false, .bool false, .int .i64 0, .slice none 0 0] _ _ (unhideI G2)); have HK := hideI (Below.row (unhideI K2) (by omega : w.heap.size ≤ w.heap.size + 1) #[.int .i64 0, .int .i64 0, .slice none 0 0, .int .i64 0, .int .i64 0, .int .i64 0, .int .i64 0, .int .i64 0, .int .i64 0, .int .i64 0, .int .i64 0, .int .i64 0, .int .i64 0, .bool false, .bool false, .bool false, .bool false, .int .i64 0, .slice none 0 0]))
    exact bodyPost_ret (results_row_tmp Try.results5 _ _ (w.heap.size + 1) 30 ran0 (0, 0) _ _ rfl rfl (unhideI HG) Try.underlying30 rfl Try.sizeRan) rfl (ran_none (unhideI HK) 4 (by decide))
  have b2 : decide ((65536 : Int) < bs.length) = false := by simp; omega
  have WR := hideI (wrongS_any s (.slice mo s.mem.length mcap) _ ((unhideI HM).step (unhideI K2)))
  have K3 := hideI (bt (unhideI K2) (below_a _ (.cells (s.cells (.slice mo s.mem.length mcap)) 27)))
  have G3 := hideI (((below_a _ (.cells (s.cells (.slice mo s.mem.length mcap)) 27)).block (w.heap.size + 1) (Array.getElem?_eq_some_iff.1 (unhideI G2)).1).trans (unhideI G2))
  have L3 := hideI (Array.getElem?_eq_some_iff.1 (unhideI G3)).1
  have SG : Hid (s.wrong = 0 → s.mem.length ≤ 65536 ∧ s.good = true) := fun h => by
    unfold St.wrong at h
    split at h
    · omega
    · split at h
      · exact ⟨by omega, by assumption⟩
      · omega
  have ST := hideI (fun h0 => started_any s (.slice mo s.mem.length mcap) (.slice co xs.length ccap) (.slice io bs.length icap) xs bs _ ((unhideI HM).step (unhideI K3)) ((unhideI HC).step (unhideI K3)) (Lies.step (unhideI HI) (unhideI K3)) (unhideI SG h0).1 (unhideI SG h0).2 (unhideI HB))
  unfold St.val St.cells at WR ST
  unfold St.cells at K3 G3 L3
  have hR : Hid (runA xs s bs F = if s.wrong = 0 then (if F < 0 then (zeroMa, 3) else if 1000000 < F then (zeroMa, 3) else (Ma.run xs bs F.toNat (startM s), 0)) else (zeroMa, s.wrong)) := by unfold Hid runA; rw [if_neg h1, if_neg h2]
  rw [unhideI hR]
  clear hR SG
  unfold St.val St.cells
  generalize s.wrong = er at *
  by_cases h3 : er = 0
  · subst h3
    rw [if_pos rfl]
    by_cases h4 : F < 0
    · rw [if_pos h4]
      have b4 : decide (F < 0) = true := by simp [h4]
      go_enter Try.func5, Try.ntmps5
      go_wp2_with (first | (go_at_call 7; refine (unhideI WR).mono ?_; rintro e w1 ⟨rfl, hw⟩; subst w1) | (refine wpList_store_row rfl 30 (.tmp 8) (.tmp 33) rfl (w.heap.size + 1) #[.int .i64 0, .int .i64 0, .slice none 0 0, .int .i64 0, .int .i64 0, .int .i64 0, .int .i64 0, .int .i64 0, .int .i64 0, .int .i64 0, .int .i64 0, .int .i64 0, .int .i64 0, .bool false, .bool false, .bool false, .bool false, .int .i64 0, .slice none 0 0] rfl rfl 30 #[.int .i64 0, .int .i64 0, .slice none 0 0, .int .i64 0, .int .i64 0, .int .i64 0, .int .i64 0, .int .i64 0, .int .i64 0, .int .i64 0, .int .i64 0, .int .i64 0, .int .i64 0, .bool false, .bool false, .bool false, .bool false, .int .i64 0, .slice none 0 0] (unhideI G3) Try.sizeRan rfl ran0_one ?_; have HG := hideI (setRow_heap _ (w.heap.size + 1) _ #[.int .i64 0, .int .i64 0, .slice none 0 0, .int .i64 0, .int .i64 0, .int .i64 0, .int .i64 0, .int .i64 0, .int .i64 0, .int .i64 0, .int .i64 0, .int .i64 0, .int .i64 0, .bool false, .bool false, .bool false, .bool false, .int .i64 0, .slice none 0 0] _ _ (unhideI G3)); have HK := hideI (Below.row (unhideI K3) (by omega : w.heap.size ≤ w.heap.size + 1) #[.int .i64 0, .int .i64 0, .slice none 0 0, .int .i64 0, .int .i64 0, .int .i64 0, .int .i64 0, .int .i64 0, .int .i64 0, .int .i64 0, .int .i64 0, .int .i64 0, .int .i64 0, .bool false, .bool false, .bool false, .bool false, .int .i64 0, .slice none 0 0])))
      exact bodyPost_ret (results_row_tmp Try.results5 _ _ (w.heap.size + 1) 30 ran0 (0, 0) _ _ rfl rfl (unhideI HG) Try.underlying30 rfl Try.sizeRan) rfl (ran_none (unhideI HK) 3 (by decide))
    rw [if_neg h4]
    have b4 : decide (F < 0) = false := by simp; omega
    by_cases h5 : 1000000 < F
    · rw [if_pos h5]
      have b5 : decide (1000000 < F) = true := by simp [h5]
      go_enter Try.func5, Try.ntmps5
      go_wp2_with (first | (go_at_call 7; refine (unhideI WR).mono ?_; rintro e w1 ⟨rfl, hw⟩; subst w1) | (refine wpList_store_row rfl 30 (.tmp 8) (.tmp 33) rfl (w.heap.size + 1) #[.int .i64 0, .int .i64 0, .slice none 0 0, .int .i64 0, .int .i64 0, .int .i64 0, .int .i64 0, .int .i64 0, .int .i64 0, .int .i64 0, .int .i64 0, .int .i64 0, .int .i64 0, .bool false, .bool false, .bool false, .bool false, .int .i64 0, .slice none 0 0] rfl rfl 30 #[.int .i64 0, .int .i64 0, .slice none 0 0, .int .i64 0, .int .i64 0, .int .i64 0, .int .i64 0, .int .i64 0, .int .i64 0, .int .i64 0, .int .i64 0, .int .i64 0, .int .i64 0, .bool false, .bool false, .bool false, .bool false, .int .i64 0, .slice none 0 0] (unhideI G3) Try.sizeRan rfl ran0_one ?_; have HG := hideI (setRow_heap _ (w.heap.size + 1) _ #[.int .i64 0, .int .i64 0, .slice none 0 0, .int .i64 0, .int .i64 0, .int .i64 0, .int .i64 0, .int .i64 0, .int .i64 0, .int .i64 0, .int .i64 0, .int .i64 0, .int .i64 0, .bool false, .bool false, .bool false, .bool false, .int .i64 0, .slice none 0 0] _ _ (unhideI G3)); have HK := hideI (Below.row (unhideI K3) (by omega : w.heap.size ≤ w.heap.size + 1) #[.int .i64 0, .int .i64 0, .slice none 0 0, .int .i64 0, .int .i64 0, .int .i64 0, .int .i64 0, .int .i64 0, .int .i64 0, .int .i64 0, .int .i64 0, .int .i64 0, .int .i64 0, .bool false, .bool false, .bool false, .bool false, .int .i64 0, .slice none 0 0])))
      exact bodyPost_ret (results_row_tmp Try.results5 _ _ (w.heap.size + 1) 30 ran0 (0, 0) _ _ rfl rfl (unhideI HG) Try.underlying30 rfl Try.sizeRan) rfl (ran_none (unhideI HK) 3 (by decide))
    rw [if_neg h5]
    have b5 : decide (1000000 < F) = false := by simp; omega
    have ST2 := hideI (unhideI ST rfl)
    clear ST
    obtain ⟨N, hN⟩ : ∃ N : Nat, F.toNat = N := ⟨_, rfl⟩
    have hF : F = (N : Int) := by omega
    rw [hN]
    subst hF
    clear hN
    generalize hM0 : startM s = m0 at *
    have t0 : m0.took = 0 := by rw [← hM0]; rfl
    have o0 : m0.how = 0 := by rw [← hM0]; rfl
    clear hM0
    generalize hRR : Ma.run xs bs N m0 = R
    have HR : Hid (R = Ma.run xs bs N m0) := hRR.symm
    clear hRR
    go_enter Try.func5, Try.ntmps5
    go_wp2_with (go_at_call 7; refine (unhideI WR).mono ?_; rintro e w1 ⟨rfl, hw⟩; subst w1)
    refine (unhideI ST2).mono ?_
    rintro e w2 ⟨p, q, rfl, M2⟩
    obtain ⟨W3, M3, k3, g3⟩ : ∃ W3, Hid (Mach W3 w2 p q (.slice co xs.length ccap) (.slice io bs.length icap) (.slice none 0 0) m0 xs bs) ∧ Hid (Below w.heap.size w W3) ∧ Hid (W3.heap[w.heap.size + 1]? = some (.cells #[.int .i64 0, .int .i64 0, .slice none 0 0, .int .i64 0, .int .i64 0, .int .i64 0, .int .i64 0, .int .i64 0, .int .i64 0, .int .i64 0, .int .i64 0, .int .i64 0, .int .i64 0, .bool false, .bool false, .bool false, .bool false, .int .i64 0, .slice none 0 0] 30 (0, 0))) := ⟨_, M2, unhideI K3, unhideI G3⟩
    clear M2 K3 G3 L3 K2 G2 ST2 WR HC HI HM
    go_wp2_with fail
    go_loopg [] (N + 1) (fun g wr => ∃ (k : Nat) (m : Ma) (vo : Value), Hid (Mach W3 wr p q (.slice co xs.length ccap) (.slice io bs.length icap) vo m xs bs) ∧ Hid (R = Ma.run xs bs k m) ∧ 0 ≤ m.took ∧ ((m.how = 0 ∧ g = k + 1 ∧ m.took + k = N) ∨ (¬ m.how = 0 ∧ g = 0)))
    case atStart => exact ⟨N, m0, _, M3, HR, by omega, .inl ⟨o0, rfl, by omega⟩⟩
    case round =>
      obtain ⟨k, m, vo, M, he, hto, hor⟩ := hrel
      clear M3 HR
      obtain ⟨-, -, -, -, -, -, -, -, c16, -, -, -, c20⟩ := (unhideI M).at
      have fz := (unhideI M).flat
      rcases hor with ⟨ho, hg, htk⟩ | ⟨ho, hg⟩
      · have b6 : (m.how == 0) = true := by simp [ho]
        cases k with
        | zero =>
          have htk' : m.took = N := by omega
          have b7 : (m.took == (N : Int)) = true := by simp [htk']
          have P1 := hideI ((unhideI M).put (m' := { m with how := 3 }) 16 (.int .i64 3) (by decide) rfl rfl rfl { (unhideI M).fine with })
          have e1 : Hid (R = Ma.run xs bs 0 ({ m with how := 3 } : Ma)) := by
            have := unhideI he
            unfold Ma.run at this
            rw [if_pos ho] at this
            unfold Hid
            rw [this, run_end _ _ _ _ (by show ¬ (3 : Int) = 0; decide)]
          go_wp2_with fail
          go_roundg 0
          case measure => omega
          case rel => exact ⟨0, _, _, P1, e1, hto, .inr ⟨by show ¬ (3 : Int) = 0; decide, rfl⟩⟩
        | succ k =>
          have b7 : (m.took == (N : Int)) = false := by simp; omega
          have e1 : Hid (R = Ma.run xs bs k (m.step xs bs)) := by
            have := unhideI he
            unfold Ma.run at this
            rw [if_pos ho] at this
            exact this
          have ts := step_took m xs bs
          have S := hideI (step_any (unhideI M) hto (by omega))
          generalize m.step xs bs = m1 at *
          go_wp2_with (go_at_call 14; refine (unhideI S).mono ?_; rintro e w4 ⟨vo4, rfl, M4⟩; have HM4 := hideI M4; clear M4)
          go_roundg (if m1.how = 0 then k + 1 else 0)
          case measure => split <;> omega
          case rel =>
            refine ⟨k, m1, vo4, HM4, e1, by omega, ?_⟩
            by_cases hh : m1.how = 0
            · exact .inl ⟨hh, by rw [if_pos hh], by omega⟩
            · exact .inr ⟨hh, by rw [if_neg hh]⟩
      · have b6 : (m.how == 0) = false := by simp [ho]
        have e1 : Hid (R = m) := by unfold Hid; rw [unhideI he, run_end _ _ _ _ ho]
        have fin := hideI (unhideI M).fine
        have RA := hideI (ran_any (unhideI M))
        go_wp2_with fail
        refine (unhideI RA).mono ?_
        rintro e w5 ⟨vm5, rfl, i5, o5, k5, n5⟩
        have I5 := hideI i5
        have O5 := hideI o5
        have K5 := hideI k5
        have g5 := hideI ((k5.block (w.heap.size + 1) (Array.getElem?_eq_some_iff.1 (unhideI g3)).1).trans (unhideI g3))
        obtain ⟨a5, c5, rfl, _, _⟩ := i5.at
        obtain ⟨b5, d5, rfl, _, _⟩ := o5.at
        have l3 := (Array.getElem?_eq_some_iff.1 (unhideI g3)).1
        have F5 : Hid (∀ k, (Value.slice a5 (memL m.mem).length c5).ownBlock = some k → k ≠ w.heap.size + 1) := fun k hk => by have := n5 k hk; omega
        have E5 : Hid (∀ k, (Value.slice b5 m.out.length d5).ownBlock = some k → k ≠ w.heap.size + 1) := fun k hk => by have := ((unhideI M).own.lt k hk).1; omega
        have hws := (unhideI k3).size
        have F6 : Hid (∀ k, (Value.slice a5 (memL m.mem).length c5).ownBlock = some k → w.heap.size ≤ k) := fun k hk => Nat.le_trans hws (n5 k hk)
        have E6 : Hid (∀ k, (Value.slice b5 m.out.length d5).ownBlock = some k → w.heap.size ≤ k) := fun k hk => Nat.le_trans hws ((unhideI M).own.lt k hk).1
        have KK := hideI ((unhideI k3).trans ((unhideI K5).mono (unhideI k3).size))
        clear n5 i5 o5 k5
        generalize hL : memL m.mem = L at *
        have HL := hideI hL
        clear hL
        unfold ranV
        go_wp2_with (refine wpList_store_row rfl 30 (.tmp 8) (.tmp 55) rfl (w.heap.size + 1) (ranC m (.slice b5 m.out.length d5) (.slice a5 L.length c5)) rfl rfl 30 #[.int .i64 0, .int .i64 0, .slice none 0 0, .int .i64 0, .int .i64 0, .int .i64 0, .int .i64 0, .int .i64 0, .int .i64 0, .int .i64 0, .int .i64 0, .int .i64 0, .int .i64 0, .bool false, .bool false, .bool false, .bool false, .int .i64 0, .slice none 0 0] (unhideI g5) Try.sizeRan rfl (ranC_one _ _ _ _ _ _ _) ?_; have HG := hideI (setRow_heap _ (w.heap.size + 1) _ (ranC m (.slice b5 m.out.length d5) (.slice a5 L.length c5)) _ _ (unhideI g5)); have HK := hideI (Below.row (unhideI KK) (by omega : w.heap.size ≤ w.heap.size + 1) (ranC m (.slice b5 m.out.length d5) (.slice a5 L.length c5))); have I6 := hideI (Lies.blk (w' := w5.setRow (w.heap.size + 1) (ranC m (.slice b5 m.out.length d5) (.slice a5 L.length c5))) (unhideI I5) (by rw [size_setRow]; exact Nat.le_refl _) fun k hk => setRow_other _ _ _ _ (unhideI F5 k hk)); have O6 := hideI (Lies.blk (w' := w5.setRow (w.heap.size + 1) (ranC m (.slice b5 m.out.length d5) (.slice a5 L.length c5))) (unhideI O5) (by rw [size_setRow]; exact Nat.le_refl _) fun k hk => setRow_other _ _ _ _ (unhideI E5 k hk)))
        have e2 := unhideI e1
        subst e2
        exact bodyPost_ret (results_row_tmp Try.results5 _ _ (w.heap.size + 1) 30 (ranC R (.slice b5 R.out.length d5) (.slice a5 L.length c5)) (0, 0) _ _ rfl rfl (unhideI HG) Try.underlying30 rfl Try.sizeRan) rfl ⟨.slice b5 R.out.length d5, .slice a5 L.length c5, rfl, by rw [unhideI HL]; exact unhideI I6, unhideI O6, unhideI HK, fun _ => unhideI fin, unhideI E6, unhideI F6⟩
  · rw [if_neg h3]
    have b3 : (er != 0) = true := by simp [h3]
    clear ST
    go_enter Try.func5, Try.ntmps5
    go_wp2_with (first | (go_at_call 7; refine (unhideI WR).mono ?_; rintro e w1 ⟨rfl, hw⟩; subst w1) | (refine wpList_store_row rfl 30 (.tmp 8) (.tmp 25) rfl (w.heap.size + 1) #[.int .i64 0, .int .i64 0, .slice none 0 0, .int .i64 0, .int .i64 0, .int .i64 0, .int .i64 0, .int .i64 0, .int .i64 0, .int .i64 0, .int .i64 0, .int .i64 0, .int .i64 0, .bool false, .bool false, .bool false, .bool false, .int .i64 0, .slice none 0 0] rfl rfl 30 #[.int .i64 0, .int .i64 0, .slice none 0 0, .int .i64 0, .int .i64 0, .int .i64 0, .int .i64 0, .int .i64 0, .int .i64 0, .int .i64 0, .int .i64 0, .int .i64 0, .int .i64 0, .bool false, .bool false, .bool false, .bool false, .int .i64 0, .slice none 0 0] (unhideI G3) Try.sizeRan rfl ran0_one ?_; have HG := hideI (setRow_heap _ (w.heap.size + 1) _ #[.int .i64 0, .int .i64 0, .slice none 0 0, .int .i64 0, .int .i64 0, .int .i64 0, .int .i64 0, .int .i64 0, .int .i64 0, .int .i64 0, .int .i64 0, .int .i64 0, .int .i64 0, .bool false, .bool false, .bool false, .bool false, .int .i64 0, .slice none 0 0] _ _ (unhideI G3)); have HK := hideI (Below.row (unhideI K3) (by omega : w.heap.size ≤ w.heap.size + 1) #[.int .i64 0, .int .i64 0, .slice none 0 0, .int .i64 0, .int .i64 0, .int .i64 0, .int .i64 0, .int .i64 0, .int .i64 0, .int .i64 0, .int .i64 0, .int .i64 0, .int .i64 0, .bool false, .bool false, .bool false, .bool false, .int .i64 0, .slice none 0 0])))
    exact bodyPost_ret (results_row_tmp Try.results5 _ _ (w.heap.size + 1) 30 ran0 (0, 0) _ _ rfl rfl (unhideI HG) Try.underlying30 rfl Try.sizeRan) rfl (ran_none (unhideI HK) er h3)
end Go.Proofs.Ytbdadpdblkhdjaa
