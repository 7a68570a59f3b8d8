/-
  EmuA, EmuR.
-/
import Derived.Test.YtlkoidkdeopgjaaGreatDoorel
import Derived.Test.YtlkoidkdeopgjaaGreatDooref
import Derived.Test.YtlkoidkdeopgjaaGreatDoorkc
import Derived.Laws.CopyOwn
import Derived.Deep.OwnRows
import Derived.Test.YtlkoidkdeopgjaaGreatDoorek
set_option maxHeartbeats 4000000
set_option maxRecDepth 100000
namespace Go.Proofs.YtlkoidkdeopgjaaGreatDoor
open Go.RowKit
set_option linter.unusedSimpArgs false
set_option linter.unusedVariables false
def startM (s : St) : Ma := { r := s.r, c := s.c, z := s.z, n := s.n, v := s.v, pc := s.pc, mem := fun j => s.mem.getD j 0, how := 0, trap := 0, out := [], rd := 0, took := 0 }
theorem good_fine (s : St) (bs : List Int) (hg : s.good = true) (hb : ∀ x ∈ bs, 0 ≤ x ∧ x ≤ 255) : (startM s).Fine bs := by
 unfold St.good at hg
 simp only [Bool.and_eq_true, List.all_eq_true] at hg
 obtain ⟨⟨h1, h2⟩, h3⟩ := hg
 refine ⟨fun j hj => ?_, fun j _ => ?_, isw_yes h2, by simp [startM], by simp [startM], by simp [startM], hb⟩
 · have hj' : j = 0 ∨ j = 1 ∨ j = 2 ∨ j = 3 ∨ j = 4 ∨ j = 5 ∨ j = 6 ∨ j = 7 := by omega
   have hm : s.r j ∈ s.regs := by rcases hj' with rfl | rfl | rfl | rfl | rfl | rfl | rfl | rfl <;> simp [St.regs]
   exact isw_yes (h1 _ hm)
 · show wd (s.mem.getD j 0)
   rw [List.getD_eq_getElem?_getD]
   by_cases hl : j < s.mem.length
   · rw [List.getElem?_eq_getElem hl]; exact isw_yes (h3 _ (List.getElem_mem hl))
   · rw [List.getElem?_eq_none (by omega)]; unfold wd; simp
theorem made_len (n : Nat) : (madeCells #[Value.int .i64 0] n).toList.length = n := by rw [toList_madeCells_one]; simp
theorem spliced (n j : Nat) (l : List Int) (hl : l.length ≤ n) (hj : j < n) : (splice (madeCells #[Value.int .i64 0] n).toList 0 (l.map int1))[j]? = some (.int .i64 (l.getD j 0)) := by
 rw [toList_madeCells_one]
 unfold splice
 rw [List.take_zero, List.nil_append, List.getElem?_append, List.length_map, List.getD_eq_getElem?_getD]
 by_cases h : j < l.length
 · rw [if_pos h, List.getElem?_map, List.getElem?_eq_getElem h]; rfl
 · rw [if_neg h, List.getElem?_drop, List.getElem?_replicate, if_pos (by omega), List.getElem?_eq_none (by omega)]; rfl
theorem Tryz.sizeInt : (Tryz.prog.info? 3).map (·.size) = some 1 := by kernel_rfl
theorem start_world (w : World) (A M MC : Array Value) (T1 T2 T3 : TypeId) :
   ((((w.alloc (.cells A T1)).alloc (.cells M T2)).alloc (.cells MC T3)).drew).heap[w.heap.size + 1 + 1]? = some (.cells MC.toList.toArray T3 (0, 0)) ∧
   Box ((((w.alloc (.cells A T1)).alloc (.cells M T2)).alloc (.cells MC T3)).drew) (w.heap.size + 1) M.toList ∧ Below w.heap.size w ((((w.alloc (.cells A T1)).alloc (.cells M T2)).alloc (.cells MC T3)).drew) ∧ ((((w.alloc (.cells A T1)).alloc (.cells M T2)).alloc (.cells MC T3)).drew).heap.size = w.heap.size + 1 + 1 + 1 := by
 refine ⟨?_, ?_, (below_3 _ _ _ _).drew, by simp [World.drew]⟩
 · show (((w.alloc (.cells A T1)).alloc (.cells M T2)).alloc (.cells MC T3)).heap[w.heap.size + 1 + 1]? = _
   have h := heap_new ((w.alloc (.cells A T1)).alloc (.cells M T2)) (.cells MC T3)
   simpa only [World.size_alloc] using h
 · have := ((Box.new (w.alloc (.cells A T1)) M T2).step (below_a _ (.cells MC T3))).drew
   simpa only [World.size_alloc] using this
theorem start_mach {w W w' : World} {s : St} {vc vi : Value} {xs bs : List Int} {MC : Array Value} (hMC : MC = madeCells #[Value.int .i64 0] 65536) (hl : s.mem.length ≤ 65536) (hF : (startM s).Fine bs) (hc : Ints w vc xs) (hi : Byts w vi bs)
   (hx : Box W (w.heap.size + 1) (cellsM (startM s) (.slice (some ⟨w.heap.size + 1 + 1, 0, none⟩) 65536 65536) vc vi (.slice none 0 0))) (hb : Below w.heap.size w W) (hs : W.heap.size = w.heap.size + 1 + 1 + 1)
   (hg : w'.heap[w.heap.size + 1 + 1]? = some (.cells (splice MC.toList 0 (s.mem.map int1)).toArray 3 (0, 0))) (hk : Below (w.heap.size + 1 + 1) W w') : Mach w w' (w.heap.size + 1) (w.heap.size + 1 + 1) vc vi (.slice none 0 0) (startM s) xs bs := by
 have e1 : w'.heap[w.heap.size + 1]? = W.heap[w.heap.size + 1]? := hk.block _ (by omega)
 have hsz := hk.size
 exact {
   box := ⟨by omega, fun j u hu => by rw [World.cell?_of_block (w := W) (a := ⟨w.heap.size + 1, j, none⟩) e1]; exact hx.2.1 j u hu, fun j => by rw [World.frozen?_of_block (w := W) (a := ⟨w.heap.size + 1, j, none⟩) e1]; exact hx.2.2 j⟩
   hp := by omega
   hq := by omega
   hpq := by omega
   hqw := by omega
   mem := fun j hj => by
     have e2 : (splice (madeCells #[Value.int .i64 0] 65536).toList 0 (s.mem.map int1))[j]? = some (Value.int .i64 ((startM s).mem j)) := spliced 65536 j s.mem hl hj
     rw [hMC] at hg
     unfold World.cell?
     simp only [hg]
     simpa using e2
   frz := fun j => by
     unfold World.frozen?
     simp [hg]
   code := hc
   inp := hi
   low := hb.trans (hk.mono (by omega))
   own := World.ownsRow_nil _ _ _ _
   ho := fun k hk => by cases hk
   fine := hF }
theorem started_any (s : St) (vm vc vi : Value) (xs bs : List Int) (w : World) (hm : Ints w vm s.mem) (hc : Ints w vc xs) (hi : Byts w vi bs) (hl : s.mem.length ≤ 65536) (hg : s.good = true) (hb : ∀ x ∈ bs, 0 ≤ x ∧ x ≤ 255) :
   Calls Tryz.prog 66 #[vc, s.val vm, vi] w fun e w' => ∃ p q, e = .returned (.pointer (some ⟨p, 0, none⟩)) ∧ Mach w w' p q vc vi (.slice none 0 0) (startM s) xs bs := by
 have GF := zH (good_fine s bs hg hb)
 have HC := zH hc
 have HI := zH hi
 have HM := zH hm
 have HL := zH hl
 obtain ⟨MC, hMC⟩ : ∃ MC, MC = madeCells #[Value.int .i64 0] 65536 := ⟨_, rfl⟩
 have hmk : ∀ w, (Instr.makeSlice 43 (.int .i64 65536) (.int .i64 65536)).run Tryz.prog w = .ok (.slice (some ⟨w.heap.size, 0, none⟩) 65536 65536) (w.alloc (.cells MC 3)) := by
   rw [hMC]
   exact run_make_row' 43 3 (.int .i64 0) 8 Tryz.underlying43 Tryz.infoInt rfl .i64 .i64 65536 (by decide) (by decide)
 have HMC := zH hMC
 obtain ⟨ao, cap, rfl, hmax, _⟩ := hm.at
 obtain ⟨co, ccap, rfl, _, _⟩ := hc.at
 obtain ⟨io, icap, rfl, _, _⟩ := hi.at
 clear hMC hg hb hc hi hm hl
 unfold St.val St.cells
 go_enter Tryz.func66, Tryz.ntmps66
 go_wp2_with fail
 refine wp_region_head 7 (by kernel_rfl) (by kernel_rfl) ?_
 simp only [List.take_succ_cons, List.take_zero, List.drop_succ_cons, List.drop_zero]
 repeat still_step
 refine wpStill_nil ?_
 obtain ⟨g1, g2, g3, g4⟩ := start_world w #[.int .i64 (s.r 0), .int .i64 (s.r 1), .int .i64 (s.r 2), .int .i64 (s.r 3), .int .i64 (s.r 4), .int .i64 (s.r 5), .int .i64 (s.r 6), .int .i64 (s.r 7), .bool s.c, .bool s.z, .bool s.n, .bool s.v, .int .i64 s.pc, .slice ao s.mem.length cap]
   #[.int .i64 (s.r 0), .int .i64 (s.r 1), .int .i64 (s.r 2), .int .i64 (s.r 3), .int .i64 (s.r 4), .int .i64 (s.r 5), .int .i64 (s.r 6), .int .i64 (s.r 7), .bool s.c, .bool s.z, .bool s.n, .bool s.v, .int .i64 s.pc, .slice (some ⟨w.heap.size + 1 + 1, 0, none⟩) 65536 65536, .slice co xs.length ccap, .slice io bs.length icap, .int .i64 0, .int .i64 0, .slice none 0 0, .int .i64 0, .int .i64 0] MC 51 117 3
 have hlen : MC.toList.length = 65536 := by rw [uI HMC]; exact made_len _
 have hl := uI HL
 refine wpList_copy_splice rfl (.tmp 22) (.tmp 24) 43 43 rfl 3 Tryz.underlying43 Tryz.sizeInt (some ⟨w.heap.size + 1 + 1, 0, none⟩) ao 65536 65536 s.mem.length cap rfl rfl (w.heap.size + 1 + 1) 0 MC.toList 3 g1 (s.mem.map int1) (by rw [List.length_map]; exact (Nat.min_eq_left hl).symm) ?hpos (by rw [List.length_map, hlen]; omega) (by intro u hu; obtain ⟨i, _, rfl⟩ := List.mem_map.1 hu; rfl) (w.heap.size + 1 + 1) _ (Below.refl _ _) (Nat.le_refl _) ?_
 case hpos =>
   intro h0
   refine ⟨rfl, ?_⟩
   rcases Lies.src ((uI HM).step g3) with ⟨e, e2, _⟩ | ⟨ad, cp, e, _, hcell⟩
   · rw [List.length_map] at h0; omega
   · have e3 : ao = some ad := by simp at e; exact e.1
     exact ⟨ad, e3, hcell⟩
 intro w2 hw2 hb2
 have MA := zH (start_mach (uI HMC) hl (uI GF) (uI HC) (uI HI) g2 g3 g4 (uI hw2) hb2)
 clear g1 g2 g3 g4 hw2 hb2
 go_wp2_with fail
 go_ret
 exact ⟨_, _, rfl, uI MA⟩
end Go.Proofs.YtlkoidkdeopgjaaGreatDoor
namespace Go.Proofs.YtlkoidkdeopgjaaGreatDoor
open Go.RowKit
set_option linter.unusedSimpArgs false
set_option linter.unusedVariables false
theorem act_took (m : Ma) (i : Ins) (bs : List Int) : (m.act i bs).took = m.took := by
 simp only [Ma.act, Ma.jump, Ma.tell, Ma.take, apply_ite Ma.took, Ma.setR, Ma.st, Ma.sum, Ma.cmp, Ma.dif, Ma.become, Ma.push, Ma.pop, ite_self]
theorem step_took (m : Ma) (xs bs : List Int) : (m.step xs bs).took = m.took + 1 := by
 unfold Ma.step
 split
 · rfl
 · dsimp only
   split
   · rw [act_took]
   · dsimp only; rw [act_took]
theorem run_end (xs bs : List Int) (k : Nat) (m : Ma) (h : ¬ m.how = 0) : Ma.run xs bs k m = m := by
 cases k <;> (unfold Ma.run; rw [if_neg h])
def zeroMa : Ma := { r := fun _ => 0, c := false, z := false, n := false, v := false, pc := 0, mem := fun _ => 0, how := 0, trap := 0, out := [], rd := 0, took := 0 }
theorem lastN_zero : ∀ n, lastN (fun _ => 0) n = 0
 | 0 => rfl
 | n + 1 => by unfold lastN; rw [if_pos rfl]; exact lastN_zero n
theorem memL_zero : memL zeroMa.mem = [] := by
 unfold memL
 have : lastN zeroMa.mem 65536 = 0 := lastN_zero _
 rw [this]; rfl
def runA (xs : List Int) (s : St) (bs : List Int) (F : Int) : Ma × Int :=
 if 65536 < xs.length then (zeroMa, 4) else if 65536 < bs.length then (zeroMa, 4) else if s.wrong = 0 then (if F < 0 then (zeroMa, 3) else if 1000000 < F then (zeroMa, 3) else (Ma.run xs bs F.toNat (startM s), 0)) else (zeroMa, s.wrong)
theorem results_row_tmp {P : Program} {fn : Func} {p u : Tmp} {ty : TypeId} (h : fn.results = #[.cell p ty, .tmp u]) (tmps : Array Value) (w : World) (g : Nat) (t : TypeId) (cs : Array Value) (fr : Nat × Nat) (d : TypeDesc) (x : Value)
   (hp : tmps.getD p undef = .pointer (some ⟨g, 0, none⟩)) (hx : tmps.getD u undef = x) (hg : w.heap[g]? = some (.cells cs t fr))
   (hu : P.underlying ty = some d) (hd : (match d with | .struct _ | .array _ _ => true | _ => false) = true) (hi : (P.info? ty).map (·.size) = some cs.size) :
   (results fn tmps).run P w = .ok (.tuple #[.agg cs, x]) w := by
 rw [results_cell_tmp h, hp, hx]
 simp [asAddr, run_loadVar_row w g t ty cs fr d hg hu hd hi]
def ran0 : Array Value := #[.int .i64 0, .int .i64 0, .slice none 0 0, .int .i64 0, .int .i64 0, .int .i64 0, .int .i64 0, .int .i64 0, .int .i64 0, .int .i64 0, .int .i64 0, .int .i64 0, .int .i64 0, .bool false, .bool false, .bool false, .bool false, .int .i64 0, .slice none 0 0]
theorem ran0_one : ran0.all (·.oneCell') = true := by simp [ran0, Value.oneCell']
theorem ran_none {w w' : World} {bs : List Int} (h : Below w.heap.size w w') (er : Int) (he : ¬ er = 0) : ∃ vo vm, Ending.returned (.tuple #[.agg ran0, .int .i64 er]) = .returned (.tuple #[ranV (zeroMa, er).1 vo vm, .int .i64 (zeroMa, er).2]) ∧ Ints w' vm (memL (zeroMa, er).1.mem) ∧ Byts w' vo (zeroMa, er).1.out ∧ Below w.heap.size w w' ∧ ((zeroMa, er).2 = 0 → (zeroMa, er).1.Fine bs) ∧ (∀ k, vo.ownBlock = some k → w.heap.size ≤ k) ∧ (∀ k, vm.ownBlock = some k → w.heap.size ≤ k) :=
 ⟨.slice none 0 0, .slice none 0 0, rfl, by rw [memL_zero]; exact Lies.nil _ _, Lies.nil _ _, h, fun h0 => absurd h0 he, (fun _ h => by cases h), fun _ h => by cases h⟩
theorem run_any (xs : List Int) (s : St) (bs : List Int) (F : Int) (vc vm vi : Value) (w : World) (hc : Ints w vc xs) (hm : Ints w vm s.mem) (hi : Byts w vi bs) (hb : ∀ x ∈ bs, 0 ≤ x ∧ x ≤ 255) :
   Calls Tryz.prog 46 #[vc, s.val vm, vi, .int .i64 F] w fun e w' => ∃ vo vm', e = .returned (.tuple #[ranV (runA xs s bs F).1 vo vm', .int .i64 (runA xs s bs F).2]) ∧ Ints w' vm' (memL (runA xs s bs F).1.mem) ∧ Byts w' vo (runA xs s bs F).1.out ∧ Below w.heap.size w w' ∧ ((runA xs s bs F).2 = 0 → (runA xs s bs F).1.Fine bs) ∧ (∀ k, vo.ownBlock = some k → w.heap.size ≤ k) ∧ (∀ k, vm'.ownBlock = some k → w.heap.size ≤ k) := by
 have HC := zH hc
 have HI := zH hi
 have HM := zH hm
 have HB := zH hb
 obtain ⟨co, ccap, rfl, hmx, _⟩ := hc.at
 obtain ⟨mo, mcap, rfl, hmm, _⟩ := hm.at
 obtain ⟨io, icap, rfl, hmi, _⟩ := hi.at
 clear hc hm hi hb
 unfold maxLen at hmx hmm hmi
 have K2 := zH (bt (below_a w (.cells (s.cells (.slice mo s.mem.length mcap)) 51)) (below_a _ (.cells ran0 53)))
 have G2 : Hid (((w.alloc (.cells (s.cells (.slice mo s.mem.length mcap)) 51)).alloc (.cells ran0 53)).heap[w.heap.size + 1]? = some (.cells ran0 53 (0, 0))) := by
   have h := heap_new (w.alloc (.cells (s.cells (.slice mo s.mem.length mcap)) 51)) (.cells ran0 53)
   rw [World.size_alloc] at h
   exact h
 unfold St.cells ran0 at K2 G2
 by_cases h1 : 65536 < xs.length
 · have hR : Hid (runA xs s bs F = (zeroMa, 4)) := by unfold Hid runA; rw [if_pos h1]
   rw [uI hR]
   have b1 : decide ((65536 : Int) < xs.length) = true := by simp; omega
   unfold St.val St.cells
   go_enter Tryz.func46, Tryz.ntmps46
   go_wp2_with (refine wpList_store_row rfl 53 (.tmp 8) (.tmp 20) rfl (w.heap.size + 1) #[.int .i64 0, .int .i64 0, .slice none 0 0, .int .i64 0, .int .i64 0, .int .i64 0, .int .i64 0, .int .i64 0, .int .i64 0, .int .i64 0, .int .i64 0, .int .i64 0, .int .i64 0, .bool false, .bool false, .bool false, .bool false, .int .i64 0, .slice none 0 0] rfl rfl 53 #[.int .i64 0, .int .i64 0, .slice none 0 0, .int .i64 0, .int .i64 0, .int .i64 0, .int .i64 0, .int .i64 0, .int .i64 0, .int .i64 0, .int .i64 0, .int .i64 0, .int .i64 0, .bool false, .bool false, .bool false, .bool false, .int .i64 0, .slice none 0 0] (uI G2) Tryz.sizeRan rfl ran0_one ?_; have HG := zH (setRow_heap _ (w.heap.size + 1) _ #[.int .i64 0, .int .i64 0, .slice none 0 0, .int .i64 0, .int .i64 0, .int .i64 0, .int .i64 0, .int .i64 0, .int .i64 0, .int .i64 0, .int .i64 0, .int .i64 0, .int .i64 0, .bool false, .bool false, .bool false, .bool false, .int .i64 0, .slice none 0 0] _ _ (uI G2)); have HK := zH (Below.row (uI K2) (by omega : w.heap.size ≤ w.heap.size + 1) #[.int .i64 0, .int .i64 0, .slice none 0 0, .int .i64 0, .int .i64 0, .int .i64 0, .int .i64 0, .int .i64 0, .int .i64 0, .int .i64 0, .int .i64 0, .int .i64 0, .int .i64 0, .bool false, .bool false, .bool false, .bool false, .int .i64 0, .slice none 0 0]))
   exact bodyPost_ret (results_row_tmp Tryz.results46 _ _ (w.heap.size + 1) 53 ran0 (0, 0) _ _ rfl rfl (uI HG) Tryz.underlying53 rfl Tryz.sizeRan) rfl (ran_none (uI HK) 4 (by decide))
 have b1 : decide ((65536 : Int) < xs.length) = false := by simp; omega
 by_cases h2 : 65536 < bs.length
 · have hR : Hid (runA xs s bs F = (zeroMa, 4)) := by unfold Hid runA; rw [if_neg h1, if_pos h2]
   rw [uI hR]
   have b2 : decide ((65536 : Int) < bs.length) = true := by simp; omega
   unfold St.val St.cells
   go_enter Tryz.func46, Tryz.ntmps46
   go_wp2_with (refine wpList_store_row rfl 53 (.tmp 8) (.tmp 20) rfl (w.heap.size + 1) #[.int .i64 0, .int .i64 0, .slice none 0 0, .int .i64 0, .int .i64 0, .int .i64 0, .int .i64 0, .int .i64 0, .int .i64 0, .int .i64 0, .int .i64 0, .int .i64 0, .int .i64 0, .bool false, .bool false, .bool false, .bool false, .int .i64 0, .slice none 0 0] rfl rfl 53 #[.int .i64 0, .int .i64 0, .slice none 0 0, .int .i64 0, .int .i64 0, .int .i64 0, .int .i64 0, .int .i64 0, .int .i64 0, .int .i64 0, .int .i64 0, .int .i64 0, .int .i64 0, .bool false, .bool false, .bool false, .bool false, .int .i64 0, .slice none 0 0] (uI G2) Tryz.sizeRan rfl ran0_one ?_; have HG := zH (setRow_heap _ (w.heap.size + 1) _ #[.int .i64 0, .int .i64 0, .slice none 0 0, .int .i64 0, .int .i64 0, .int .i64 0, .int .i64 0, .int .i64 0, .int .i64 0, .int .i64 0, .int .i64 0, .int .i64 0, .int .i64 0, .bool false, .bool false, .bool false, .bool false, .int .i64 0, .slice none 0 0] _ _ (uI G2)); have HK := zH (Below.row (uI K2) (by omega : w.heap.size ≤ w.heap.size + 1) #[.int .i64 0, .int .i64 0, .slice none 0 0, .int .i64 0, .int .i64 0, .int .i64 0, .int .i64 0, .int .i64 0, .int .i64 0, .int .i64 0, .int .i64 0, .int .i64 0, .int .i64 0, .bool false, .bool false, .bool false, .bool false, .int .i64 0, .slice none 0 0]))
   exact bodyPost_ret (results_row_tmp Tryz.results46 _ _ (w.heap.size + 1) 53 ran0 (0, 0) _ _ rfl rfl (uI HG) Tryz.underlying53 rfl Tryz.sizeRan) rfl (ran_none (uI HK) 4 (by decide))
 have b2 : decide ((65536 : Int) < bs.length) = false := by simp; omega
 have WR := zH (wrongS_any s (.slice mo s.mem.length mcap) _ ((uI HM).step (uI K2)))
 have K3 := zH (bt (uI K2) (below_a _ (.cells (s.cells (.slice mo s.mem.length mcap)) 51)))
 have G3 := zH (((below_a _ (.cells (s.cells (.slice mo s.mem.length mcap)) 51)).block (w.heap.size + 1) (Array.getElem?_eq_some_iff.1 (uI G2)).1).trans (uI G2))
 have L3 := zH (Array.getElem?_eq_some_iff.1 (uI G3)).1
 have SG : Hid (s.wrong = 0 → s.mem.length ≤ 65536 ∧ s.good = true) := fun h => by
   unfold St.wrong at h
   split at h
   · omega
   · split at h
     · exact ⟨by omega, by assumption⟩
     · omega
 have ST := zH (fun h0 => started_any s (.slice mo s.mem.length mcap) (.slice co xs.length ccap) (.slice io bs.length icap) xs bs _ ((uI HM).step (uI K3)) ((uI HC).step (uI K3)) (Lies.step (uI HI) (uI K3)) (uI SG h0).1 (uI SG h0).2 (uI HB))
 unfold St.val St.cells at WR ST
 unfold St.cells at K3 G3 L3
 have hR : Hid (runA xs s bs F = if s.wrong = 0 then (if F < 0 then (zeroMa, 3) else if 1000000 < F then (zeroMa, 3) else (Ma.run xs bs F.toNat (startM s), 0)) else (zeroMa, s.wrong)) := by unfold Hid runA; rw [if_neg h1, if_neg h2]
 rw [uI hR]
 clear hR SG
 unfold St.val St.cells
 generalize s.wrong = er at *
 by_cases h3 : er = 0
 · subst h3
   rw [if_pos rfl]
   by_cases h4 : F < 0
   · rw [if_pos h4]
     have b4 : decide (F < 0) = true := by simp [h4]
     go_enter Tryz.func46, Tryz.ntmps46
     go_wp2_with (first | (go_at_call 65; refine (uI WR).mono ?_; rintro e w1 ⟨rfl, hw⟩; subst w1) | (refine wpList_store_row rfl 53 (.tmp 8) (.tmp 33) rfl (w.heap.size + 1) #[.int .i64 0, .int .i64 0, .slice none 0 0, .int .i64 0, .int .i64 0, .int .i64 0, .int .i64 0, .int .i64 0, .int .i64 0, .int .i64 0, .int .i64 0, .int .i64 0, .int .i64 0, .bool false, .bool false, .bool false, .bool false, .int .i64 0, .slice none 0 0] rfl rfl 53 #[.int .i64 0, .int .i64 0, .slice none 0 0, .int .i64 0, .int .i64 0, .int .i64 0, .int .i64 0, .int .i64 0, .int .i64 0, .int .i64 0, .int .i64 0, .int .i64 0, .int .i64 0, .bool false, .bool false, .bool false, .bool false, .int .i64 0, .slice none 0 0] (uI G3) Tryz.sizeRan rfl ran0_one ?_; have HG := zH (setRow_heap _ (w.heap.size + 1) _ #[.int .i64 0, .int .i64 0, .slice none 0 0, .int .i64 0, .int .i64 0, .int .i64 0, .int .i64 0, .int .i64 0, .int .i64 0, .int .i64 0, .int .i64 0, .int .i64 0, .int .i64 0, .bool false, .bool false, .bool false, .bool false, .int .i64 0, .slice none 0 0] _ _ (uI G3)); have HK := zH (Below.row (uI K3) (by omega : w.heap.size ≤ w.heap.size + 1) #[.int .i64 0, .int .i64 0, .slice none 0 0, .int .i64 0, .int .i64 0, .int .i64 0, .int .i64 0, .int .i64 0, .int .i64 0, .int .i64 0, .int .i64 0, .int .i64 0, .int .i64 0, .bool false, .bool false, .bool false, .bool false, .int .i64 0, .slice none 0 0])))
     exact bodyPost_ret (results_row_tmp Tryz.results46 _ _ (w.heap.size + 1) 53 ran0 (0, 0) _ _ rfl rfl (uI HG) Tryz.underlying53 rfl Tryz.sizeRan) rfl (ran_none (uI HK) 3 (by decide))
   rw [if_neg h4]
   have b4 : decide (F < 0) = false := by simp; omega
   by_cases h5 : 1000000 < F
   · rw [if_pos h5]
     have b5 : decide (1000000 < F) = true := by simp [h5]
     go_enter Tryz.func46, Tryz.ntmps46
     go_wp2_with (first | (go_at_call 65; refine (uI WR).mono ?_; rintro e w1 ⟨rfl, hw⟩; subst w1) | (refine wpList_store_row rfl 53 (.tmp 8) (.tmp 33) rfl (w.heap.size + 1) #[.int .i64 0, .int .i64 0, .slice none 0 0, .int .i64 0, .int .i64 0, .int .i64 0, .int .i64 0, .int .i64 0, .int .i64 0, .int .i64 0, .int .i64 0, .int .i64 0, .int .i64 0, .bool false, .bool false, .bool false, .bool false, .int .i64 0, .slice none 0 0] rfl rfl 53 #[.int .i64 0, .int .i64 0, .slice none 0 0, .int .i64 0, .int .i64 0, .int .i64 0, .int .i64 0, .int .i64 0, .int .i64 0, .int .i64 0, .int .i64 0, .int .i64 0, .int .i64 0, .bool false, .bool false, .bool false, .bool false, .int .i64 0, .slice none 0 0] (uI G3) Tryz.sizeRan rfl ran0_one ?_; have HG := zH (setRow_heap _ (w.heap.size + 1) _ #[.int .i64 0, .int .i64 0, .slice none 0 0, .int .i64 0, .int .i64 0, .int .i64 0, .int .i64 0, .int .i64 0, .int .i64 0, .int .i64 0, .int .i64 0, .int .i64 0, .int .i64 0, .bool false, .bool false, .bool false, .bool false, .int .i64 0, .slice none 0 0] _ _ (uI G3)); have HK := zH (Below.row (uI K3) (by omega : w.heap.size ≤ w.heap.size + 1) #[.int .i64 0, .int .i64 0, .slice none 0 0, .int .i64 0, .int .i64 0, .int .i64 0, .int .i64 0, .int .i64 0, .int .i64 0, .int .i64 0, .int .i64 0, .int .i64 0, .int .i64 0, .bool false, .bool false, .bool false, .bool false, .int .i64 0, .slice none 0 0])))
     exact bodyPost_ret (results_row_tmp Tryz.results46 _ _ (w.heap.size + 1) 53 ran0 (0, 0) _ _ rfl rfl (uI HG) Tryz.underlying53 rfl Tryz.sizeRan) rfl (ran_none (uI HK) 3 (by decide))
   rw [if_neg h5]
   have b5 : decide (1000000 < F) = false := by simp; omega
   have ST2 := zH (uI ST rfl)
   clear ST
   obtain ⟨N, hN⟩ : ∃ N : Nat, F.toNat = N := ⟨_, rfl⟩
   have hF : F = (N : Int) := by omega
   rw [hN]
   subst hF
   clear hN
   generalize hM0 : startM s = m0 at *
   have t0 : m0.took = 0 := by rw [← hM0]; rfl
   have o0 : m0.how = 0 := by rw [← hM0]; rfl
   clear hM0
   generalize hRR : Ma.run xs bs N m0 = R
   have HR : Hid (R = Ma.run xs bs N m0) := hRR.symm
   clear hRR
   go_enter Tryz.func46, Tryz.ntmps46
   go_wp2_with (go_at_call 65; refine (uI WR).mono ?_; rintro e w1 ⟨rfl, hw⟩; subst w1)
   refine (uI ST2).mono ?_
   rintro e w2 ⟨p, q, rfl, M2⟩
   obtain ⟨W3, M3, k3, g3⟩ : ∃ W3, Hid (Mach W3 w2 p q (.slice co xs.length ccap) (.slice io bs.length icap) (.slice none 0 0) m0 xs bs) ∧ Hid (Below w.heap.size w W3) ∧ Hid (W3.heap[w.heap.size + 1]? = some (.cells #[.int .i64 0, .int .i64 0, .slice none 0 0, .int .i64 0, .int .i64 0, .int .i64 0, .int .i64 0, .int .i64 0, .int .i64 0, .int .i64 0, .int .i64 0, .int .i64 0, .int .i64 0, .bool false, .bool false, .bool false, .bool false, .int .i64 0, .slice none 0 0] 53 (0, 0))) := ⟨_, M2, uI K3, uI G3⟩
   clear M2 K3 G3 L3 K2 G2 ST2 WR HC HI HM
   go_wp2_with fail
   go_loopg [] (N + 1) (fun g wr => ∃ (k : Nat) (m : Ma) (vo : Value), Hid (Mach W3 wr p q (.slice co xs.length ccap) (.slice io bs.length icap) vo m xs bs) ∧ Hid (R = Ma.run xs bs k m) ∧ 0 ≤ m.took ∧ ((m.how = 0 ∧ g = k + 1 ∧ m.took + k = N) ∨ (¬ m.how = 0 ∧ g = 0)))
   case atStart => exact ⟨N, m0, _, M3, HR, by omega, .inl ⟨o0, rfl, by omega⟩⟩
   case round =>
     obtain ⟨k, m, vo, M, he, hto, hor⟩ := hrel
     clear M3 HR
     obtain ⟨-, -, -, -, -, -, -, -, c16, -, -, -, c20⟩ := (uI M).at
     have fz := (uI M).flat
     rcases hor with ⟨ho, hg, htk⟩ | ⟨ho, hg⟩
     · have b6 : (m.how == 0) = true := by simp [ho]
       cases k with
       | zero =>
         have htk' : m.took = N := by omega
         have b7 : (m.took == (N : Int)) = true := by simp [htk']
         have P1 := zH ((uI M).put (m' := { m with how := 3 }) 16 (.int .i64 3) (by decide) rfl rfl rfl { (uI M).fine with })
         have e1 : Hid (R = Ma.run xs bs 0 ({ m with how := 3 } : Ma)) := by
           have := uI he
           unfold Ma.run at this
           rw [if_pos ho] at this
           unfold Hid
           rw [this, run_end _ _ _ _ (by show ¬ (3 : Int) = 0; decide)]
         go_wp2_with fail
         go_roundg 0
         case measure => omega
         case rel => exact ⟨0, _, _, P1, e1, hto, .inr ⟨by show ¬ (3 : Int) = 0; decide, rfl⟩⟩
       | succ k =>
         have b7 : (m.took == (N : Int)) = false := by simp; omega
         have e1 : Hid (R = Ma.run xs bs k (m.step xs bs)) := by
           have := uI he
           unfold Ma.run at this
           rw [if_pos ho] at this
           exact this
         have ts := step_took m xs bs
         have S := zH (step_any (uI M) hto (by omega))
         generalize m.step xs bs = m1 at *
         go_wp2_with (go_at_call 67; refine (uI S).mono ?_; rintro e w4 ⟨vo4, rfl, M4⟩; have HM4 := zH M4; clear M4)
         go_roundg (if m1.how = 0 then k + 1 else 0)
         case measure => split <;> omega
         case rel =>
           refine ⟨k, m1, vo4, HM4, e1, by omega, ?_⟩
           by_cases hh : m1.how = 0
           · exact .inl ⟨hh, by rw [if_pos hh], by omega⟩
           · exact .inr ⟨hh, by rw [if_neg hh]⟩
     · have b6 : (m.how == 0) = false := by simp [ho]
       have e1 : Hid (R = m) := by unfold Hid; rw [uI he, run_end _ _ _ _ ho]
       have fin := zH (uI M).fine
       have RA := zH (ran_any (uI M))
       go_wp2_with fail
       refine (uI RA).mono ?_
       rintro e w5 ⟨vm5, rfl, i5, o5, k5, n5⟩
       have I5 := zH i5
       have O5 := zH o5
       have K5 := zH k5
       have g5 := zH ((k5.block (w.heap.size + 1) (Array.getElem?_eq_some_iff.1 (uI g3)).1).trans (uI g3))
       obtain ⟨a5, c5, rfl, _, _⟩ := i5.at
       obtain ⟨b5, d5, rfl, _, _⟩ := o5.at
       have l3 := (Array.getElem?_eq_some_iff.1 (uI g3)).1
       have F5 : Hid (∀ k, (Value.slice a5 (memL m.mem).length c5).ownBlock = some k → k ≠ w.heap.size + 1) := fun k hk => by have := n5 k hk; omega
       have E5 : Hid (∀ k, (Value.slice b5 m.out.length d5).ownBlock = some k → k ≠ w.heap.size + 1) := fun k hk => by have := ((uI M).own.lt k hk).1; omega
       have hws := (uI k3).size
       have F6 : Hid (∀ k, (Value.slice a5 (memL m.mem).length c5).ownBlock = some k → w.heap.size ≤ k) := fun k hk => Nat.le_trans hws (n5 k hk)
       have E6 : Hid (∀ k, (Value.slice b5 m.out.length d5).ownBlock = some k → w.heap.size ≤ k) := fun k hk => Nat.le_trans hws ((uI M).own.lt k hk).1
       have KK := zH ((uI k3).trans ((uI K5).mono (uI k3).size))
       clear n5 i5 o5 k5
       generalize hL : memL m.mem = L at *
       have HL := zH hL
       clear hL
       unfold ranV
       go_wp2_with (refine wpList_store_row rfl 53 (.tmp 8) (.tmp 55) rfl (w.heap.size + 1) (ranC m (.slice b5 m.out.length d5) (.slice a5 L.length c5)) rfl rfl 53 #[.int .i64 0, .int .i64 0, .slice none 0 0, .int .i64 0, .int .i64 0, .int .i64 0, .int .i64 0, .int .i64 0, .int .i64 0, .int .i64 0, .int .i64 0, .int .i64 0, .int .i64 0, .bool false, .bool false, .bool false, .bool false, .int .i64 0, .slice none 0 0] (uI g5) Tryz.sizeRan rfl (ranC_one _ _ _ _ _ _ _) ?_; have HG := zH (setRow_heap _ (w.heap.size + 1) _ (ranC m (.slice b5 m.out.length d5) (.slice a5 L.length c5)) _ _ (uI g5)); have HK := zH (Below.row (uI KK) (by omega : w.heap.size ≤ w.heap.size + 1) (ranC m (.slice b5 m.out.length d5) (.slice a5 L.length c5))); have I6 := zH (Lies.blk (w' := w5.setRow (w.heap.size + 1) (ranC m (.slice b5 m.out.length d5) (.slice a5 L.length c5))) (uI I5) (by rw [size_setRow]; exact Nat.le_refl _) fun k hk => setRow_other _ _ _ _ (uI F5 k hk)); have O6 := zH (Lies.blk (w' := w5.setRow (w.heap.size + 1) (ranC m (.slice b5 m.out.length d5) (.slice a5 L.length c5))) (uI O5) (by rw [size_setRow]; exact Nat.le_refl _) fun k hk => setRow_other _ _ _ _ (uI E5 k hk)))
       have e2 := uI e1
       subst e2
       exact bodyPost_ret (results_row_tmp Tryz.results46 _ _ (w.heap.size + 1) 53 (ranC R (.slice b5 R.out.length d5) (.slice a5 L.length c5)) (0, 0) _ _ rfl rfl (uI HG) Tryz.underlying53 rfl Tryz.sizeRan) rfl ⟨.slice b5 R.out.length d5, .slice a5 L.length c5, rfl, by rw [uI HL]; exact uI I6, uI O6, uI HK, fun _ => uI fin, uI E6, uI F6⟩
 · rw [if_neg h3]
   have b3 : (er != 0) = true := by simp [h3]
   clear ST
   go_enter Tryz.func46, Tryz.ntmps46
   go_wp2_with (first | (go_at_call 65; refine (uI WR).mono ?_; rintro e w1 ⟨rfl, hw⟩; subst w1) | (refine wpList_store_row rfl 53 (.tmp 8) (.tmp 25) rfl (w.heap.size + 1) #[.int .i64 0, .int .i64 0, .slice none 0 0, .int .i64 0, .int .i64 0, .int .i64 0, .int .i64 0, .int .i64 0, .int .i64 0, .int .i64 0, .int .i64 0, .int .i64 0, .int .i64 0, .bool false, .bool false, .bool false, .bool false, .int .i64 0, .slice none 0 0] rfl rfl 53 #[.int .i64 0, .int .i64 0, .slice none 0 0, .int .i64 0, .int .i64 0, .int .i64 0, .int .i64 0, .int .i64 0, .int .i64 0, .int .i64 0, .int .i64 0, .int .i64 0, .int .i64 0, .bool false, .bool false, .bool false, .bool false, .int .i64 0, .slice none 0 0] (uI G3) Tryz.sizeRan rfl ran0_one ?_; have HG := zH (setRow_heap _ (w.heap.size + 1) _ #[.int .i64 0, .int .i64 0, .slice none 0 0, .int .i64 0, .int .i64 0, .int .i64 0, .int .i64 0, .int .i64 0, .int .i64 0, .int .i64 0, .int .i64 0, .int .i64 0, .int .i64 0, .bool false, .bool false, .bool false, .bool false, .int .i64 0, .slice none 0 0] _ _ (uI G3)); have HK := zH (Below.row (uI K3) (by omega : w.heap.size ≤ w.heap.size + 1) #[.int .i64 0, .int .i64 0, .slice none 0 0, .int .i64 0, .int .i64 0, .int .i64 0, .int .i64 0, .int .i64 0, .int .i64 0, .int .i64 0, .int .i64 0, .int .i64 0, .int .i64 0, .bool false, .bool false, .bool false, .bool false, .int .i64 0, .slice none 0 0])))
   exact bodyPost_ret (results_row_tmp Tryz.results46 _ _ (w.heap.size + 1) 53 ran0 (0, 0) _ _ rfl rfl (uI HG) Tryz.underlying53 rfl Tryz.sizeRan) rfl (ran_none (uI HK) er h3)
end Go.Proofs.YtlkoidkdeopgjaaGreatDoor
