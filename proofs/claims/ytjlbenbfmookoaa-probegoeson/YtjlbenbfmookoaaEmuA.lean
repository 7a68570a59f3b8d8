/-
  A machine that starts.
-/
import Derived.Test.YtjlbenbfmookoaaEmuW
import Derived.Test.YtjlbenbfmookoaaEmuF
import Derived.Test.YtjlbenbfmookoaaEmuZ
import Derived.Test.YtjlbenbfmookoaaInsE
import Derived.Laws.CopyOwn
import Derived.Deep.OwnRows
namespace Go.Proofs.Ytjlbenbfmookoaa
open Go.RowKit
set_option linter.unusedSimpArgs false
set_option linter.unusedVariables false

def startM (s : St) : Ma := { r := s.r, c := s.c, z := s.z, n := s.n, v := s.v, pc := s.pc, mem := fun j => s.mem.getD j 0, how := 0, trap := 0, out := [], rd := 0, took := 0 }
theorem good_fine (s : St) (bs : List Int) (hg : s.good = true) (hb : ∀ x ∈ bs, 0 ≤ x ∧ x ≤ 255) : (startM s).Fine bs := by
  unfold St.good at hg
  simp only [Bool.and_eq_true, List.all_eq_true] at hg
  obtain ⟨⟨h1, h2⟩, h3⟩ := hg
  refine ⟨fun j hj => ?_, fun j _ => ?_, isw_yes h2, by simp [startM], by simp [startM], by simp [startM], hb⟩
  · have hj' : j = 0 ∨ j = 1 ∨ j = 2 ∨ j = 3 ∨ j = 4 ∨ j = 5 ∨ j = 6 ∨ j = 7 := by omega
    have hm : s.r j ∈ s.regs := by rcases hj' with rfl | rfl | rfl | rfl | rfl | rfl | rfl | rfl <;> simp [St.regs]
    exact isw_yes (h1 _ hm)
  · show wd (s.mem.getD j 0)
    rw [List.getD_eq_getElem?_getD]
    by_cases hl : j < s.mem.length
    · rw [List.getElem?_eq_getElem hl]; exact isw_yes (h3 _ (List.getElem_mem hl))
    · rw [List.getElem?_eq_none (by omega)]; unfold wd; simp
theorem made_len (n : Nat) : (madeCells #[Value.int .i64 0] n).toList.length = n := by rw [toList_madeCells_one]; simp
theorem spliced (n j : Nat) (l : List Int) (hl : l.length ≤ n) (hj : j < n) : (splice (madeCells #[Value.int .i64 0] n).toList 0 (l.map int1))[j]? = some (.int .i64 (l.getD j 0)) := by
  rw [toList_madeCells_one]
  unfold splice
  rw [List.take_zero, List.nil_append, List.getElem?_append, List.length_map, List.getD_eq_getElem?_getD]
  by_cases h : j < l.length
  · rw [if_pos h, List.getElem?_map, List.getElem?_eq_getElem h]; rfl
  · rw [if_neg h, List.getElem?_drop, List.getElem?_replicate, if_pos (by omega), List.getElem?_eq_none (by omega)]; rfl

theorem Try.sizeInt : (Try.prog.info? 3).map (·.size) = some 1 := by kernel_rfl
theorem start_world (w : World) (A M MC : Array Value) (T1 T2 T3 : TypeId) :
    ((((w.alloc (.cells A T1)).alloc (.cells M T2)).alloc (.cells MC T3)).drew).heap[w.heap.size + 1 + 1]? = some (.cells MC.toList.toArray T3 (0, 0)) ∧
    Box ((((w.alloc (.cells A T1)).alloc (.cells M T2)).alloc (.cells MC T3)).drew) (w.heap.size + 1) M.toList ∧ Below w.heap.size w ((((w.alloc (.cells A T1)).alloc (.cells M T2)).alloc (.cells MC T3)).drew) ∧ ((((w.alloc (.cells A T1)).alloc (.cells M T2)).alloc (.cells MC T3)).drew).heap.size = w.heap.size + 1 + 1 + 1 := by
  refine ⟨?_, ?_, (below_3 _ _ _ _).drew, by simp [World.drew]⟩
  · show (((w.alloc (.cells A T1)).alloc (.cells M T2)).alloc (.cells MC T3)).heap[w.heap.size + 1 + 1]? = _
    have h := heap_new ((w.alloc (.cells A T1)).alloc (.cells M T2)) (.cells MC T3)
    simpa only [World.size_alloc] using h
  · have := ((Box.new (w.alloc (.cells A T1)) M T2).step (below_a _ (.cells MC T3))).drew
    simpa only [World.size_alloc] using this
theorem start_mach {w W w' : World} {s : St} {vc vi : Value} {xs bs : List Int} {MC : Array Value} (hMC : MC = madeCells #[Value.int .i64 0] 65536) (hl : s.mem.length ≤ 65536) (hF : (startM s).Fine bs) (hc : Ints w vc xs) (hi : Byts w vi bs)
    (hx : Box W (w.heap.size + 1) (cellsM (startM s) (.slice (some ⟨w.heap.size + 1 + 1, 0, none⟩) 65536 65536) vc vi (.slice none 0 0))) (hb : Below w.heap.size w W) (hs : W.heap.size = w.heap.size + 1 + 1 + 1)
    (hg : w'.heap[w.heap.size + 1 + 1]? = some (.cells (splice MC.toList 0 (s.mem.map int1)).toArray 3 (0, 0))) (hk : Below (w.heap.size + 1 + 1) W w') : Mach (Sd.no w) w w' (w.heap.size + 1) (w.heap.size + 1 + 1) vc vi (.slice none 0 0) (startM s) xs bs := by
  have e1 : w'.heap[w.heap.size + 1]? = W.heap[w.heap.size + 1]? := hk.block _ (by omega)
  have hsz := hk.size
  exact {
    box := ⟨by omega, fun j u hu => by rw [World.cell?_of_block (w := W) (a := ⟨w.heap.size + 1, j, none⟩) e1]; exact hx.2.1 j u hu, fun j => by rw [World.frozen?_of_block (w := W) (a := ⟨w.heap.size + 1, j, none⟩) e1]; exact hx.2.2 j⟩
    hp := by omega
    hq := by omega
    hpq := by omega
    hqw := by omega
    mem := fun j hj => by
      have e2 : (splice (madeCells #[Value.int .i64 0] 65536).toList 0 (s.mem.map int1))[j]? = some (Value.int .i64 ((startM s).mem j)) := spliced 65536 j s.mem hl hj
      rw [hMC] at hg
      unfold World.cell?
      simp only [hg]
      simpa using e2
    frz := fun j => by
      unfold World.frozen?
      simp [hg]
    code := hc
    inp := hi
    low := hb.trans (hk.mono (by omega))
    own := World.ownsRow_nil _ _ _ _
    ho := fun k hk => by cases hk
    fine := hF
    side := ⟨by show w.heap.size ≤ w'.heap.size; omega, fun _ _ h => h.elim⟩ }

set_option maxRecDepth 100000 in
set_option maxHeartbeats 1000000 in
theorem started_any (s : St) (vm vc vi : Value) (xs bs : List Int) (w : World) (hm : Ints w vm s.mem) (hc : Ints w vc xs) (hi : Byts w vi bs) (hl : s.mem.length ≤ 65536) (hg : s.good = true) (hb : ∀ x ∈ bs, 0 ≤ x ∧ x ≤ 255) :
    Calls Try.prog 42 #[vc, s.val vm, vi] w fun e w' => ∃ p q, e = .returned (.pointer (some ⟨p, 0, none⟩)) ∧ Mach (Sd.no w) w w' p q vc vi (.slice none 0 0) (startM s) xs bs := by
  have GF := hideI (good_fine s bs hg hb)
  have HC := hideI hc
  have HI := hideI hi
  have HM := hideI hm
  have HL := hideI hl
  obtain ⟨MC, hMC⟩ : ∃ MC, MC = madeCells #[Value.int .i64 0] 65536 := ⟨_, rfl⟩
  have hmk : ∀ w, (Instr.makeSlice 22 (.int .i64 65536) (.int .i64 65536)).run Try.prog w = .ok (.slice (some ⟨w.heap.size, 0, none⟩) 65536 65536) (w.alloc (.cells MC 3)) := by
    rw [hMC]
    exact run_make_row' 22 3 (.int .i64 0) 8 Try.underlying22 Try.infoInt rfl .i64 .i64 65536 (by decide) (by decide)
  have HMC := hideI hMC
  obtain ⟨ao, cap, rfl, hmax, _⟩ := hm.at
  obtain ⟨co, ccap, rfl, _, _⟩ := hc.at
  obtain ⟨io, icap, rfl, _, _⟩ := hi.at
  clear hMC hg hb hc hi hm hl
  unfold St.val St.cells
  go_enter Try.func42, Try.ntmps42
  go_wp2_with fail
  refine wp_region_head 7 (by kernel_rfl) (by kernel_rfl) ?_
  simp only [List.take_succ_cons, List.take_zero, List.drop_succ_cons, List.drop_zero]
  repeat still_step
  refine wpStill_nil ?_
  obtain ⟨g1, g2, g3, g4⟩ := start_world w #[.int .i64 (s.r 0), .int .i64 (s.r 1), .int .i64 (s.r 2), .int .i64 (s.r 3), .int .i64 (s.r 4), .int .i64 (s.r 5), .int .i64 (s.r 6), .int .i64 (s.r 7), .bool s.c, .bool s.z, .bool s.n, .bool s.v, .int .i64 s.pc, .slice ao s.mem.length cap]
    #[.int .i64 (s.r 0), .int .i64 (s.r 1), .int .i64 (s.r 2), .int .i64 (s.r 3), .int .i64 (s.r 4), .int .i64 (s.r 5), .int .i64 (s.r 6), .int .i64 (s.r 7), .bool s.c, .bool s.z, .bool s.n, .bool s.v, .int .i64 s.pc, .slice (some ⟨w.heap.size + 1 + 1, 0, none⟩) 65536 65536, .slice co xs.length ccap, .slice io bs.length icap, .int .i64 0, .int .i64 0, .slice none 0 0, .int .i64 0, .int .i64 0] MC 27 89 3
  have hlen : MC.toList.length = 65536 := by rw [unhideI HMC]; exact made_len _
  have hl := unhideI HL
  refine wpList_copy_splice rfl (.tmp 22) (.tmp 24) 22 22 rfl 3 Try.underlying22 Try.sizeInt (some ⟨w.heap.size + 1 + 1, 0, none⟩) ao 65536 65536 s.mem.length cap rfl rfl (w.heap.size + 1 + 1) 0 MC.toList 3 g1 (s.mem.map int1) (by rw [List.length_map]; exact (Nat.min_eq_left hl).symm) ?hpos (by rw [List.length_map, hlen]; omega) (by intro u hu; obtain ⟨i, _, rfl⟩ := List.mem_map.1 hu; rfl) (w.heap.size + 1 + 1) _ (Below.refl _ _) (Nat.le_refl _) ?_
  case hpos =>
    intro h0
    refine ⟨rfl, ?_⟩
    rcases Lies.src ((unhideI HM).step g3) with ⟨e, e2, _⟩ | ⟨ad, cp, e, _, hcell⟩
    · rw [List.length_map] at h0; omega
    · have e3 : ao = some ad := by simp at e; exact e.1
      exact ⟨ad, e3, hcell⟩
  intro w2 hw2 hb2
  have MA := hideI (start_mach (unhideI HMC) hl (unhideI GF) (unhideI HC) (unhideI HI) g2 g3 g4 (unhideI hw2) hb2)
  clear g1 g2 g3 g4 hw2 hb2
  go_wp2_with fail
  go_ret
  exact ⟨_, _, rfl, unhideI MA⟩
end Go.Proofs.Ytjlbenbfmookoaa
