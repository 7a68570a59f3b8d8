/-
  RtG0, RtG1.
-/
import Derived.Test.YtlkoidkdeopgjaaGreatDoorwa
import Derived.MapKept
import Derived.Maps.RangeRun
import Derived.Maps.RangeWalk
import Derived.Laws.IdiomRangeMap
import Derived.Lib.OwnBridge
set_option maxHeartbeats 4000000
set_option maxRecDepth 100000
namespace Go.Proofs.YtlkoidkdeopgjaaGreatDoor
open Go.RowKit Go.Maps
set_option linter.unusedSimpArgs false
set_option linter.unusedVariables false
open Go.ChangeMaps (setBlock)
def kfn : Nat → FuncId
 | 0 => 95
 | 1 => 96
 | 2 => 97
 | 3 => 98
 | 4 => 99
 | 5 => 100
 | 6 => 101
 | _ => 102
def kfv (i : Nat) : Value := .func (.func (kfn i)) #[] #[]
def kdn (i : Nat) : List UInt8 := kdR.getD i []
def kent (n : Nat) : Array MapEntry := ((List.range n).map fun i => (⟨.string (sb (kdn i)), kfv i, i⟩ : MapEntry)).toArray
def kix (s : List UInt8) : Option Nat := (List.range 8).find? fun i => kdn i == s
theorem alloc_setR (w : World) (o o' : Obj) : { w.alloc o with heap := (w.alloc o).heap.setIfInBounds w.heap.size o' } = w.alloc o' := by
 unfold World.alloc
 simp [-World.alloc_eq]
 apply Array.ext
 · simp
 · intro i h1 h2
   have h3 : i < (w.heap.push o).size := by simpa using h2
   have h4 : i < w.heap.size + 1 := by simpa using h2
   rw [Array.getElem_setIfInBounds h3, Array.getElem_push, Array.getElem_push]
   by_cases e : w.heap.size = i
   · subst e
     simp
   · rw [if_neg e, dif_pos (by omega), dif_pos (by omega)]
theorem heapNewR (u : World) (o : Obj) : (u.alloc o).heap[u.heap.size]? = some o := by
 unfold World.alloc
 simp [-World.alloc_eq]
theorem run_putK (w : World) (n : Nat) (k : ByteArray) (fn : FuncId) (hn : kent (n + 1) = (kent n).push ⟨.string k, .func (.func fn) #[] #[], n⟩) (hf : Instr.findNow .string (.string k) (kent n).toList 0 = some none) :
   (Instr.mapUpdate 119 (.map (some w.heap.size)) (.string k) (.func (.func fn) #[] #[])).run Tryz.prog (w.alloc (.map (kent n) n)) = .ok () (w.alloc (.map (kent (n + 1)) (n + 1))) := by
 have hb : (w.alloc (.map (kent n) n)).heap[w.heap.size]? = some (.map (kent n) n) := heapNewR _ _
 unfold Instr.mapUpdate
 simp only [Sem.run_bind, run_underlying Tryz.underlying119, Result.andThen, Go.MapKept.run_getObj_map hb, Go.MapKept.run_checkKey Tryz.underlying9 (show Go.MapKept.IsKey .string (.string k) from trivial), Go.MapKept.run_findKey Tryz.underlying9 hf, Go.MapKept.run_setObj_map _ hb]
 rw [alloc_setR, hn]
theorem rkinds_any (w : World) : Calls Tryz.prog 69 #[] w fun e w' => e = .returned (.map (some w.heap.size)) ∧ w' = w.alloc (.map (kent 8) 8) := by
 have hmm : ∀ w : World, (Instr.makeMap 119 none).run Tryz.prog w = .ok (.map (some w.heap.size)) (w.alloc (.map (kent 0) 0)) := fun w => rfl
 have h0 := run_putK w 0 ⟨#[109, 117, 108]⟩ 95 (by kernel_rfl) (by kernel_rfl)
 have h1 := run_putK w 1 ⟨#[115, 97, 114]⟩ 96 (by kernel_rfl) (by kernel_rfl)
 have h2 := run_putK w 2 ⟨#[115, 100, 105, 118]⟩ 97 (by kernel_rfl) (by kernel_rfl)
 have h3 := run_putK w 3 ⟨#[115, 104, 108]⟩ 98 (by kernel_rfl) (by kernel_rfl)
 have h4 := run_putK w 4 ⟨#[115, 104, 114]⟩ 99 (by kernel_rfl) (by kernel_rfl)
 have h5 := run_putK w 5 ⟨#[115, 114, 101, 109]⟩ 100 (by kernel_rfl) (by kernel_rfl)
 have h6 := run_putK w 6 ⟨#[117, 100, 105, 118]⟩ 101 (by kernel_rfl) (by kernel_rfl)
 have h7 := run_putK w 7 ⟨#[117, 114, 101, 109]⟩ 102 (by kernel_rfl) (by kernel_rfl)
 simp only [Nat.reduceAdd] at h0 h1 h2 h3 h4 h5 h6 h7
 generalize kent 0 = e0 at *
 generalize kent 1 = e1 at *
 generalize kent 2 = e2 at *
 generalize kent 3 = e3 at *
 generalize kent 4 = e4 at *
 generalize kent 5 = e5 at *
 generalize kent 6 = e6 at *
 generalize kent 7 = e7 at *
 generalize kent 8 = e8 at *
 go_enter Tryz.func69, Tryz.ntmps69
 go_wp2
 go_ret
 exact ⟨rfl, rfl⟩
theorem find_K (s : List UInt8) : ∀ (l : List Nat) (i : Nat), ∃ m, Instr.findNow .string (.string (sb s)) (l.map fun i => (⟨.string (sb (kdn i)), kfv i, i⟩ : MapEntry)) i = some ((l.find? fun i => kdn i == s).map fun r => (m, kfv r))
 | [], _ => ⟨0, rfl⟩
 | k :: l, i => by
   rw [List.map_cons]
   unfold Instr.findNow
   simp only [Instr.sameNow]
   have e : (sb s == sb (kdn k)) = (kdn k == s) := by
     have e0 : (sb s == sb (kdn k)) = (s.toArray == (kdn k).toArray) := rfl
     rw [e0, Bool.eq_iff_iff, beq_iff_eq, beq_iff_eq]
     constructor
     · intro h; simpa using h.symm
     · intro h; rw [h]
   rw [e]
   by_cases h : (kdn k == s) = true
   · exact ⟨i, by rw [h, List.find?_cons, h]; rfl⟩
   · have h' : (kdn k == s) = false := by simpa using h
     obtain ⟨m, hm⟩ := find_K s l (i + 1)
     refine ⟨m, ?_⟩
     rw [h', List.find?_cons, h']
     simp only
     rw [hm]
theorem zeroFn (w : World) : (zeroValue 126).run Tryz.prog w = .ok .nilFunc w := by kernel_rfl
theorem run_lookK (w : World) (b : Nat) (s : List UInt8) (h : w.heap[b]? = some (.map (kent 8) 8)) : (Instr.lookup 119 (.map (some b)) (.string (sb s)) true).run Tryz.prog w = .ok (match kix s with | some i => .tuple #[kfv i, .bool true] | none => .tuple #[.nilFunc, .bool false]) w := by
 obtain ⟨m, hm⟩ := find_K s (List.range 8) 0
 have hf : Instr.findNow .string (.string (sb s)) (kent 8).toList 0 = some ((kix s).map fun r => (m, kfv r)) := by unfold kent kix; simpa using hm
 unfold Instr.lookup
 simp only [Sem.run_bind, run_underlying Tryz.underlying119, Result.andThen, Go.MapKept.run_getObj_map h, Sem.run_pure, Go.MapKept.run_checkKey Tryz.underlying9 (show Go.MapKept.IsKey .string (.string (sb s)) from trivial), Go.MapKept.run_findKey Tryz.underlying9 hf]
 have hz := zeroFn w
 cases kix s with
 | none => simp [hz, Result.andThen]
 | some r => simp
def Nx (w w1 : World) : Prop := w1 = w ∨ w1 = w.drew
def NoL (es : Array MapEntry) (seen : Array Nat) : Prop := (leftOf es seen).size = 0
def InL (es : Array MapEntry) (seen : Array Nat) (e : MapEntry) : Prop := e ∈ (leftOf es seen).toList
theorem wpList_nextK {P : Program} {w : World} {ops : Array Oper} {rest : List Oper} {o : Oper} {a : Act} {Q : Exit → Act → World → Prop} (hg : o.guard = none) (it : Operand) (hop : o.op = Op.next it false) (r bm since c0 : Nat) (seen : Array Nat) (es : Array MapEntry) (clock : Nat)
   (hit : a.eval it = .pointer (some ⟨r, 0, none⟩)) (hr : w.heap[r]? = some (.mapIter (some bm) since seen c0)) (hb : w.heap[bm]? = some (.map es clock)) (hold : ∀ x ∈ es.toList, x.born < since) (hsc : since ≤ c0)
   (hDone : NoL es seen → wpList P ops Q rest (a.put o.dst (.tuple #[.bool false])) w)
   (hMore : ∀ e : MapEntry, InL es seen e → ∀ w1 : World, Nx w w1 → wpList P ops Q rest (a.put o.dst (.tuple #[.bool true, e.key, e.val])) (setBlock w1 r (.mapIter (some bm) since (seen.push e.born) clock))) :
   wpList P ops Q (o :: rest) a w := by
 refine wpList_plain hg fun K' hK' => ?_
 unfold Oper.wp
 rcases run_next_at w o.type r bm since c0 seen es clock hr hb hold hsc (P := P) with ⟨h0, hrun⟩ | ⟨e, he, w1, hw1, hrun⟩
 · simp [execOp, hop, hit, hrun, Result.andThen]
   exact hK' _ _ (hDone h0)
 · simp [execOp, hop, hit, hrun, Result.andThen]
   exact hK' _ _ (hMore e he w1 hw1)
end Go.Proofs.YtlkoidkdeopgjaaGreatDoor
namespace Go.Proofs.YtlkoidkdeopgjaaGreatDoor
open Go.RowKit Go.Maps
set_option linter.unusedSimpArgs false
set_option linter.unusedVariables false
open Go.ChangeMaps (setBlock)
def szL : List Nat := [1, 2, 4]
structure Gz (w : World) : Prop where
 sz : ∃ t fr, w.heap[0]? = some (.cells #[.int .i64 1, .int .i64 2, .int .i64 4] t fr)
theorem Gz.step {w w' : World} (h : Gz w) (k : Below w.heap.size w w') : Gz w' := by
 obtain ⟨t, fr, h1⟩ := h.sz
 exact ⟨t, fr, by rw [k.block _ (Array.getElem?_eq_some_iff.1 h1).1]; exact h1⟩
theorem Gz.lt {w : World} (h : Gz w) : 0 < w.heap.size := by
 obtain ⟨t, fr, h1⟩ := h.sz
 exact (Array.getElem?_eq_some_iff.1 h1).1
theorem Gz.cells {w : World} (h : Gz w) : w.cell? ⟨0, 0, none⟩ = some (.int .i64 1) ∧ w.cell? ⟨0, 1, none⟩ = some (.int .i64 2) ∧ w.cell? ⟨0, 2, none⟩ = some (.int .i64 4) := by
 obtain ⟨t, fr, h1⟩ := h.sz
 simp [World.cell?, h1]
def nms (i : Nat) : List (List UInt8) := szL.map fun n => kdn i ++ dgs n
def nmL : List (List UInt8) := (List.range 8).flatMap nms
theorem left_mem {seen : Array Nat} {e : MapEntry} (h : InL (kent 8) seen e) : ∃ i, i < 8 ∧ e = ⟨.string (sb (kdn i)), kfv i, i⟩ ∧ i ∉ seen.toList := by
 unfold InL leftOf kent at h
 simp at h
 obtain ⟨⟨i, hi, rfl⟩, hs⟩ := h
 exact ⟨i, hi, rfl, by simpa using hs⟩
theorem left_none {seen : Array Nat} (h : NoL (kent 8) seen) : ∀ i, i < 8 → i ∈ seen.toList := by
 intro i hi
 have h1 : leftOf (kent 8) seen = #[] := Array.eq_empty_of_size_eq_zero h
 unfold leftOf at h1
 rw [Array.filter_eq_empty_iff] at h1
 have := h1 ⟨.string (sb (kdn i)), kfv i, i⟩ (by unfold kent; simp; exact ⟨i, hi, rfl, rfl, rfl⟩)
 simpa using this
theorem born_lt : ∀ x ∈ (kent 8).toList, x.born < 8 := by
 intro x hx
 unfold kent at hx
 simp at hx
 obtain ⟨i, hi, rfl⟩ := hx
 exact hi
theorem born_nodup : ((kent 8).toList.map (·.born)).Nodup := by
 have e : (kent 8).toList.map (·.born) = List.range 8 := by unfold kent; simp [List.map_map, Function.comp_def]
 rw [e]; exact List.nodup_range
theorem perm_all {l : List Nat} (hd : l.Nodup) (h8 : ∀ i ∈ l, i < 8) (ha : ∀ i, i < 8 → i ∈ l) : l.Perm (List.range 8) := by
 refine (List.perm_ext_iff_of_nodup hd List.nodup_range).2 fun a => ?_
 rw [List.mem_range]
 exact ⟨h8 a, ha a⟩
theorem nmL_sorted : nmL.Pairwise (fun x y => (decide (x ≤ y)) = true) := by decide +kernel
theorem sort_names {l : List Nat} (h : l.Perm (List.range 8)) : (l.flatMap nms).mergeSort (fun x y => decide (x ≤ y)) = nmL := by
 have p : ((l.flatMap nms).mergeSort (fun x y => decide (x ≤ y))).Perm nmL := (List.mergeSort_perm _ _).trans (h.flatMap_right nms)
 refine p.eq_of_pairwise (le := fun x y => decide (x ≤ y) = true) (fun a b _ _ h1 h2 => ?_) ?_ nmL_sorted
 · exact List.le_antisymm (of_decide_eq_true h1) (of_decide_eq_true h2)
 · have := List.pairwise_mergeSort (le := fun (x y : List UInt8) => decide (x ≤ y)) (fun a b c h1 h2 => decide_eq_true (List.le_trans (of_decide_eq_true h1) (of_decide_eq_true h2))) (fun a b => by
     rcases List.le_total a b with h | h
     · simp [h]
     · simp [h]) (l.flatMap nms)
   exact this
theorem cnt_le : ∀ (n : Nat) (l : List Nat), l.Nodup → (∀ i ∈ l, i < n) → l.length ≤ n
 | 0, l, _, h => by
   cases l with
   | nil => simp
   | cons a l => exact absurd (h a (by simp)) (by omega)
 | n + 1, l, hd, h => by
   have h1 := cnt_le n (l.erase n) (hd.erase n) (fun i hi => by
     have hm := (List.Nodup.mem_erase_iff hd).1 hi
     have := h i hm.2
     omega)
   have h2 : l.length ≤ (l.erase n).length + 1 := by
     rw [List.length_erase]; split <;> omega
   omega
theorem Tryz.infoStrR : (Tryz.prog.info? 9).map (fun i => (i.zero, i.size, i.bytes)) = some (some (.string ⟨#[]⟩), 1, 16) := by kernel_rfl
theorem Tryz.sizeInt1 : (Tryz.prog.info? 3).map (·.size) = some 1 := by kernel_rfl
theorem index_sz (k : Nat) (hk : k < 3) (w : World) : (Instr.index 121 (.agg #[.int .i64 1, .int .i64 2, .int .i64 4]) (.int .i64 (k : Int))).run Tryz.prog w = .ok (.int .i64 ((szL.getD k 0 : Nat) : Int)) w := by
 have h1 : 0 ≤ (k : Int) ∧ (k : Int) < 3 := by omega
 obtain ⟨i, hi, hs⟩ : ∃ i, Tryz.prog.info? 3 = some i ∧ i.size = 1 := by
   have := Tryz.sizeInt1
   cases e : Tryz.prog.info? 3 with
   | none => rw [e] at this; cases this
   | some i => rw [e] at this; exact ⟨i, rfl, by simpa using this⟩
 have h : (#[.int .i64 1, .int .i64 2, .int .i64 4] : Array Value)[k]? = some (.int .i64 ((szL.getD k 0 : Nat) : Int)) := by
   match k, hk with
   | 0, _ => rfl
   | 1, _ => rfl
   | 2, _ => rfl
 simp [Instr.index, run_underlying Tryz.underlying121, asIntOf, hk, part, sizeOf, typeInfo, hi, hs, h, go_sem]
 match k, hk with
 | 0, _ => rfl
 | 1, _ => rfl
 | 2, _ => rfl
theorem kpt_setBlock (w w1 : World) (h : Nx w w1) (r : Nat) (o : Obj) : Kpt (fun k => k = r) w (setBlock w1 r o) := by
 rcases h with rfl | rfl <;> exact ⟨rfl, rfl, rfl, by simp [setBlock], fun k hk hn => by simp [setBlock, Array.getElem?_setIfInBounds, show r ≠ k from fun e => hn e.symm]; try rfl⟩
theorem at_setBlock (w w1 : World) (h : Nx w w1) (r : Nat) (o : Obj) (hr : r < w.heap.size) : (setBlock w1 r o).heap[r]? = some o := by
 rcases h with rfl | rfl <;> simp [setBlock, Array.getElem?_setIfInBounds, hr]
theorem encStr_one (s : List UInt8) : ∀ u ∈ [encStr s], u.oneCell' = true := by intro u hu; simp at hu; subst hu; rfl
theorem fl_snoc (l : List Nat) (i : Nat) : (l ++ [i]).flatMap nms = l.flatMap nms ++ nms i := by simp
theorem nms_len (i : Nat) : (nms i).length = 3 := rfl
theorem fl_len (l : List Nat) : (l.flatMap nms).length = 3 * l.length := by
 induction l with
 | nil => rfl
 | cons a l ih => rw [List.flatMap_cons, List.length_append, ih, nms_len]; simp; omega
theorem kdn_len (i : Nat) (hi : i < 8) : (kdn i).length ≤ 4 := by
 have : ∀ i, i < 8 → (kdn i).length ≤ 4 := by decide
 exact this i hi
theorem szL_lt (k : Nat) : szL.getD k 0 < 100 := by
 match k with
 | 0 => decide
 | 1 => decide
 | 2 => decide
 | _ + 3 => simp [szL]
theorem nms_take (i k : Nat) (hk : k < 3) : (nms i).take (k + 1) = (nms i).take k ++ [kdn i ++ dgs (szL.getD k 0)] := by
 match k, hk with
 | 0, _ => rfl
 | 1, _ => rfl
 | 2, _ => rfl
theorem kpt_below {X : Nat → Prop} {a b c : World} (h : Kpt X a b) (k : Below a.heap.size b c) : Kpt X a c := ⟨k.os.trans h.os, k.tape.trans h.tape, k.output.trans h.output, Nat.le_trans h.size k.size, fun n hn hx => (k.block n hn).trans (h.block n hn hx)⟩
theorem grow_below (u : World) (os : Array Obj) : Below u.heap.size u (Sort.grow u os) := ⟨rfl, rfl, rfl, by simp [Sort.grow], fun k hk => by simp [Sort.grow, Array.getElem?_append_left hk]⟩
theorem names_any (w : World) (G : Gz w) : Calls Tryz.prog 59 #[] w fun e w' => ∃ v, e = .returned v ∧ Lies w' 1 v nmL.length (nmL.map encStr) ∧ Below w.heap.size w w' ∧ ∀ c, v.ownBlock = some c → w.heap.size ≤ c := by
 obtain ⟨i0, hi, hz0, hz1, hz2⟩ := info_parts Tryz.infoStrR
 have KA := zH (rkinds_any w)
 have ka1 : Below w.heap.size w (w.alloc (.map (kent 8) 8)) := below_a w _
 have ka2 : Below (w.alloc (.map (kent 8) 8)).heap.size (w.alloc (.map (kent 8) 8)) ((w.alloc (.map (kent 8) 8)).alloc (.mapIter (some w.heap.size) 8 #[] 8)) := below_a _ _
 have RNG := run_range_map (P := Tryz.prog) (w.alloc (.map (kent 8) 8)) 119 9 126 w.heap.size (kent 8) 8 Tryz.underlying119 (heapNewR _ _)
 have hb0 := zH ((ka2.block w.heap.size (by simp)).trans (heapNewR w (.map (kent 8) 8)))
 have hr0 := zH (heapNewR (w.alloc (.map (kent 8) 8)) (.mapIter (some w.heap.size) 8 #[] 8))
 have K1 := zH (btR ka1 ka2)
 have HG := zH G
 simp only [World.size_alloc] at RNG hr0
 have s1 : ((w.alloc (.map (kent 8) 8)).alloc (.mapIter (some w.heap.size) 8 #[] 8)).heap.size = w.heap.size + 2 := by simp
 have S1 := zH s1
 clear G ka1 ka2 s1
 have HLM := zH (fun (seen : Array Nat) (e : MapEntry) h => left_mem (seen := seen) (e := e) h)
 have HLN := zH (fun (seen : Array Nat) h => left_none (seen := seen) h)
 have HBL := zH born_lt
 have HBN := zH born_nodup
 have HKI := zH (fun i (hi : i < 8) => show (⟨.string (sb (kdn i)), kfv i, i⟩ : MapEntry) ∈ (kent 8).toList by unfold kent; simp; exact ⟨i, hi, rfl, rfl, rfl⟩)
 generalize kent 8 = ke at *
 go_enter Tryz.func59, Tryz.ntmps59
 go_wp2_with fail
 refine (uI KA).mono ?_
 rintro e wq ⟨rfl, hq⟩
 subst wq
 clear KA
 go_wp2_with fail
 clear RNG
 generalize (w.alloc (.map ke 8)).alloc (.mapIter (some w.heap.size) 8 #[] 8) = w1 at *
 go_loopg [1] 8 (fun gm vn wr => ∃ (seen : Array Nat) (c0 : Nat), gm = 8 - seen.size ∧ 8 ≤ c0 ∧ Hid (seen.toList.Nodup ∧ ∀ i ∈ seen.toList, i < 8) ∧ Hid (wr.heap[w.heap.size + 1]? = some (.mapIter (some w.heap.size) 8 seen c0)) ∧ Hid (wr.heap[w.heap.size]? = some (.map ke 8)) ∧ Hid (wr.ownsRow w1.heap.size 9 1 vn (seen.toList.flatMap nms).length ((seen.toList.flatMap nms).map encStr)) ∧ Hid (Kpt (fun k => k = w.heap.size + 1) w1 wr))
 case atStart => exact ⟨#[], 8, rfl, Nat.le_refl _, ⟨by simp, by simp⟩, hr0, hb0, World.ownsRow_nil _ _ _ _, Kpt.refl _ _⟩
 case round =>
   obtain ⟨seen, c0, hgm, hc0, HS, HR, HM, HO, HK⟩ := hrel
   clear hr0 hb0
   go_wp2_with (at_next; refine wpList_nextK rfl _ rfl (w.heap.size + 1) w.heap.size 8 c0 seen ke 8 rfl (uI HR) (uI HM) (uI HBL) hc0 ?_ ?_)
   · intro hz
     have hp := perm_all (uI HS).1 (uI HS).2 (uI HLN seen hz)
     have hsl : seen.toList.length = 8 := by have := hp.length_eq; simpa using this
     have HSN := zH (sort_names hp)
     have hl24 : (seen.toList.flatMap nms).length = 24 := by rw [fl_len, hsl]
     clear HR HM HLM HLN HBL HBN HKI
     generalize seen.toList.flatMap nms = ns at *
     obtain ⟨g, cap, rfl, hbg, hgl, hnc, hcm, -, hH⟩ := Lib.holds_of_ownsRow (uI HO) (by
       intro e
       rcases (uI HO).2 with ⟨_, h0⟩ | ⟨g, cap, cur, hv, _⟩
       · omega
       · rw [e] at hv; cases hv)
     have SRT := zH (Tryz.slices_Sort_string g 0 cap ns wr hH hgl (by omega))
     rw [uI HSN] at SRT
     have OW := zH (fun q => Lib.ownsRow_putRow (q := q) (k := ns.length) (ys := nmL) (uI HO) (by rw [hl24]; rfl) (Nat.le_refl _))
     have hw1 := uI S1
     have KB := zH ((uI K1).trans ((uI HK).below (B := w.heap.size) (by omega) (fun n hn => by omega)))
     have HL24 := zH hl24
     clear hH hz hp hsl HSN hl24
     go_wp2_with fail
     refine (uI SRT).mono ?_
     rintro e w3 ⟨rfl, q, os, rfl⟩
     have kg : Below (Sort.putRow encStr (Sort.ahead wr q) g 0 nmL.toArray).heap.size (Sort.putRow encStr (Sort.ahead wr q) g 0 nmL.toArray) (Sort.grow (Sort.putRow encStr (Sort.ahead wr q) g 0 nmL.toArray) os) := grow_below _ os
     have KP := zH (btR (Lib.below_putRow (enc := encStr) (g := g) (q := q) (d := nmL.toArray) (uI KB) (by omega)) kg)
     have LS := zH (Lies.step (Lies.owned (uI OW q)) kg)
     clear kg SRT OW
     generalize Sort.grow (Sort.putRow encStr (Sort.ahead wr q) g 0 nmL.toArray) os = w4 at *
     go_wp2_with fail
     go_ret
     have ez : ns.length = nmL.length := by rw [uI HL24]; rfl
     have lz := uI LS
     rw [ez, List.take_length] at lz
     refine ⟨_, rfl, ?_, uI KP, fun c hc => ?_⟩
     rotate_left
     · have hc' : (Value.slice (some ⟨g, 0, none⟩) ns.length cap).ownBlock = some c := hc
       simp [Value.ownBlock] at hc'
       omega
     show Lies w4 1 (.slice (some ⟨g, 0, none⟩) ns.length cap) nmL.length _
     rw [ez]
     exact lz
   · intro e he w2 hw2
     obtain ⟨i, hi8, rfl, hns⟩ := uI HLM seen e he
     dsimp only
     have hw1 := uI S1
     have hrl : w.heap.size + 1 < wr.heap.size := (Array.getElem?_eq_some_iff.1 (uI HR)).1
     have kS := kpt_setBlock wr w2 hw2 (w.heap.size + 1) (.mapIter (some w.heap.size) 8 (seen.push i) 8)
     have HR2 := zH (at_setBlock wr w2 hw2 (w.heap.size + 1) (.mapIter (some w.heap.size) 8 (seen.push i) 8) hrl)
     have HM2 := zH ((kS.block w.heap.size (by omega) (by omega)).trans (uI HM))
     have HO2 := zH (own_kpt (uI HO) kS (fun c hc e => by have := ((uI HO).lt c hc).1; omega))
     have HK2 := zH ((uI HK).trans kS (fun _ h => h) (fun _ h _ => h))
     have ENT := run_entry_at (P := Tryz.prog) (setBlock w2 (w.heap.size + 1) (.mapIter (some w.heap.size) 8 (seen.push i) 8)) (w.heap.size + 1) w.heap.size 8 seen ke 8 ⟨.string (sb (kdn i)), kfv i, i⟩ (uI HR2) (uI HM2) (uI HKI i hi8) (uI HBN)
     have HS2 : Hid ((seen.push i).toList.Nodup ∧ ∀ j ∈ (seen.push i).toList, j < 8) := by
       refine ⟨?_, fun j hj => ?_⟩
       · rw [Array.toList_push]
         exact List.nodup_append.2 ⟨(uI HS).1, by simp, fun a ha b hb => by simp at hb; subst hb; exact fun e => hns (e ▸ ha)⟩
       · rw [Array.toList_push] at hj
         rcases List.mem_append.1 hj with h | h
         · exact (uI HS).2 j h
         · simp at h; omega
     have hsz : (seen.push i).size ≤ 8 := by have := cnt_le 8 _ (uI HS2).1 (uI HS2).2; simpa using this
     have hlt8 : seen.size < 8 := by simp at hsz; omega
     have hG0 := uI HG
     have hgl := hG0.lt
     have hG1 : Gz (setBlock w2 (w.heap.size + 1) (.mapIter (some w.heap.size) 8 (seen.push i) 8)) := hG0.step ((uI K1).trans ((uI HK2).below (B := w.heap.size) (by omega) (fun n hn => by omega)))
     obtain ⟨q0, q1, q2⟩ := hG1.cells
     clear HR HM HO HK kS hG0 hG1 HLM HLN HBL
     generalize setBlock w2 (w.heap.size + 1) (.mapIter (some w.heap.size) 8 (seen.push i) 8) = W2 at *
     unfold kfv at ENT
     unfold kfv
     dsimp only at ENT
     have hacc : (seen.toList.flatMap nms).length ≤ 24 := by rw [fl_len]; simp; omega
     have FLS := zH (fl_snoc seen.toList i)
     generalize seen.toList.flatMap nms = acc at *
     go_wp2_with fail
     go_loopg [1, 12] 3 (fun gm vn t wr => ∃ (k : Nat), k ≤ 3 ∧ gm = 3 - k ∧ t = .int .i64 (k : Int) ∧ Hid (wr.ownsRow w1.heap.size 9 1 vn (acc ++ (nms i).take k).length ((acc ++ (nms i).take k).map encStr)) ∧ Hid (Below w1.heap.size W2 wr))
     case atStart => exact ⟨0, Nat.zero_le _, rfl, rfl, by simpa using HO2, Below.refl _ _⟩
     case round =>
       obtain ⟨k, hk, hgk, rfl, HOk, HBk⟩ := hrel
       generalize wr = W3 at *
       clear HO2
       have hkl : ((nms i).take k).length ≤ 3 := by rw [List.length_take, nms_len]; omega
       have hwl := (uI HBk).size
       have hw2l := (uI HK2).size
       by_cases hlt : k < 3
       · have IX := fun W => index_sz k hlt W
         have RN := zH (fun W => rnamed_any (kdn i) (szL.getD k 0) (szL_lt k) (by have := kdn_len i hi8; omega) W)
         have NT := zH (nms_take i k hlt)
         have hkI : (k : Int) < 3 := by omega
         have hk0 : (0 : Int) ≤ (k : Int) := by omega
         generalize szL.getD k 0 = sz at *
         go_wp2_with fail
         refine (uI RN _).mono ?_
         rintro e wq ⟨rfl, hq⟩
         subst wq
         clear RN
         go_wp2_with (at_builtin; refine wpList_append_own _ rfl (.tmp 15) (.tmp 19) 96 rfl w1.heap.size 9 i0 (.string ⟨#[]⟩) 1 16 Tryz.underlying96 hi hz0 hz1 hz2 rfl (by decide) _ _ _ rfl ((uI HOk).alloc _) ⟨_, 0, none⟩ 1 1 [.string (sb (kdn i ++ dgs sz))] rfl rfl (bt_c1 _ _ _) (encStr_one _) (by unfold maxLen; simp; omega) (by simp; omega) (by simp; omega) ?_; intro v5 w5 own5 grow5 _; have O5 := zH own5; have K5 := zH (below_own ((uI HBk).alloc (by omega) _) (by simp; omega) ((uI HOk).alloc _) grow5); clear own5 grow5)
         go_roundg (3 - (k + 1))
         case measure => omega
         case rel =>
           refine ⟨k + 1, by omega, rfl, by go_num, ?_, K5⟩
           rw [uI NT, ← List.append_assoc, List.length_append, List.map_append]
           exact O5
       · have hkI : ¬ (k : Int) < 3 := by omega
         have HKE := zH (show k = 3 by omega)
         go_wp2_with fail
         go_roundg (8 - (seen.push i).size)
         case measure => simp; omega
         case rel =>
           have b1 := uI HBk
           have e3 : acc ++ (nms i).take k = (seen.push i).toList.flatMap nms := by
             rw [Array.toList_push, uI FLS, uI HKE]; rfl
           have o3 := uI HOk
           rw [e3] at o3
           refine ⟨seen.push i, 8, rfl, Nat.le_refl _, HS2, ?_, ?_, o3, kpt_below (uI HK2) b1⟩
           · exact (b1.block _ (by omega)).trans (uI HR2)
           · exact (b1.block _ (by omega)).trans (uI HM2)
end Go.Proofs.YtlkoidkdeopgjaaGreatDoor
