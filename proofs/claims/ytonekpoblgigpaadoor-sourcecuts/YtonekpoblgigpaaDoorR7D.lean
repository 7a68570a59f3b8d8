/-
  The document's answer on types of numbers: how a type is written.
-/
import Derived.Test.YtonekpoblgigpaaDoorTyK
import Derived.Test.YtonekpoblgigpaaDoorR7A
namespace Go.Proofs.YtonekpoblgigpaaDoor
open Go.RowKit
set_option linter.unusedSimpArgs false
set_option linter.unusedVariables false

abbrev TabI := List (Int × ByteArray)
def tabI : TabI := [(8, ⟨#[56]⟩), (16, ⟨#[49, 54]⟩), (32, ⟨#[51, 50]⟩), (64, ⟨#[54, 52]⟩)]
def entI (n : Nat) : Array MapEntry := ((tabI.take n).zipIdx.map fun p => (⟨.int .i64 p.1.1, .string p.1.2, p.2⟩ : MapEntry)).toArray
theorem run_putI (w : World) (n : Nat) (k : Int) (s : ByteArray) (hn : entI (n + 1) = (entI n).push ⟨.int .i64 k, .string s, n⟩) (hf : Instr.findNow (.int .i64) (.int .i64 k) (entI n).toList 0 = some none) :
    (Instr.mapUpdate 59 (.map (some w.heap.size)) (.int .i64 k) (.string s)).run Tryd.prog (w.alloc (.map (entI n) n)) = .ok () (w.alloc (.map (entI (n + 1)) (n + 1))) := by
  have hb : (w.alloc (.map (entI n) n)).heap[w.heap.size]? = some (.map (entI n) n) := heapNew _ _
  unfold Instr.mapUpdate
  simp only [Sem.run_bind, run_underlying Tryd.underlying59, Result.andThen, Go.MapKept.run_getObj_map hb, Go.MapKept.run_checkKey Tryd.underlying3 (show Go.MapKept.IsKey (.int .i64) (.int .i64 k) from rfl), Go.MapKept.run_findKey Tryd.underlying3 hf, Go.MapKept.run_setObj_map _ hb]
  rw [alloc_set, hn]
theorem run_lookI (w : World) (b : Int) (h : IsW b) : (Instr.lookup 59 (.map (some w.heap.size)) (.int .i64 b) false).run Tryd.prog (w.alloc (.map (entI 4) 4)) = .ok (.string ⟨dgT b⟩) (w.alloc (.map (entI 4) 4)) := by
  have hb : (w.alloc (.map (entI 4) 4)).heap[w.heap.size]? = some (.map (entI 4) 4) := heapNew _ _
  have hf : ∃ j, Instr.findNow (.int .i64) (.int .i64 b) (entI 4).toList 0 = some (some (j, .string ⟨dgT b⟩)) := by
    rcases h with rfl | rfl | rfl | rfl
    · exact ⟨0, by kernel_rfl⟩
    · exact ⟨1, by kernel_rfl⟩
    · exact ⟨2, by kernel_rfl⟩
    · exact ⟨3, by kernel_rfl⟩
  obtain ⟨j, hf⟩ := hf
  unfold Instr.lookup
  simp only [Sem.run_bind, run_underlying Tryd.underlying59, Result.andThen, Go.MapKept.run_getObj_map hb, Sem.run_pure, Go.MapKept.run_checkKey Tryd.underlying3 (show Go.MapKept.IsKey (.int .i64) (.int .i64 b) from rfl), Go.MapKept.run_findKey Tryd.underlying3 hf]
  rfl
set_option maxRecDepth 100000 in
set_option maxHeartbeats 1000000 in
theorem rname_yes (b : Int) (s : Bool) (w : World) (h : IsW b) : Calls Tryd.prog 21 #[.agg #[.int .i64 b, .bool s]] w fun e w' => e = .returned (.string (nmT b s)) ∧ Below w.heap.size w w' := by
  have HV := hide (fun (w : World) => rvalid7_yes b s w h)
  have h0 : (b == 0) = false := by rcases h with rfl | rfl | rfl | rfl <;> decide
  have hD : ¬ (9223372036854775807 < 1 + (dgT b).size) := by rcases h with rfl | rfl | rfl | rfl <;> decide
  have HL := hide (fun w => run_lookI w b h)
  have hmm : ∀ w : World, (Instr.makeMap 59 none).run Tryd.prog w = .ok (.map (some w.heap.size)) (w.alloc (.map (entI 0) 0)) := fun w => rfl
  have H0 := hide (fun w => run_putI w 0 8 ⟨#[56]⟩ (by kernel_rfl) (by kernel_rfl))
  have H1 := hide (fun w => run_putI w 1 16 ⟨#[49, 54]⟩ (by kernel_rfl) (by kernel_rfl))
  have H2 := hide (fun w => run_putI w 2 32 ⟨#[51, 50]⟩ (by kernel_rfl) (by kernel_rfl))
  have H3 := hide (fun w => run_putI w 3 64 ⟨#[54, 52]⟩ (by kernel_rfl) (by kernel_rfl))
  cases s
  all_goals
    unfold nmT
    generalize dgT b = D at *
    go_enter Tryd.func21, Tryd.ntmps21
    go_wp2_with fail
    refine (unhide HV _).mono ?_
    rintro e w1 ⟨rfl, k1⟩
    have R1 := hide ((Box.new w #[_, _] 31).step k1)
    obtain ⟨x0, x1⟩ := (unhide R1).at2
    have lw := (unhide R1).1
    have hl := unhide HL w1
    have h0' := unhide H0 w1
    have h1' := unhide H1 w1
    have h2' := unhide H2 w1
    have h3' := unhide H3 w1
    simp only [Nat.reduceAdd] at h0' h1' h2' h3'
    generalize entI 0 = e0 at *
    generalize entI 1 = e1 at *
    generalize entI 2 = e2 at *
    generalize entI 3 = e3 at *
    generalize entI 4 = e4 at *
    go_wp2_with fail
    go_ret
    exact ⟨rfl, bT (below_a _ _) (bT k1 (below_a _ _))⟩
theorem rname_no (b : Int) (s : Bool) (w : World) (h : NoW b) : Calls Tryd.prog 21 #[.agg #[.int .i64 b, .bool s]] w fun e w' => e = .returned (.string (if b = 0 then ⟨#[118, 111, 105, 100]⟩ else ⟨#[]⟩)) ∧ Below w.heap.size w w' := by
  have HV := hide (fun (w : World) => rvalid7_no b s w h)
  by_cases hb : b = 0
  · subst hb
    go_enter Tryd.func21, Tryd.ntmps21
    go_wp2
    go_ret
    exact ⟨rfl, below_a _ _⟩
  · rw [if_neg hb]
    have h0 : (b == 0) = false := beq_eq_false_iff_ne.2 hb
    go_enter Tryd.func21, Tryd.ntmps21
    go_wp2_with (go_at_call 30; refine (unhide HV _).mono ?_; rintro e w1 ⟨rfl, k1⟩)
    go_ret
    exact ⟨rfl, bT (below_a _ _) k1⟩
theorem bl_ne {a b : ByteArray} (h : a ≠ b) : (a.toList == b.toList) = false := by
  rw [← beq_toListBytes]
  cases e : (a == b)
  · rfl
  · exact absurd ((Go.MapKept.bytes_beq a b).1 e) h
theorem named_none {z : ByteArray} (h : ∀ b s, IsW b → nmT b s ≠ z) : nb z = 0 ∧ ng z = false ∧ nk z = false := by
  cases e : nk z
  · unfold nk at e
    unfold nb ng
    cases e' : look tab z with
    | none => exact ⟨rfl, rfl, rfl⟩
    | some r => rw [e'] at e; cases e
  · obtain ⟨h1, h2⟩ := named_yes e
    exact absurd h2 (h _ _ h1)
end Go.Proofs.YtonekpoblgigpaaDoor
