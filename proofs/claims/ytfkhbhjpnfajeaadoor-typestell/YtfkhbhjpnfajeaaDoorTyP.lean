/-
  Types of numbers: what Named answers, and that names tell types.
-/
import Derived.Test.YtfkhbhjpnfajeaaDoorTyK
namespace Go.Proofs.YtfkhbhjpnfajeaaDoor
open Go.RowKit
set_option linter.unusedSimpArgs false
set_option linter.unusedVariables false

def nb (s : ByteArray) : Int := match look tab s with | some r => r.1 | none => 0
def ng (s : ByteArray) : Bool := match look tab s with | some r => r.2 | none => false
def nk (s : ByteArray) : Bool := (look tab s).isSome
theorem zeroT (w : World) : (zeroValue 23).run Tryd.prog w = .ok (.agg #[.int .i64 0, .bool false]) w := by kernel_rfl
theorem run_look (w : World) (b : Nat) (s : ByteArray) (h : w.heap[b]? = some (.map (ent 8) 8)) : (Instr.lookup 51 (.map (some b)) (.string s) true).run Tryd.prog w = .ok (.tuple #[.agg #[.int .i64 (nb s), .bool (ng s)], .bool (nk s)]) w := by
  obtain ⟨m, hm⟩ := find_look s tab 0 0
  have hf : Instr.findNow .string (.string s) (ent 8).toList 0 = some ((look tab s).map fun r => (m, .agg #[.int .i64 r.1, .bool r.2])) := hm
  unfold Instr.lookup
  simp only [Sem.run_bind, run_underlying Tryd.underlying51, Result.andThen, Go.MapKept.run_getObj_map h, Sem.run_pure, Go.MapKept.run_checkKey Tryd.underlying9 (show Go.MapKept.IsKey .string (.string s) from trivial), Go.MapKept.run_findKey Tryd.underlying9 hf]
  unfold nb ng nk
  cases look tab s with
  | none => simp [zeroT, Result.andThen]
  | some r => simp
set_option maxHeartbeats 1000000 in
theorem named_any (s : ByteArray) (w : World) : Calls Tryd.prog 12 #[.string s] w fun e w' => e = .returned (.tuple #[.agg #[.int .i64 (nb s), .bool (ng s)], .bool (nk s)]) ∧ Below w.heap.size w w' := by
  have HL : Hid (∀ u : World, (Instr.lookup 51 (.map (some u.heap.size)) (.string s) true).run Tryd.prog (u.alloc (.map (ent 8) 8)) = .ok (.tuple #[.agg #[.int .i64 (nb s), .bool (ng s)], .bool (nk s)]) (u.alloc (.map (ent 8) 8))) := fun u => run_look _ _ s (heapNew _ _)
  generalize nb s = B at *
  generalize ng s = G at *
  generalize nk s = K at *
  go_enter Tryd.func12, Tryd.ntmps12
  go_wp2_with fail
  have hl := unhide HL (w.alloc (.cells #[.int .i64 0, .bool false] 23))
  have k1 := below_a w (.cells #[.int .i64 0, .bool false] 23)
  have k2 := below_a (w.alloc (.cells #[.int .i64 0, .bool false] 23)) (.map (ent 8) 8)
  refine (byName_any _).mono ?_
  rintro e w1 ⟨rfl, rfl⟩
  have R := hide ((Box.new w #[.int .i64 0, .bool false] 23).step k2)
  have KB := hide (bT k1 k2)
  clear k1 k2 HL
  simp only [World.size_alloc] at hl
  generalize (w.alloc (.cells #[.int .i64 0, .bool false] 23)).alloc (.map (ent 8) 8) = w2 at *
  have lw := (unhide R).1
  obtain ⟨x0, x1⟩ := (unhide R).at2
  have xf := (unhide R).2.2
  go_wp2_with fail
  obtain ⟨p0, p1⟩ := (((unhide R).put (.int .i64 B) (.bool G)).step (below_a _ (.cells #[.int .i64 B, .bool G] 23))).at2
  exact bodyPost_ret (v := .tuple #[.agg #[.int .i64 B, .bool G], .bool K]) (by simp [results, Tryd.results12, go_sem, p0, p1]) rfl ⟨rfl, bT (below_2 (unhide KB) (Nat.le_refl _) _ _) (below_a _ _)⟩

theorem named_name {b : Int} (h : IsW b) (s : Bool) : nb (nmT b s) = b ∧ ng (nmT b s) = s ∧ nk (nmT b s) = true := by
  rcases h with rfl | rfl | rfl | rfl <;> cases s <;> exact ⟨by kernel_rfl, by kernel_rfl, by kernel_rfl⟩
theorem look_name {s : ByteArray} : ∀ {l : Tab}, (∀ p ∈ l, IsW p.2.1 ∧ nmT p.2.1 p.2.2 = p.1) → ∀ r, look l s = some r → IsW r.1 ∧ nmT r.1 r.2 = s
  | [], _, r, h => by cases h
  | (k, b, g) :: l, hl, r, h => by
    unfold look at h
    by_cases e : (s == k) = true
    · rw [if_pos e] at h
      have e' : s = k := (Go.MapKept.bytes_beq s k).1 e
      have := hl (k, b, g) (by simp)
      cases h
      exact ⟨this.1, this.2.trans e'.symm⟩
    · rw [if_neg e] at h
      exact look_name (fun p hp => hl p (by simp [hp])) r h
theorem tab_ok : ∀ p ∈ tab, IsW p.2.1 ∧ nmT p.2.1 p.2.2 = p.1 := by
  intro p hp
  simp only [tab, List.mem_cons, List.not_mem_nil, or_false] at hp
  rcases hp with rfl | rfl | rfl | rfl | rfl | rfl | rfl | rfl
  · exact ⟨.inl rfl, by kernel_rfl⟩
  · exact ⟨.inl rfl, by kernel_rfl⟩
  · exact ⟨.inr (.inl rfl), by kernel_rfl⟩
  · exact ⟨.inr (.inl rfl), by kernel_rfl⟩
  · exact ⟨.inr (.inr (.inl rfl)), by kernel_rfl⟩
  · exact ⟨.inr (.inr (.inl rfl)), by kernel_rfl⟩
  · exact ⟨.inr (.inr (.inr rfl)), by kernel_rfl⟩
  · exact ⟨.inr (.inr (.inr rfl)), by kernel_rfl⟩
theorem named_yes {s : ByteArray} (h : nk s = true) : IsW (nb s) ∧ nmT (nb s) (ng s) = s := by
  unfold nk at h
  unfold nb ng
  cases e : look tab s with
  | none => rw [e] at h; cases h
  | some r => exact look_name tab_ok r e
end Go.Proofs.YtfkhbhjpnfajeaaDoor
