/-
  Numbers of any size: words of two's complement, of numbers that are not below 0.
-/
import Derived.Test.YtfkhbhjpnfajeaaBigL
import Derived.Test.YtfkhbhjpnfajeaaBigM0
import Derived.Test.YtfkhbhjpnfajeaaBigD
import Derived.Laws.Bits64
import Derived.Laws.Bits64b
namespace Go.Proofs.Ytfkhbhjpnfajeaa
open Go.RowKit
set_option linter.unusedSimpArgs false
set_option linter.unusedVariables false

theorem made_new (w : World) (n : Nat) : (w.alloc (.cells (madeCells #[.int .u32 0] n) 69)).heap[w.heap.size]? = some (.cells (List.replicate n (Value.int .u32 0)).toArray 69 (0, 0)) := by
  have hm : madeCells #[.int .u32 0] n = (List.replicate n (Value.int .u32 0)).toArray := by
    apply Array.ext'
    have : (fun x : Nat => ([Value.int IntKind.u32 0][x % 1]?).getD default) = fun _ => Value.int IntKind.u32 0 := by funext x; simp [Nat.mod_one]
    simp [madeCells, this, List.map_const']
  rw [hm]
  show (w.heap.push _)[w.heap.size]? = _
  simp
set_option maxHeartbeats 1000000 in
theorem low_any (q : Nat) (w : World) (ao : Option Addr) (cap n : Nat) (L : List Int) (c0 : w.cell? ⟨q, 0, none⟩ = some (.bool false)) (c1 : w.cell? ⟨q, 1, none⟩ = some (.slice ao L.length cap)) (hq : q < w.heap.size) (hr : Row w (.slice ao L.length cap) L) (hn : L.length ≤ n) (hn2 : n ≤ 900) :
    Calls Try.prog 58 #[.pointer (some ⟨q, 0, none⟩), .int .i64 n] w fun e w' => e = .returned (.slice (some ⟨w.heap.size, 0, none⟩) n n) ∧ Below w.heap.size w w' ∧ Own32 w' w.heap.size (L ++ List.replicate (n - L.length) 0) := by
  obtain ⟨ao', cap', he, -, -, -, hU4, hU5, hU6⟩ := hr.at
  obtain ⟨rfl, rfl⟩ : ao' = ao ∧ cap' = cap := by cases he; exact ⟨rfl, rfl⟩
  clear he
  have k0 := below_a w (.cells (madeCells #[.int .u32 0] n) 69)
  have g0 := hide (made_new w n)
  have HU5 := hide hU5
  have HU6 := hide (fun d (e : ao' = some ⟨d, 0, none⟩) j (hj : j < L.length) => cell_keep k0 (hU4 d 0 none e).2.2 (hU6 d e j hj))
  have d0 := cell_keep k0 hq c0
  have d1 := cell_keep k0 hq c1
  have K0 := hide k0
  have hmk := make32 n (by omega)
  clear k0 hU4 hU5 hU6 hr
  go_enter Try.func58, Try.ntmps58
  go_wp2_with (refine wpList_copy_splice rfl (.tmp 10) (.tmp 14) 44 44 rfl 69 Try.underlying44 Try.sizeU32 (some ⟨w.heap.size, 0, none⟩) ao' n n L.length cap' rfl rfl w.heap.size 0 (List.replicate n (Value.int .u32 0)) 69 (unhide g0) (L.map u32v) (by rw [List.length_map]; exact (Nat.min_eq_left (by omega)).symm) (hpu_of (unhide HU5) (unhide HU6)) (by rw [List.length_map, List.length_replicate]; omega) (u32_one _) w.heap.size w (unhide K0) (Nat.le_refl _) ?_; intro w5 g5 k5; have K5 := hide k5; have O5 := hide (own_splice g5 (by omega)); have e0 := k5.cell (p := ⟨q, 0, none⟩) hq; rw [c0] at e0; clear g5 k5)
  go_ret
  exact ⟨rfl, unhide K5, unhide O5⟩
end Go.Proofs.Ytfkhbhjpnfajeaa
