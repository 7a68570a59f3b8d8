/-
  Writing: the document's answer: which kind a sign has at a level.
-/
import Derived.Test.YtbakhengcgclmaaGreatDoorSwYz
namespace Go.Proofs.YtbakhengcgclmaaGreatDoor
open Go.RowKit Go.Great
set_option linter.unusedSimpArgs false
set_option linter.unusedVariables false

/-- Memory that is made one by one. -/
def allocs : World → List Obj → World
  | w, [] => w
  | w, o :: os => allocs (w.alloc o) os
theorem allocs_below : ∀ (os : List Obj) (w : World), Below w.heap.size w (allocs w os)
  | [], _ => Below.refl _ _
  | o :: os, w => bT (below_a w o) (allocs_below os _)
theorem allocs_size : ∀ (os : List Obj) (w : World), (allocs w os).heap.size = w.heap.size + os.length
  | [], _ => rfl
  | o :: os, w => by rw [allocs, allocs_size os, World.size_alloc, List.length_cons]; omega
theorem allocs_at : ∀ (os : List Obj) (w : World) (k : Nat) (o : Obj), os[k]? = some o → (allocs w os).heap[w.heap.size + k]? = some o
  | [], _, k, o, h => by simp at h
  | a :: os, w, 0, o, h => by
    have e : a = o := by simpa using h
    subst e
    rw [allocs, (allocs_below os _).block _ (by simp)]
    show (w.heap.push a)[w.heap.size]? = _
    simp
  | a :: os, w, k + 1, o, h => by
    have := allocs_at os (w.alloc a) k o (by simpa using h)
    rw [allocs]
    rw [World.size_alloc] at this
    rw [show w.heap.size + (k + 1) = w.heap.size + 1 + k by omega]
    exact this
theorem allocs_cell (os : List Obj) (w : World) (k : Nat) (cs : Array Value) (T : TypeId) (j : Nat) (v : Value) (h : os[k]? = some (.cells cs T (0, 0))) (hv : cs[j]? = some v) : (allocs w os).cell? ⟨w.heap.size + k, j, none⟩ = some v := by
  rw [Lib.cell_of_heap (allocs_at os w k _ h)]
  exact hv
/-- The memory that Binary makes. -/
def binO (n : Nat) : List Obj := [.cells #[.string ⟨#[124, 124]⟩] 9, .cells #[.string ⟨#[38, 38]⟩] 9, .cells #[.string ⟨#[124]⟩] 9, .cells #[.string ⟨#[94]⟩] 9, .cells #[.string ⟨#[38]⟩] 9, .cells #[.string ⟨#[61, 61]⟩, .string ⟨#[33, 61]⟩] 9, .cells #[.string ⟨#[60]⟩, .string ⟨#[60, 61]⟩, .string ⟨#[62]⟩, .string ⟨#[62, 61]⟩] 9, .cells #[.string ⟨#[60, 60]⟩, .string ⟨#[62, 62]⟩] 9, .cells #[.string ⟨#[43]⟩, .string ⟨#[45]⟩] 9, .cells #[.string ⟨#[42]⟩, .string ⟨#[47]⟩, .string ⟨#[37]⟩] 9, .cells #[.slice (some ⟨n, 0, none⟩) 1 1, .slice (some ⟨n + 1, 0, none⟩) 1 1, .slice (some ⟨n + 1 + 1, 0, none⟩) 1 1, .slice (some ⟨n + 1 + 1 + 1, 0, none⟩) 1 1, .slice (some ⟨n + 1 + 1 + 1 + 1, 0, none⟩) 1 1, .slice (some ⟨n + 1 + 1 + 1 + 1 + 1, 0, none⟩) 2 2, .slice (some ⟨n + 1 + 1 + 1 + 1 + 1 + 1, 0, none⟩) 4 4, .slice (some ⟨n + 1 + 1 + 1 + 1 + 1 + 1 + 1, 0, none⟩) 2 2, .slice (some ⟨n + 1 + 1 + 1 + 1 + 1 + 1 + 1 + 1, 0, none⟩) 2 2, .slice (some ⟨n + 1 + 1 + 1 + 1 + 1 + 1 + 1 + 1 + 1, 0, none⟩) 3 3] 87, .cells #[.int .i64 26] 3, .cells #[.int .i64 25] 3, .cells #[.int .i64 24] 3, .cells #[.int .i64 23] 3, .cells #[.int .i64 22] 3, .cells #[.int .i64 20, .int .i64 21] 3, .cells #[.int .i64 16, .int .i64 17, .int .i64 18, .int .i64 19] 3, .cells #[.int .i64 14, .int .i64 15] 3, .cells #[.int .i64 12, .int .i64 13] 3, .cells #[.int .i64 9, .int .i64 10, .int .i64 11] 3, .cells #[.slice (some ⟨n + 1 + 1 + 1 + 1 + 1 + 1 + 1 + 1 + 1 + 1 + 1, 0, none⟩) 1 1, .slice (some ⟨n + 1 + 1 + 1 + 1 + 1 + 1 + 1 + 1 + 1 + 1 + 1 + 1, 0, none⟩) 1 1, .slice (some ⟨n + 1 + 1 + 1 + 1 + 1 + 1 + 1 + 1 + 1 + 1 + 1 + 1 + 1, 0, none⟩) 1 1, .slice (some ⟨n + 1 + 1 + 1 + 1 + 1 + 1 + 1 + 1 + 1 + 1 + 1 + 1 + 1 + 1, 0, none⟩) 1 1, .slice (some ⟨n + 1 + 1 + 1 + 1 + 1 + 1 + 1 + 1 + 1 + 1 + 1 + 1 + 1 + 1 + 1, 0, none⟩) 1 1, .slice (some ⟨n + 1 + 1 + 1 + 1 + 1 + 1 + 1 + 1 + 1 + 1 + 1 + 1 + 1 + 1 + 1 + 1, 0, none⟩) 2 2, .slice (some ⟨n + 1 + 1 + 1 + 1 + 1 + 1 + 1 + 1 + 1 + 1 + 1 + 1 + 1 + 1 + 1 + 1 + 1, 0, none⟩) 4 4, .slice (some ⟨n + 1 + 1 + 1 + 1 + 1 + 1 + 1 + 1 + 1 + 1 + 1 + 1 + 1 + 1 + 1 + 1 + 1 + 1, 0, none⟩) 2 2, .slice (some ⟨n + 1 + 1 + 1 + 1 + 1 + 1 + 1 + 1 + 1 + 1 + 1 + 1 + 1 + 1 + 1 + 1 + 1 + 1 + 1, 0, none⟩) 2 2, .slice (some ⟨n + 1 + 1 + 1 + 1 + 1 + 1 + 1 + 1 + 1 + 1 + 1 + 1 + 1 + 1 + 1 + 1 + 1 + 1 + 1 + 1, 0, none⟩) 3 3] 104]
def binW (w : World) : World := allocs w (binO w.heap.size)
theorem binW_below (w : World) : Below w.heap.size w (binW w) := allocs_below _ w
theorem nl_ne {s : ByteArray} {l : List UInt8} (h : ¬ s = ba l) : (l == s.toList) = false := by
  have := bl_ne (a := ba l) (b := s) (fun e => h e.symm)
  rwa [ba_list] at this
set_option maxRecDepth 100000 in
set_option maxHeartbeats 2000000 in
theorem rbin_1 (s : ByteArray) (w : World) : Calls Tryz.prog 32 #[.int .i64 1, .string s] w fun e w' => e = .returned (.int .i64 (if s = ba [124, 124] then 26 else 0)) ∧ Below w.heap.size w w' := by
  have HB := hideI (binW_below w)
  obtain ⟨R, hR⟩ : ∃ R : Int, R = (if s = ba [124, 124] then 26 else 0) := ⟨_, rfl⟩
  rw [← hR]
  have EQ := hideI hR
  clear hR
  have f0 : (binW w).cell? ⟨w.heap.size, 0, none⟩ = some (.string ⟨#[124, 124]⟩) := allocs_cell _ w 0 _ _ 0 _ rfl rfl
  have k0 : (binW w).cell? ⟨w.heap.size + 1 + 1 + 1 + 1 + 1 + 1 + 1 + 1 + 1 + 1 + 1, 0, none⟩ = some (.int .i64 26) := allocs_cell _ w 11 _ _ 0 _ rfl rfl
  have fo : (binW w).cell? ⟨w.heap.size + 1 + 1 + 1 + 1 + 1 + 1 + 1 + 1 + 1 + 1 + 1 + 1 + 1 + 1 + 1 + 1 + 1 + 1 + 1 + 1 + 1, 0, none⟩ = some (.slice (some ⟨w.heap.size + 1 + 1 + 1 + 1 + 1 + 1 + 1 + 1 + 1 + 1 + 1, 0, none⟩) 1 1) := allocs_cell _ w 21 _ _ 0 _ rfl rfl
  have hsz : (binW w).heap.size = w.heap.size + 1 + 1 + 1 + 1 + 1 + 1 + 1 + 1 + 1 + 1 + 1 + 1 + 1 + 1 + 1 + 1 + 1 + 1 + 1 + 1 + 1 + 1 := allocs_size _ w
  have HSZ := hideI hsz
  clear hsz
  go_enter Tryz.func32, Tryz.ntmps32
  go_wp2_with fail
  go_loopg [43] 1 (fun g x wr => ∃ (j : Nat), j ≤ 1 ∧ g = 1 - j ∧ x = .int .i64 (j : Int) ∧ wr = binW w ∧ ((0 < j → ¬ s = ba [124, 124])))
  case atStart => exact ⟨0, Nat.zero_le _, rfl, rfl, rfl, fun h => absurd h (by decide)⟩
  case round =>
    obtain ⟨j, hj, hg, rfl, rfl, n0⟩ := hrel
    have hs0 : w.heap.size < (binW w).heap.size := by rw [unhideI HSZ]; omega
    have hs1 : w.heap.size + 1 + 1 + 1 + 1 + 1 + 1 + 1 + 1 + 1 + 1 + 1 < (binW w).heap.size := by rw [unhideI HSZ]; omega
    have hs2 : w.heap.size + 1 + 1 + 1 + 1 + 1 + 1 + 1 + 1 + 1 + 1 + 1 + 1 + 1 + 1 + 1 + 1 + 1 + 1 + 1 + 1 + 1 < (binW w).heap.size := by rw [unhideI HSZ]; omega
    generalize binW w = W0 at *
    generalize w.heap.size + 1 + 1 + 1 + 1 + 1 + 1 + 1 + 1 + 1 + 1 + 1 + 1 + 1 + 1 + 1 + 1 + 1 + 1 + 1 + 1 + 1 = bo at *
    generalize w.heap.size + 1 + 1 + 1 + 1 + 1 + 1 + 1 + 1 + 1 + 1 + 1 = bk at *
    have hc : j = 0 ∨ j = 1 := by omega
    rcases hc with rfl | rfl
    · by_cases he : s = ba [124, 124]
      · have bz : (([124, 124] : List UInt8) == s.toList) = true := by rw [he, ba_list]; exact beq_self_eq_true _
        have E1 := unhideI EQ
        rw [if_pos he] at E1
        subst E1
        clear he
        go_wp2_with fail
        go_ret
        exact ⟨rfl, unhideI HB⟩
      · have bz : (([124, 124] : List UInt8) == s.toList) = false := nl_ne he
        have HE := hideI he
        clear he
        go_wp2_with fail
        go_roundg 0
        case measure => omega
        case rel => exact ⟨1, by decide, rfl, rfl, rfl, fun _ => unhideI HE⟩
    · have E1 := unhideI EQ
      rw [if_neg (n0 (by decide))] at E1
      subst E1
      go_wp2_with fail
      go_ret
      exact ⟨rfl, unhideI HB⟩
set_option maxRecDepth 100000 in
set_option maxHeartbeats 2000000 in
theorem rbin_2 (s : ByteArray) (w : World) : Calls Tryz.prog 32 #[.int .i64 2, .string s] w fun e w' => e = .returned (.int .i64 (if s = ba [38, 38] then 25 else 0)) ∧ Below w.heap.size w w' := by
  have HB := hideI (binW_below w)
  obtain ⟨R, hR⟩ : ∃ R : Int, R = (if s = ba [38, 38] then 25 else 0) := ⟨_, rfl⟩
  rw [← hR]
  have EQ := hideI hR
  clear hR
  have f0 : (binW w).cell? ⟨w.heap.size + 1, 0, none⟩ = some (.string ⟨#[38, 38]⟩) := allocs_cell _ w 1 _ _ 0 _ rfl rfl
  have k0 : (binW w).cell? ⟨w.heap.size + 1 + 1 + 1 + 1 + 1 + 1 + 1 + 1 + 1 + 1 + 1 + 1, 0, none⟩ = some (.int .i64 25) := allocs_cell _ w 12 _ _ 0 _ rfl rfl
  have fo : (binW w).cell? ⟨w.heap.size + 1 + 1 + 1 + 1 + 1 + 1 + 1 + 1 + 1 + 1 + 1 + 1 + 1 + 1 + 1 + 1 + 1 + 1 + 1 + 1 + 1, 1, none⟩ = some (.slice (some ⟨w.heap.size + 1 + 1 + 1 + 1 + 1 + 1 + 1 + 1 + 1 + 1 + 1 + 1, 0, none⟩) 1 1) := allocs_cell _ w 21 _ _ 1 _ rfl rfl
  have hsz : (binW w).heap.size = w.heap.size + 1 + 1 + 1 + 1 + 1 + 1 + 1 + 1 + 1 + 1 + 1 + 1 + 1 + 1 + 1 + 1 + 1 + 1 + 1 + 1 + 1 + 1 := allocs_size _ w
  have HSZ := hideI hsz
  clear hsz
  go_enter Tryz.func32, Tryz.ntmps32
  go_wp2_with fail
  go_loopg [43] 1 (fun g x wr => ∃ (j : Nat), j ≤ 1 ∧ g = 1 - j ∧ x = .int .i64 (j : Int) ∧ wr = binW w ∧ ((0 < j → ¬ s = ba [38, 38])))
  case atStart => exact ⟨0, Nat.zero_le _, rfl, rfl, rfl, fun h => absurd h (by decide)⟩
  case round =>
    obtain ⟨j, hj, hg, rfl, rfl, n0⟩ := hrel
    have hs0 : w.heap.size + 1 < (binW w).heap.size := by rw [unhideI HSZ]; omega
    have hs1 : w.heap.size + 1 + 1 + 1 + 1 + 1 + 1 + 1 + 1 + 1 + 1 + 1 + 1 < (binW w).heap.size := by rw [unhideI HSZ]; omega
    have hs2 : w.heap.size + 1 + 1 + 1 + 1 + 1 + 1 + 1 + 1 + 1 + 1 + 1 + 1 + 1 + 1 + 1 + 1 + 1 + 1 + 1 + 1 + 1 < (binW w).heap.size := by rw [unhideI HSZ]; omega
    generalize binW w = W0 at *
    generalize w.heap.size + 1 + 1 + 1 + 1 + 1 + 1 + 1 + 1 + 1 + 1 + 1 + 1 + 1 + 1 + 1 + 1 + 1 + 1 + 1 + 1 + 1 = bo at *
    generalize w.heap.size + 1 + 1 + 1 + 1 + 1 + 1 + 1 + 1 + 1 + 1 + 1 + 1 = bk at *
    generalize w.heap.size + 1 = bf at *
    have hc : j = 0 ∨ j = 1 := by omega
    rcases hc with rfl | rfl
    · by_cases he : s = ba [38, 38]
      · have bz : (([38, 38] : List UInt8) == s.toList) = true := by rw [he, ba_list]; exact beq_self_eq_true _
        have E1 := unhideI EQ
        rw [if_pos he] at E1
        subst E1
        clear he
        go_wp2_with fail
        go_ret
        exact ⟨rfl, unhideI HB⟩
      · have bz : (([38, 38] : List UInt8) == s.toList) = false := nl_ne he
        have HE := hideI he
        clear he
        go_wp2_with fail
        go_roundg 0
        case measure => omega
        case rel => exact ⟨1, by decide, rfl, rfl, rfl, fun _ => unhideI HE⟩
    · have E1 := unhideI EQ
      rw [if_neg (n0 (by decide))] at E1
      subst E1
      go_wp2_with fail
      go_ret
      exact ⟨rfl, unhideI HB⟩
set_option maxRecDepth 100000 in
set_option maxHeartbeats 2000000 in
theorem rbin_3 (s : ByteArray) (w : World) : Calls Tryz.prog 32 #[.int .i64 3, .string s] w fun e w' => e = .returned (.int .i64 (if s = ba [124] then 24 else 0)) ∧ Below w.heap.size w w' := by
  have HB := hideI (binW_below w)
  obtain ⟨R, hR⟩ : ∃ R : Int, R = (if s = ba [124] then 24 else 0) := ⟨_, rfl⟩
  rw [← hR]
  have EQ := hideI hR
  clear hR
  have f0 : (binW w).cell? ⟨w.heap.size + 1 + 1, 0, none⟩ = some (.string ⟨#[124]⟩) := allocs_cell _ w 2 _ _ 0 _ rfl rfl
  have k0 : (binW w).cell? ⟨w.heap.size + 1 + 1 + 1 + 1 + 1 + 1 + 1 + 1 + 1 + 1 + 1 + 1 + 1, 0, none⟩ = some (.int .i64 24) := allocs_cell _ w 13 _ _ 0 _ rfl rfl
  have fo : (binW w).cell? ⟨w.heap.size + 1 + 1 + 1 + 1 + 1 + 1 + 1 + 1 + 1 + 1 + 1 + 1 + 1 + 1 + 1 + 1 + 1 + 1 + 1 + 1 + 1, 2, none⟩ = some (.slice (some ⟨w.heap.size + 1 + 1 + 1 + 1 + 1 + 1 + 1 + 1 + 1 + 1 + 1 + 1 + 1, 0, none⟩) 1 1) := allocs_cell _ w 21 _ _ 2 _ rfl rfl
  have hsz : (binW w).heap.size = w.heap.size + 1 + 1 + 1 + 1 + 1 + 1 + 1 + 1 + 1 + 1 + 1 + 1 + 1 + 1 + 1 + 1 + 1 + 1 + 1 + 1 + 1 + 1 := allocs_size _ w
  have HSZ := hideI hsz
  clear hsz
  go_enter Tryz.func32, Tryz.ntmps32
  go_wp2_with fail
  go_loopg [43] 1 (fun g x wr => ∃ (j : Nat), j ≤ 1 ∧ g = 1 - j ∧ x = .int .i64 (j : Int) ∧ wr = binW w ∧ ((0 < j → ¬ s = ba [124])))
  case atStart => exact ⟨0, Nat.zero_le _, rfl, rfl, rfl, fun h => absurd h (by decide)⟩
  case round =>
    obtain ⟨j, hj, hg, rfl, rfl, n0⟩ := hrel
    have hs0 : w.heap.size + 1 + 1 < (binW w).heap.size := by rw [unhideI HSZ]; omega
    have hs1 : w.heap.size + 1 + 1 + 1 + 1 + 1 + 1 + 1 + 1 + 1 + 1 + 1 + 1 + 1 < (binW w).heap.size := by rw [unhideI HSZ]; omega
    have hs2 : w.heap.size + 1 + 1 + 1 + 1 + 1 + 1 + 1 + 1 + 1 + 1 + 1 + 1 + 1 + 1 + 1 + 1 + 1 + 1 + 1 + 1 + 1 < (binW w).heap.size := by rw [unhideI HSZ]; omega
    generalize binW w = W0 at *
    generalize w.heap.size + 1 + 1 + 1 + 1 + 1 + 1 + 1 + 1 + 1 + 1 + 1 + 1 + 1 + 1 + 1 + 1 + 1 + 1 + 1 + 1 + 1 = bo at *
    generalize w.heap.size + 1 + 1 + 1 + 1 + 1 + 1 + 1 + 1 + 1 + 1 + 1 + 1 + 1 = bk at *
    generalize w.heap.size + 1 + 1 = bf at *
    have hc : j = 0 ∨ j = 1 := by omega
    rcases hc with rfl | rfl
    · by_cases he : s = ba [124]
      · have bz : (([124] : List UInt8) == s.toList) = true := by rw [he, ba_list]; exact beq_self_eq_true _
        have E1 := unhideI EQ
        rw [if_pos he] at E1
        subst E1
        clear he
        go_wp2_with fail
        go_ret
        exact ⟨rfl, unhideI HB⟩
      · have bz : (([124] : List UInt8) == s.toList) = false := nl_ne he
        have HE := hideI he
        clear he
        go_wp2_with fail
        go_roundg 0
        case measure => omega
        case rel => exact ⟨1, by decide, rfl, rfl, rfl, fun _ => unhideI HE⟩
    · have E1 := unhideI EQ
      rw [if_neg (n0 (by decide))] at E1
      subst E1
      go_wp2_with fail
      go_ret
      exact ⟨rfl, unhideI HB⟩
set_option maxRecDepth 100000 in
set_option maxHeartbeats 2000000 in
theorem rbin_4 (s : ByteArray) (w : World) : Calls Tryz.prog 32 #[.int .i64 4, .string s] w fun e w' => e = .returned (.int .i64 (if s = ba [94] then 23 else 0)) ∧ Below w.heap.size w w' := by
  have HB := hideI (binW_below w)
  obtain ⟨R, hR⟩ : ∃ R : Int, R = (if s = ba [94] then 23 else 0) := ⟨_, rfl⟩
  rw [← hR]
  have EQ := hideI hR
  clear hR
  have f0 : (binW w).cell? ⟨w.heap.size + 1 + 1 + 1, 0, none⟩ = some (.string ⟨#[94]⟩) := allocs_cell _ w 3 _ _ 0 _ rfl rfl
  have k0 : (binW w).cell? ⟨w.heap.size + 1 + 1 + 1 + 1 + 1 + 1 + 1 + 1 + 1 + 1 + 1 + 1 + 1 + 1, 0, none⟩ = some (.int .i64 23) := allocs_cell _ w 14 _ _ 0 _ rfl rfl
  have fo : (binW w).cell? ⟨w.heap.size + 1 + 1 + 1 + 1 + 1 + 1 + 1 + 1 + 1 + 1 + 1 + 1 + 1 + 1 + 1 + 1 + 1 + 1 + 1 + 1 + 1, 3, none⟩ = some (.slice (some ⟨w.heap.size + 1 + 1 + 1 + 1 + 1 + 1 + 1 + 1 + 1 + 1 + 1 + 1 + 1 + 1, 0, none⟩) 1 1) := allocs_cell _ w 21 _ _ 3 _ rfl rfl
  have hsz : (binW w).heap.size = w.heap.size + 1 + 1 + 1 + 1 + 1 + 1 + 1 + 1 + 1 + 1 + 1 + 1 + 1 + 1 + 1 + 1 + 1 + 1 + 1 + 1 + 1 + 1 := allocs_size _ w
  have HSZ := hideI hsz
  clear hsz
  go_enter Tryz.func32, Tryz.ntmps32
  go_wp2_with fail
  go_loopg [43] 1 (fun g x wr => ∃ (j : Nat), j ≤ 1 ∧ g = 1 - j ∧ x = .int .i64 (j : Int) ∧ wr = binW w ∧ ((0 < j → ¬ s = ba [94])))
  case atStart => exact ⟨0, Nat.zero_le _, rfl, rfl, rfl, fun h => absurd h (by decide)⟩
  case round =>
    obtain ⟨j, hj, hg, rfl, rfl, n0⟩ := hrel
    have hs0 : w.heap.size + 1 + 1 + 1 < (binW w).heap.size := by rw [unhideI HSZ]; omega
    have hs1 : w.heap.size + 1 + 1 + 1 + 1 + 1 + 1 + 1 + 1 + 1 + 1 + 1 + 1 + 1 + 1 < (binW w).heap.size := by rw [unhideI HSZ]; omega
    have hs2 : w.heap.size + 1 + 1 + 1 + 1 + 1 + 1 + 1 + 1 + 1 + 1 + 1 + 1 + 1 + 1 + 1 + 1 + 1 + 1 + 1 + 1 + 1 < (binW w).heap.size := by rw [unhideI HSZ]; omega
    generalize binW w = W0 at *
    generalize w.heap.size + 1 + 1 + 1 + 1 + 1 + 1 + 1 + 1 + 1 + 1 + 1 + 1 + 1 + 1 + 1 + 1 + 1 + 1 + 1 + 1 + 1 = bo at *
    generalize w.heap.size + 1 + 1 + 1 + 1 + 1 + 1 + 1 + 1 + 1 + 1 + 1 + 1 + 1 + 1 = bk at *
    generalize w.heap.size + 1 + 1 + 1 = bf at *
    have hc : j = 0 ∨ j = 1 := by omega
    rcases hc with rfl | rfl
    · by_cases he : s = ba [94]
      · have bz : (([94] : List UInt8) == s.toList) = true := by rw [he, ba_list]; exact beq_self_eq_true _
        have E1 := unhideI EQ
        rw [if_pos he] at E1
        subst E1
        clear he
        go_wp2_with fail
        go_ret
        exact ⟨rfl, unhideI HB⟩
      · have bz : (([94] : List UInt8) == s.toList) = false := nl_ne he
        have HE := hideI he
        clear he
        go_wp2_with fail
        go_roundg 0
        case measure => omega
        case rel => exact ⟨1, by decide, rfl, rfl, rfl, fun _ => unhideI HE⟩
    · have E1 := unhideI EQ
      rw [if_neg (n0 (by decide))] at E1
      subst E1
      go_wp2_with fail
      go_ret
      exact ⟨rfl, unhideI HB⟩
set_option maxRecDepth 100000 in
set_option maxHeartbeats 2000000 in
theorem rbin_5 (s : ByteArray) (w : World) : Calls Tryz.prog 32 #[.int .i64 5, .string s] w fun e w' => e = .returned (.int .i64 (if s = ba [38] then 22 else 0)) ∧ Below w.heap.size w w' := by
  have HB := hideI (binW_below w)
  obtain ⟨R, hR⟩ : ∃ R : Int, R = (if s = ba [38] then 22 else 0) := ⟨_, rfl⟩
  rw [← hR]
  have EQ := hideI hR
  clear hR
  have f0 : (binW w).cell? ⟨w.heap.size + 1 + 1 + 1 + 1, 0, none⟩ = some (.string ⟨#[38]⟩) := allocs_cell _ w 4 _ _ 0 _ rfl rfl
  have k0 : (binW w).cell? ⟨w.heap.size + 1 + 1 + 1 + 1 + 1 + 1 + 1 + 1 + 1 + 1 + 1 + 1 + 1 + 1 + 1, 0, none⟩ = some (.int .i64 22) := allocs_cell _ w 15 _ _ 0 _ rfl rfl
  have fo : (binW w).cell? ⟨w.heap.size + 1 + 1 + 1 + 1 + 1 + 1 + 1 + 1 + 1 + 1 + 1 + 1 + 1 + 1 + 1 + 1 + 1 + 1 + 1 + 1 + 1, 4, none⟩ = some (.slice (some ⟨w.heap.size + 1 + 1 + 1 + 1 + 1 + 1 + 1 + 1 + 1 + 1 + 1 + 1 + 1 + 1 + 1, 0, none⟩) 1 1) := allocs_cell _ w 21 _ _ 4 _ rfl rfl
  have hsz : (binW w).heap.size = w.heap.size + 1 + 1 + 1 + 1 + 1 + 1 + 1 + 1 + 1 + 1 + 1 + 1 + 1 + 1 + 1 + 1 + 1 + 1 + 1 + 1 + 1 + 1 := allocs_size _ w
  have HSZ := hideI hsz
  clear hsz
  go_enter Tryz.func32, Tryz.ntmps32
  go_wp2_with fail
  go_loopg [43] 1 (fun g x wr => ∃ (j : Nat), j ≤ 1 ∧ g = 1 - j ∧ x = .int .i64 (j : Int) ∧ wr = binW w ∧ ((0 < j → ¬ s = ba [38])))
  case atStart => exact ⟨0, Nat.zero_le _, rfl, rfl, rfl, fun h => absurd h (by decide)⟩
  case round =>
    obtain ⟨j, hj, hg, rfl, rfl, n0⟩ := hrel
    have hs0 : w.heap.size + 1 + 1 + 1 + 1 < (binW w).heap.size := by rw [unhideI HSZ]; omega
    have hs1 : w.heap.size + 1 + 1 + 1 + 1 + 1 + 1 + 1 + 1 + 1 + 1 + 1 + 1 + 1 + 1 + 1 < (binW w).heap.size := by rw [unhideI HSZ]; omega
    have hs2 : w.heap.size + 1 + 1 + 1 + 1 + 1 + 1 + 1 + 1 + 1 + 1 + 1 + 1 + 1 + 1 + 1 + 1 + 1 + 1 + 1 + 1 + 1 < (binW w).heap.size := by rw [unhideI HSZ]; omega
    generalize binW w = W0 at *
    generalize w.heap.size + 1 + 1 + 1 + 1 + 1 + 1 + 1 + 1 + 1 + 1 + 1 + 1 + 1 + 1 + 1 + 1 + 1 + 1 + 1 + 1 + 1 = bo at *
    generalize w.heap.size + 1 + 1 + 1 + 1 + 1 + 1 + 1 + 1 + 1 + 1 + 1 + 1 + 1 + 1 + 1 = bk at *
    generalize w.heap.size + 1 + 1 + 1 + 1 = bf at *
    have hc : j = 0 ∨ j = 1 := by omega
    rcases hc with rfl | rfl
    · by_cases he : s = ba [38]
      · have bz : (([38] : List UInt8) == s.toList) = true := by rw [he, ba_list]; exact beq_self_eq_true _
        have E1 := unhideI EQ
        rw [if_pos he] at E1
        subst E1
        clear he
        go_wp2_with fail
        go_ret
        exact ⟨rfl, unhideI HB⟩
      · have bz : (([38] : List UInt8) == s.toList) = false := nl_ne he
        have HE := hideI he
        clear he
        go_wp2_with fail
        go_roundg 0
        case measure => omega
        case rel => exact ⟨1, by decide, rfl, rfl, rfl, fun _ => unhideI HE⟩
    · have E1 := unhideI EQ
      rw [if_neg (n0 (by decide))] at E1
      subst E1
      go_wp2_with fail
      go_ret
      exact ⟨rfl, unhideI HB⟩
set_option maxRecDepth 100000 in
set_option maxHeartbeats 2000000 in
theorem rbin_6 (s : ByteArray) (w : World) : Calls Tryz.prog 32 #[.int .i64 6, .string s] w fun e w' => e = .returned (.int .i64 (if s = ba [61, 61] then 20 else (if s = ba [33, 61] then 21 else 0))) ∧ Below w.heap.size w w' := by
  have HB := hideI (binW_below w)
  obtain ⟨R, hR⟩ : ∃ R : Int, R = (if s = ba [61, 61] then 20 else (if s = ba [33, 61] then 21 else 0)) := ⟨_, rfl⟩
  rw [← hR]
  have EQ := hideI hR
  clear hR
  have f0 : (binW w).cell? ⟨w.heap.size + 1 + 1 + 1 + 1 + 1, 0, none⟩ = some (.string ⟨#[61, 61]⟩) := allocs_cell _ w 5 _ _ 0 _ rfl rfl
  have k0 : (binW w).cell? ⟨w.heap.size + 1 + 1 + 1 + 1 + 1 + 1 + 1 + 1 + 1 + 1 + 1 + 1 + 1 + 1 + 1 + 1, 0, none⟩ = some (.int .i64 20) := allocs_cell _ w 16 _ _ 0 _ rfl rfl
  have f1 : (binW w).cell? ⟨w.heap.size + 1 + 1 + 1 + 1 + 1, 1, none⟩ = some (.string ⟨#[33, 61]⟩) := allocs_cell _ w 5 _ _ 1 _ rfl rfl
  have k1 : (binW w).cell? ⟨w.heap.size + 1 + 1 + 1 + 1 + 1 + 1 + 1 + 1 + 1 + 1 + 1 + 1 + 1 + 1 + 1 + 1, 1, none⟩ = some (.int .i64 21) := allocs_cell _ w 16 _ _ 1 _ rfl rfl
  have fo : (binW w).cell? ⟨w.heap.size + 1 + 1 + 1 + 1 + 1 + 1 + 1 + 1 + 1 + 1 + 1 + 1 + 1 + 1 + 1 + 1 + 1 + 1 + 1 + 1 + 1, 5, none⟩ = some (.slice (some ⟨w.heap.size + 1 + 1 + 1 + 1 + 1 + 1 + 1 + 1 + 1 + 1 + 1 + 1 + 1 + 1 + 1 + 1, 0, none⟩) 2 2) := allocs_cell _ w 21 _ _ 5 _ rfl rfl
  have hsz : (binW w).heap.size = w.heap.size + 1 + 1 + 1 + 1 + 1 + 1 + 1 + 1 + 1 + 1 + 1 + 1 + 1 + 1 + 1 + 1 + 1 + 1 + 1 + 1 + 1 + 1 := allocs_size _ w
  have HSZ := hideI hsz
  clear hsz
  go_enter Tryz.func32, Tryz.ntmps32
  go_wp2_with fail
  go_loopg [43] 2 (fun g x wr => ∃ (j : Nat), j ≤ 2 ∧ g = 2 - j ∧ x = .int .i64 (j : Int) ∧ wr = binW w ∧ ((0 < j → ¬ s = ba [61, 61]) ∧ (1 < j → ¬ s = ba [33, 61])))
  case atStart => exact ⟨0, Nat.zero_le _, rfl, rfl, rfl, fun h => absurd h (by decide), fun h => absurd h (by decide)⟩
  case round =>
    obtain ⟨j, hj, hg, rfl, rfl, n0, n1⟩ := hrel
    have hs0 : w.heap.size + 1 + 1 + 1 + 1 + 1 < (binW w).heap.size := by rw [unhideI HSZ]; omega
    have hs1 : w.heap.size + 1 + 1 + 1 + 1 + 1 + 1 + 1 + 1 + 1 + 1 + 1 + 1 + 1 + 1 + 1 + 1 < (binW w).heap.size := by rw [unhideI HSZ]; omega
    have hs2 : w.heap.size + 1 + 1 + 1 + 1 + 1 + 1 + 1 + 1 + 1 + 1 + 1 + 1 + 1 + 1 + 1 + 1 + 1 + 1 + 1 + 1 + 1 < (binW w).heap.size := by rw [unhideI HSZ]; omega
    generalize binW w = W0 at *
    generalize w.heap.size + 1 + 1 + 1 + 1 + 1 + 1 + 1 + 1 + 1 + 1 + 1 + 1 + 1 + 1 + 1 + 1 + 1 + 1 + 1 + 1 + 1 = bo at *
    generalize w.heap.size + 1 + 1 + 1 + 1 + 1 + 1 + 1 + 1 + 1 + 1 + 1 + 1 + 1 + 1 + 1 + 1 = bk at *
    generalize w.heap.size + 1 + 1 + 1 + 1 + 1 = bf at *
    have hc : j = 0 ∨ j = 1 ∨ j = 2 := by omega
    rcases hc with rfl | rfl | rfl
    · by_cases he : s = ba [61, 61]
      · have bz : (([61, 61] : List UInt8) == s.toList) = true := by rw [he, ba_list]; exact beq_self_eq_true _
        have E1 := unhideI EQ
        rw [if_pos he] at E1
        subst E1
        clear he
        go_wp2_with fail
        go_ret
        exact ⟨rfl, unhideI HB⟩
      · have bz : (([61, 61] : List UInt8) == s.toList) = false := nl_ne he
        have HE := hideI he
        clear he
        go_wp2_with fail
        go_roundg 1
        case measure => omega
        case rel => exact ⟨1, by decide, rfl, rfl, rfl, fun _ => unhideI HE, fun h => absurd h (by decide)⟩
    · by_cases he : s = ba [33, 61]
      · have bz : (([33, 61] : List UInt8) == s.toList) = true := by rw [he, ba_list]; exact beq_self_eq_true _
        have E1 := unhideI EQ
        rw [if_neg (n0 (by decide))] at E1
        rw [if_pos he] at E1
        subst E1
        clear he
        go_wp2_with fail
        go_ret
        exact ⟨rfl, unhideI HB⟩
      · have bz : (([33, 61] : List UInt8) == s.toList) = false := nl_ne he
        have HE := hideI he
        clear he
        go_wp2_with fail
        go_roundg 0
        case measure => omega
        case rel => exact ⟨2, by decide, rfl, rfl, rfl, fun _ => n0 (by decide), fun _ => unhideI HE⟩
    · have E1 := unhideI EQ
      rw [if_neg (n0 (by decide)), if_neg (n1 (by decide))] at E1
      subst E1
      go_wp2_with fail
      go_ret
      exact ⟨rfl, unhideI HB⟩
set_option maxRecDepth 100000 in
set_option maxHeartbeats 2000000 in
theorem rbin_7 (s : ByteArray) (w : World) : Calls Tryz.prog 32 #[.int .i64 7, .string s] w fun e w' => e = .returned (.int .i64 (if s = ba [60] then 16 else (if s = ba [60, 61] then 17 else (if s = ba [62] then 18 else (if s = ba [62, 61] then 19 else 0))))) ∧ Below w.heap.size w w' := by
  have HB := hideI (binW_below w)
  obtain ⟨R, hR⟩ : ∃ R : Int, R = (if s = ba [60] then 16 else (if s = ba [60, 61] then 17 else (if s = ba [62] then 18 else (if s = ba [62, 61] then 19 else 0)))) := ⟨_, rfl⟩
  rw [← hR]
  have EQ := hideI hR
  clear hR
  have f0 : (binW w).cell? ⟨w.heap.size + 1 + 1 + 1 + 1 + 1 + 1, 0, none⟩ = some (.string ⟨#[60]⟩) := allocs_cell _ w 6 _ _ 0 _ rfl rfl
  have k0 : (binW w).cell? ⟨w.heap.size + 1 + 1 + 1 + 1 + 1 + 1 + 1 + 1 + 1 + 1 + 1 + 1 + 1 + 1 + 1 + 1 + 1, 0, none⟩ = some (.int .i64 16) := allocs_cell _ w 17 _ _ 0 _ rfl rfl
  have f1 : (binW w).cell? ⟨w.heap.size + 1 + 1 + 1 + 1 + 1 + 1, 1, none⟩ = some (.string ⟨#[60, 61]⟩) := allocs_cell _ w 6 _ _ 1 _ rfl rfl
  have k1 : (binW w).cell? ⟨w.heap.size + 1 + 1 + 1 + 1 + 1 + 1 + 1 + 1 + 1 + 1 + 1 + 1 + 1 + 1 + 1 + 1 + 1, 1, none⟩ = some (.int .i64 17) := allocs_cell _ w 17 _ _ 1 _ rfl rfl
  have f2 : (binW w).cell? ⟨w.heap.size + 1 + 1 + 1 + 1 + 1 + 1, 2, none⟩ = some (.string ⟨#[62]⟩) := allocs_cell _ w 6 _ _ 2 _ rfl rfl
  have k2 : (binW w).cell? ⟨w.heap.size + 1 + 1 + 1 + 1 + 1 + 1 + 1 + 1 + 1 + 1 + 1 + 1 + 1 + 1 + 1 + 1 + 1, 2, none⟩ = some (.int .i64 18) := allocs_cell _ w 17 _ _ 2 _ rfl rfl
  have f3 : (binW w).cell? ⟨w.heap.size + 1 + 1 + 1 + 1 + 1 + 1, 3, none⟩ = some (.string ⟨#[62, 61]⟩) := allocs_cell _ w 6 _ _ 3 _ rfl rfl
  have k3 : (binW w).cell? ⟨w.heap.size + 1 + 1 + 1 + 1 + 1 + 1 + 1 + 1 + 1 + 1 + 1 + 1 + 1 + 1 + 1 + 1 + 1, 3, none⟩ = some (.int .i64 19) := allocs_cell _ w 17 _ _ 3 _ rfl rfl
  have fo : (binW w).cell? ⟨w.heap.size + 1 + 1 + 1 + 1 + 1 + 1 + 1 + 1 + 1 + 1 + 1 + 1 + 1 + 1 + 1 + 1 + 1 + 1 + 1 + 1 + 1, 6, none⟩ = some (.slice (some ⟨w.heap.size + 1 + 1 + 1 + 1 + 1 + 1 + 1 + 1 + 1 + 1 + 1 + 1 + 1 + 1 + 1 + 1 + 1, 0, none⟩) 4 4) := allocs_cell _ w 21 _ _ 6 _ rfl rfl
  have hsz : (binW w).heap.size = w.heap.size + 1 + 1 + 1 + 1 + 1 + 1 + 1 + 1 + 1 + 1 + 1 + 1 + 1 + 1 + 1 + 1 + 1 + 1 + 1 + 1 + 1 + 1 := allocs_size _ w
  have HSZ := hideI hsz
  clear hsz
  go_enter Tryz.func32, Tryz.ntmps32
  go_wp2_with fail
  go_loopg [43] 4 (fun g x wr => ∃ (j : Nat), j ≤ 4 ∧ g = 4 - j ∧ x = .int .i64 (j : Int) ∧ wr = binW w ∧ ((0 < j → ¬ s = ba [60]) ∧ (1 < j → ¬ s = ba [60, 61]) ∧ (2 < j → ¬ s = ba [62]) ∧ (3 < j → ¬ s = ba [62, 61])))
  case atStart => exact ⟨0, Nat.zero_le _, rfl, rfl, rfl, fun h => absurd h (by decide), fun h => absurd h (by decide), fun h => absurd h (by decide), fun h => absurd h (by decide)⟩
  case round =>
    obtain ⟨j, hj, hg, rfl, rfl, n0, n1, n2, n3⟩ := hrel
    have hs0 : w.heap.size + 1 + 1 + 1 + 1 + 1 + 1 < (binW w).heap.size := by rw [unhideI HSZ]; omega
    have hs1 : w.heap.size + 1 + 1 + 1 + 1 + 1 + 1 + 1 + 1 + 1 + 1 + 1 + 1 + 1 + 1 + 1 + 1 + 1 < (binW w).heap.size := by rw [unhideI HSZ]; omega
    have hs2 : w.heap.size + 1 + 1 + 1 + 1 + 1 + 1 + 1 + 1 + 1 + 1 + 1 + 1 + 1 + 1 + 1 + 1 + 1 + 1 + 1 + 1 + 1 < (binW w).heap.size := by rw [unhideI HSZ]; omega
    generalize binW w = W0 at *
    generalize w.heap.size + 1 + 1 + 1 + 1 + 1 + 1 + 1 + 1 + 1 + 1 + 1 + 1 + 1 + 1 + 1 + 1 + 1 + 1 + 1 + 1 + 1 = bo at *
    generalize w.heap.size + 1 + 1 + 1 + 1 + 1 + 1 + 1 + 1 + 1 + 1 + 1 + 1 + 1 + 1 + 1 + 1 + 1 = bk at *
    generalize w.heap.size + 1 + 1 + 1 + 1 + 1 + 1 = bf at *
    have hc : j = 0 ∨ j = 1 ∨ j = 2 ∨ j = 3 ∨ j = 4 := by omega
    rcases hc with rfl | rfl | rfl | rfl | rfl
    · by_cases he : s = ba [60]
      · have bz : (([60] : List UInt8) == s.toList) = true := by rw [he, ba_list]; exact beq_self_eq_true _
        have E1 := unhideI EQ
        rw [if_pos he] at E1
        subst E1
        clear he
        go_wp2_with fail
        go_ret
        exact ⟨rfl, unhideI HB⟩
      · have bz : (([60] : List UInt8) == s.toList) = false := nl_ne he
        have HE := hideI he
        clear he
        go_wp2_with fail
        go_roundg 3
        case measure => omega
        case rel => exact ⟨1, by decide, rfl, rfl, rfl, fun _ => unhideI HE, fun h => absurd h (by decide), fun h => absurd h (by decide), fun h => absurd h (by decide)⟩
    · by_cases he : s = ba [60, 61]
      · have bz : (([60, 61] : List UInt8) == s.toList) = true := by rw [he, ba_list]; exact beq_self_eq_true _
        have E1 := unhideI EQ
        rw [if_neg (n0 (by decide))] at E1
        rw [if_pos he] at E1
        subst E1
        clear he
        go_wp2_with fail
        go_ret
        exact ⟨rfl, unhideI HB⟩
      · have bz : (([60, 61] : List UInt8) == s.toList) = false := nl_ne he
        have HE := hideI he
        clear he
        go_wp2_with fail
        go_roundg 2
        case measure => omega
        case rel => exact ⟨2, by decide, rfl, rfl, rfl, fun _ => n0 (by decide), fun _ => unhideI HE, fun h => absurd h (by decide), fun h => absurd h (by decide)⟩
    · by_cases he : s = ba [62]
      · have bz : (([62] : List UInt8) == s.toList) = true := by rw [he, ba_list]; exact beq_self_eq_true _
        have E1 := unhideI EQ
        rw [if_neg (n0 (by decide))] at E1
        rw [if_neg (n1 (by decide))] at E1
        rw [if_pos he] at E1
        subst E1
        clear he
        go_wp2_with fail
        go_ret
        exact ⟨rfl, unhideI HB⟩
      · have bz : (([62] : List UInt8) == s.toList) = false := nl_ne he
        have HE := hideI he
        clear he
        go_wp2_with fail
        go_roundg 1
        case measure => omega
        case rel => exact ⟨3, by decide, rfl, rfl, rfl, fun _ => n0 (by decide), fun _ => n1 (by decide), fun _ => unhideI HE, fun h => absurd h (by decide)⟩
    · by_cases he : s = ba [62, 61]
      · have bz : (([62, 61] : List UInt8) == s.toList) = true := by rw [he, ba_list]; exact beq_self_eq_true _
        have E1 := unhideI EQ
        rw [if_neg (n0 (by decide))] at E1
        rw [if_neg (n1 (by decide))] at E1
        rw [if_neg (n2 (by decide))] at E1
        rw [if_pos he] at E1
        subst E1
        clear he
        go_wp2_with fail
        go_ret
        exact ⟨rfl, unhideI HB⟩
      · have bz : (([62, 61] : List UInt8) == s.toList) = false := nl_ne he
        have HE := hideI he
        clear he
        go_wp2_with fail
        go_roundg 0
        case measure => omega
        case rel => exact ⟨4, by decide, rfl, rfl, rfl, fun _ => n0 (by decide), fun _ => n1 (by decide), fun _ => n2 (by decide), fun _ => unhideI HE⟩
    · have E1 := unhideI EQ
      rw [if_neg (n0 (by decide)), if_neg (n1 (by decide)), if_neg (n2 (by decide)), if_neg (n3 (by decide))] at E1
      subst E1
      go_wp2_with fail
      go_ret
      exact ⟨rfl, unhideI HB⟩
set_option maxRecDepth 100000 in
set_option maxHeartbeats 2000000 in
theorem rbin_8 (s : ByteArray) (w : World) : Calls Tryz.prog 32 #[.int .i64 8, .string s] w fun e w' => e = .returned (.int .i64 (if s = ba [60, 60] then 14 else (if s = ba [62, 62] then 15 else 0))) ∧ Below w.heap.size w w' := by
  have HB := hideI (binW_below w)
  obtain ⟨R, hR⟩ : ∃ R : Int, R = (if s = ba [60, 60] then 14 else (if s = ba [62, 62] then 15 else 0)) := ⟨_, rfl⟩
  rw [← hR]
  have EQ := hideI hR
  clear hR
  have f0 : (binW w).cell? ⟨w.heap.size + 1 + 1 + 1 + 1 + 1 + 1 + 1, 0, none⟩ = some (.string ⟨#[60, 60]⟩) := allocs_cell _ w 7 _ _ 0 _ rfl rfl
  have k0 : (binW w).cell? ⟨w.heap.size + 1 + 1 + 1 + 1 + 1 + 1 + 1 + 1 + 1 + 1 + 1 + 1 + 1 + 1 + 1 + 1 + 1 + 1, 0, none⟩ = some (.int .i64 14) := allocs_cell _ w 18 _ _ 0 _ rfl rfl
  have f1 : (binW w).cell? ⟨w.heap.size + 1 + 1 + 1 + 1 + 1 + 1 + 1, 1, none⟩ = some (.string ⟨#[62, 62]⟩) := allocs_cell _ w 7 _ _ 1 _ rfl rfl
  have k1 : (binW w).cell? ⟨w.heap.size + 1 + 1 + 1 + 1 + 1 + 1 + 1 + 1 + 1 + 1 + 1 + 1 + 1 + 1 + 1 + 1 + 1 + 1, 1, none⟩ = some (.int .i64 15) := allocs_cell _ w 18 _ _ 1 _ rfl rfl
  have fo : (binW w).cell? ⟨w.heap.size + 1 + 1 + 1 + 1 + 1 + 1 + 1 + 1 + 1 + 1 + 1 + 1 + 1 + 1 + 1 + 1 + 1 + 1 + 1 + 1 + 1, 7, none⟩ = some (.slice (some ⟨w.heap.size + 1 + 1 + 1 + 1 + 1 + 1 + 1 + 1 + 1 + 1 + 1 + 1 + 1 + 1 + 1 + 1 + 1 + 1, 0, none⟩) 2 2) := allocs_cell _ w 21 _ _ 7 _ rfl rfl
  have hsz : (binW w).heap.size = w.heap.size + 1 + 1 + 1 + 1 + 1 + 1 + 1 + 1 + 1 + 1 + 1 + 1 + 1 + 1 + 1 + 1 + 1 + 1 + 1 + 1 + 1 + 1 := allocs_size _ w
  have HSZ := hideI hsz
  clear hsz
  go_enter Tryz.func32, Tryz.ntmps32
  go_wp2_with fail
  go_loopg [43] 2 (fun g x wr => ∃ (j : Nat), j ≤ 2 ∧ g = 2 - j ∧ x = .int .i64 (j : Int) ∧ wr = binW w ∧ ((0 < j → ¬ s = ba [60, 60]) ∧ (1 < j → ¬ s = ba [62, 62])))
  case atStart => exact ⟨0, Nat.zero_le _, rfl, rfl, rfl, fun h => absurd h (by decide), fun h => absurd h (by decide)⟩
  case round =>
    obtain ⟨j, hj, hg, rfl, rfl, n0, n1⟩ := hrel
    have hs0 : w.heap.size + 1 + 1 + 1 + 1 + 1 + 1 + 1 < (binW w).heap.size := by rw [unhideI HSZ]; omega
    have hs1 : w.heap.size + 1 + 1 + 1 + 1 + 1 + 1 + 1 + 1 + 1 + 1 + 1 + 1 + 1 + 1 + 1 + 1 + 1 + 1 < (binW w).heap.size := by rw [unhideI HSZ]; omega
    have hs2 : w.heap.size + 1 + 1 + 1 + 1 + 1 + 1 + 1 + 1 + 1 + 1 + 1 + 1 + 1 + 1 + 1 + 1 + 1 + 1 + 1 + 1 + 1 < (binW w).heap.size := by rw [unhideI HSZ]; omega
    generalize binW w = W0 at *
    generalize w.heap.size + 1 + 1 + 1 + 1 + 1 + 1 + 1 + 1 + 1 + 1 + 1 + 1 + 1 + 1 + 1 + 1 + 1 + 1 + 1 + 1 + 1 = bo at *
    generalize w.heap.size + 1 + 1 + 1 + 1 + 1 + 1 + 1 + 1 + 1 + 1 + 1 + 1 + 1 + 1 + 1 + 1 + 1 + 1 = bk at *
    generalize w.heap.size + 1 + 1 + 1 + 1 + 1 + 1 + 1 = bf at *
    have hc : j = 0 ∨ j = 1 ∨ j = 2 := by omega
    rcases hc with rfl | rfl | rfl
    · by_cases he : s = ba [60, 60]
      · have bz : (([60, 60] : List UInt8) == s.toList) = true := by rw [he, ba_list]; exact beq_self_eq_true _
        have E1 := unhideI EQ
        rw [if_pos he] at E1
        subst E1
        clear he
        go_wp2_with fail
        go_ret
        exact ⟨rfl, unhideI HB⟩
      · have bz : (([60, 60] : List UInt8) == s.toList) = false := nl_ne he
        have HE := hideI he
        clear he
        go_wp2_with fail
        go_roundg 1
        case measure => omega
        case rel => exact ⟨1, by decide, rfl, rfl, rfl, fun _ => unhideI HE, fun h => absurd h (by decide)⟩
    · by_cases he : s = ba [62, 62]
      · have bz : (([62, 62] : List UInt8) == s.toList) = true := by rw [he, ba_list]; exact beq_self_eq_true _
        have E1 := unhideI EQ
        rw [if_neg (n0 (by decide))] at E1
        rw [if_pos he] at E1
        subst E1
        clear he
        go_wp2_with fail
        go_ret
        exact ⟨rfl, unhideI HB⟩
      · have bz : (([62, 62] : List UInt8) == s.toList) = false := nl_ne he
        have HE := hideI he
        clear he
        go_wp2_with fail
        go_roundg 0
        case measure => omega
        case rel => exact ⟨2, by decide, rfl, rfl, rfl, fun _ => n0 (by decide), fun _ => unhideI HE⟩
    · have E1 := unhideI EQ
      rw [if_neg (n0 (by decide)), if_neg (n1 (by decide))] at E1
      subst E1
      go_wp2_with fail
      go_ret
      exact ⟨rfl, unhideI HB⟩
set_option maxRecDepth 100000 in
set_option maxHeartbeats 2000000 in
theorem rbin_9 (s : ByteArray) (w : World) : Calls Tryz.prog 32 #[.int .i64 9, .string s] w fun e w' => e = .returned (.int .i64 (if s = ba [43] then 12 else (if s = ba [45] then 13 else 0))) ∧ Below w.heap.size w w' := by
  have HB := hideI (binW_below w)
  obtain ⟨R, hR⟩ : ∃ R : Int, R = (if s = ba [43] then 12 else (if s = ba [45] then 13 else 0)) := ⟨_, rfl⟩
  rw [← hR]
  have EQ := hideI hR
  clear hR
  have f0 : (binW w).cell? ⟨w.heap.size + 1 + 1 + 1 + 1 + 1 + 1 + 1 + 1, 0, none⟩ = some (.string ⟨#[43]⟩) := allocs_cell _ w 8 _ _ 0 _ rfl rfl
  have k0 : (binW w).cell? ⟨w.heap.size + 1 + 1 + 1 + 1 + 1 + 1 + 1 + 1 + 1 + 1 + 1 + 1 + 1 + 1 + 1 + 1 + 1 + 1 + 1, 0, none⟩ = some (.int .i64 12) := allocs_cell _ w 19 _ _ 0 _ rfl rfl
  have f1 : (binW w).cell? ⟨w.heap.size + 1 + 1 + 1 + 1 + 1 + 1 + 1 + 1, 1, none⟩ = some (.string ⟨#[45]⟩) := allocs_cell _ w 8 _ _ 1 _ rfl rfl
  have k1 : (binW w).cell? ⟨w.heap.size + 1 + 1 + 1 + 1 + 1 + 1 + 1 + 1 + 1 + 1 + 1 + 1 + 1 + 1 + 1 + 1 + 1 + 1 + 1, 1, none⟩ = some (.int .i64 13) := allocs_cell _ w 19 _ _ 1 _ rfl rfl
  have fo : (binW w).cell? ⟨w.heap.size + 1 + 1 + 1 + 1 + 1 + 1 + 1 + 1 + 1 + 1 + 1 + 1 + 1 + 1 + 1 + 1 + 1 + 1 + 1 + 1 + 1, 8, none⟩ = some (.slice (some ⟨w.heap.size + 1 + 1 + 1 + 1 + 1 + 1 + 1 + 1 + 1 + 1 + 1 + 1 + 1 + 1 + 1 + 1 + 1 + 1 + 1, 0, none⟩) 2 2) := allocs_cell _ w 21 _ _ 8 _ rfl rfl
  have hsz : (binW w).heap.size = w.heap.size + 1 + 1 + 1 + 1 + 1 + 1 + 1 + 1 + 1 + 1 + 1 + 1 + 1 + 1 + 1 + 1 + 1 + 1 + 1 + 1 + 1 + 1 := allocs_size _ w
  have HSZ := hideI hsz
  clear hsz
  go_enter Tryz.func32, Tryz.ntmps32
  go_wp2_with fail
  go_loopg [43] 2 (fun g x wr => ∃ (j : Nat), j ≤ 2 ∧ g = 2 - j ∧ x = .int .i64 (j : Int) ∧ wr = binW w ∧ ((0 < j → ¬ s = ba [43]) ∧ (1 < j → ¬ s = ba [45])))
  case atStart => exact ⟨0, Nat.zero_le _, rfl, rfl, rfl, fun h => absurd h (by decide), fun h => absurd h (by decide)⟩
  case round =>
    obtain ⟨j, hj, hg, rfl, rfl, n0, n1⟩ := hrel
    have hs0 : w.heap.size + 1 + 1 + 1 + 1 + 1 + 1 + 1 + 1 < (binW w).heap.size := by rw [unhideI HSZ]; omega
    have hs1 : w.heap.size + 1 + 1 + 1 + 1 + 1 + 1 + 1 + 1 + 1 + 1 + 1 + 1 + 1 + 1 + 1 + 1 + 1 + 1 + 1 < (binW w).heap.size := by rw [unhideI HSZ]; omega
    have hs2 : w.heap.size + 1 + 1 + 1 + 1 + 1 + 1 + 1 + 1 + 1 + 1 + 1 + 1 + 1 + 1 + 1 + 1 + 1 + 1 + 1 + 1 + 1 < (binW w).heap.size := by rw [unhideI HSZ]; omega
    generalize binW w = W0 at *
    generalize w.heap.size + 1 + 1 + 1 + 1 + 1 + 1 + 1 + 1 + 1 + 1 + 1 + 1 + 1 + 1 + 1 + 1 + 1 + 1 + 1 + 1 + 1 = bo at *
    generalize w.heap.size + 1 + 1 + 1 + 1 + 1 + 1 + 1 + 1 + 1 + 1 + 1 + 1 + 1 + 1 + 1 + 1 + 1 + 1 + 1 = bk at *
    generalize w.heap.size + 1 + 1 + 1 + 1 + 1 + 1 + 1 + 1 = bf at *
    have hc : j = 0 ∨ j = 1 ∨ j = 2 := by omega
    rcases hc with rfl | rfl | rfl
    · by_cases he : s = ba [43]
      · have bz : (([43] : List UInt8) == s.toList) = true := by rw [he, ba_list]; exact beq_self_eq_true _
        have E1 := unhideI EQ
        rw [if_pos he] at E1
        subst E1
        clear he
        go_wp2_with fail
        go_ret
        exact ⟨rfl, unhideI HB⟩
      · have bz : (([43] : List UInt8) == s.toList) = false := nl_ne he
        have HE := hideI he
        clear he
        go_wp2_with fail
        go_roundg 1
        case measure => omega
        case rel => exact ⟨1, by decide, rfl, rfl, rfl, fun _ => unhideI HE, fun h => absurd h (by decide)⟩
    · by_cases he : s = ba [45]
      · have bz : (([45] : List UInt8) == s.toList) = true := by rw [he, ba_list]; exact beq_self_eq_true _
        have E1 := unhideI EQ
        rw [if_neg (n0 (by decide))] at E1
        rw [if_pos he] at E1
        subst E1
        clear he
        go_wp2_with fail
        go_ret
        exact ⟨rfl, unhideI HB⟩
      · have bz : (([45] : List UInt8) == s.toList) = false := nl_ne he
        have HE := hideI he
        clear he
        go_wp2_with fail
        go_roundg 0
        case measure => omega
        case rel => exact ⟨2, by decide, rfl, rfl, rfl, fun _ => n0 (by decide), fun _ => unhideI HE⟩
    · have E1 := unhideI EQ
      rw [if_neg (n0 (by decide)), if_neg (n1 (by decide))] at E1
      subst E1
      go_wp2_with fail
      go_ret
      exact ⟨rfl, unhideI HB⟩
set_option maxRecDepth 100000 in
set_option maxHeartbeats 2000000 in
theorem rbin_10 (s : ByteArray) (w : World) : Calls Tryz.prog 32 #[.int .i64 10, .string s] w fun e w' => e = .returned (.int .i64 (if s = ba [42] then 9 else (if s = ba [47] then 10 else (if s = ba [37] then 11 else 0)))) ∧ Below w.heap.size w w' := by
  have HB := hideI (binW_below w)
  obtain ⟨R, hR⟩ : ∃ R : Int, R = (if s = ba [42] then 9 else (if s = ba [47] then 10 else (if s = ba [37] then 11 else 0))) := ⟨_, rfl⟩
  rw [← hR]
  have EQ := hideI hR
  clear hR
  have f0 : (binW w).cell? ⟨w.heap.size + 1 + 1 + 1 + 1 + 1 + 1 + 1 + 1 + 1, 0, none⟩ = some (.string ⟨#[42]⟩) := allocs_cell _ w 9 _ _ 0 _ rfl rfl
  have k0 : (binW w).cell? ⟨w.heap.size + 1 + 1 + 1 + 1 + 1 + 1 + 1 + 1 + 1 + 1 + 1 + 1 + 1 + 1 + 1 + 1 + 1 + 1 + 1 + 1, 0, none⟩ = some (.int .i64 9) := allocs_cell _ w 20 _ _ 0 _ rfl rfl
  have f1 : (binW w).cell? ⟨w.heap.size + 1 + 1 + 1 + 1 + 1 + 1 + 1 + 1 + 1, 1, none⟩ = some (.string ⟨#[47]⟩) := allocs_cell _ w 9 _ _ 1 _ rfl rfl
  have k1 : (binW w).cell? ⟨w.heap.size + 1 + 1 + 1 + 1 + 1 + 1 + 1 + 1 + 1 + 1 + 1 + 1 + 1 + 1 + 1 + 1 + 1 + 1 + 1 + 1, 1, none⟩ = some (.int .i64 10) := allocs_cell _ w 20 _ _ 1 _ rfl rfl
  have f2 : (binW w).cell? ⟨w.heap.size + 1 + 1 + 1 + 1 + 1 + 1 + 1 + 1 + 1, 2, none⟩ = some (.string ⟨#[37]⟩) := allocs_cell _ w 9 _ _ 2 _ rfl rfl
  have k2 : (binW w).cell? ⟨w.heap.size + 1 + 1 + 1 + 1 + 1 + 1 + 1 + 1 + 1 + 1 + 1 + 1 + 1 + 1 + 1 + 1 + 1 + 1 + 1 + 1, 2, none⟩ = some (.int .i64 11) := allocs_cell _ w 20 _ _ 2 _ rfl rfl
  have fo : (binW w).cell? ⟨w.heap.size + 1 + 1 + 1 + 1 + 1 + 1 + 1 + 1 + 1 + 1 + 1 + 1 + 1 + 1 + 1 + 1 + 1 + 1 + 1 + 1 + 1, 9, none⟩ = some (.slice (some ⟨w.heap.size + 1 + 1 + 1 + 1 + 1 + 1 + 1 + 1 + 1 + 1 + 1 + 1 + 1 + 1 + 1 + 1 + 1 + 1 + 1 + 1, 0, none⟩) 3 3) := allocs_cell _ w 21 _ _ 9 _ rfl rfl
  have hsz : (binW w).heap.size = w.heap.size + 1 + 1 + 1 + 1 + 1 + 1 + 1 + 1 + 1 + 1 + 1 + 1 + 1 + 1 + 1 + 1 + 1 + 1 + 1 + 1 + 1 + 1 := allocs_size _ w
  have HSZ := hideI hsz
  clear hsz
  go_enter Tryz.func32, Tryz.ntmps32
  go_wp2_with fail
  go_loopg [43] 3 (fun g x wr => ∃ (j : Nat), j ≤ 3 ∧ g = 3 - j ∧ x = .int .i64 (j : Int) ∧ wr = binW w ∧ ((0 < j → ¬ s = ba [42]) ∧ (1 < j → ¬ s = ba [47]) ∧ (2 < j → ¬ s = ba [37])))
  case atStart => exact ⟨0, Nat.zero_le _, rfl, rfl, rfl, fun h => absurd h (by decide), fun h => absurd h (by decide), fun h => absurd h (by decide)⟩
  case round =>
    obtain ⟨j, hj, hg, rfl, rfl, n0, n1, n2⟩ := hrel
    have hs0 : w.heap.size + 1 + 1 + 1 + 1 + 1 + 1 + 1 + 1 + 1 < (binW w).heap.size := by rw [unhideI HSZ]; omega
    have hs1 : w.heap.size + 1 + 1 + 1 + 1 + 1 + 1 + 1 + 1 + 1 + 1 + 1 + 1 + 1 + 1 + 1 + 1 + 1 + 1 + 1 + 1 < (binW w).heap.size := by rw [unhideI HSZ]; omega
    have hs2 : w.heap.size + 1 + 1 + 1 + 1 + 1 + 1 + 1 + 1 + 1 + 1 + 1 + 1 + 1 + 1 + 1 + 1 + 1 + 1 + 1 + 1 + 1 < (binW w).heap.size := by rw [unhideI HSZ]; omega
    generalize binW w = W0 at *
    generalize w.heap.size + 1 + 1 + 1 + 1 + 1 + 1 + 1 + 1 + 1 + 1 + 1 + 1 + 1 + 1 + 1 + 1 + 1 + 1 + 1 + 1 + 1 = bo at *
    generalize w.heap.size + 1 + 1 + 1 + 1 + 1 + 1 + 1 + 1 + 1 + 1 + 1 + 1 + 1 + 1 + 1 + 1 + 1 + 1 + 1 + 1 = bk at *
    generalize w.heap.size + 1 + 1 + 1 + 1 + 1 + 1 + 1 + 1 + 1 = bf at *
    have hc : j = 0 ∨ j = 1 ∨ j = 2 ∨ j = 3 := by omega
    rcases hc with rfl | rfl | rfl | rfl
    · by_cases he : s = ba [42]
      · have bz : (([42] : List UInt8) == s.toList) = true := by rw [he, ba_list]; exact beq_self_eq_true _
        have E1 := unhideI EQ
        rw [if_pos he] at E1
        subst E1
        clear he
        go_wp2_with fail
        go_ret
        exact ⟨rfl, unhideI HB⟩
      · have bz : (([42] : List UInt8) == s.toList) = false := nl_ne he
        have HE := hideI he
        clear he
        go_wp2_with fail
        go_roundg 2
        case measure => omega
        case rel => exact ⟨1, by decide, rfl, rfl, rfl, fun _ => unhideI HE, fun h => absurd h (by decide), fun h => absurd h (by decide)⟩
    · by_cases he : s = ba [47]
      · have bz : (([47] : List UInt8) == s.toList) = true := by rw [he, ba_list]; exact beq_self_eq_true _
        have E1 := unhideI EQ
        rw [if_neg (n0 (by decide))] at E1
        rw [if_pos he] at E1
        subst E1
        clear he
        go_wp2_with fail
        go_ret
        exact ⟨rfl, unhideI HB⟩
      · have bz : (([47] : List UInt8) == s.toList) = false := nl_ne he
        have HE := hideI he
        clear he
        go_wp2_with fail
        go_roundg 1
        case measure => omega
        case rel => exact ⟨2, by decide, rfl, rfl, rfl, fun _ => n0 (by decide), fun _ => unhideI HE, fun h => absurd h (by decide)⟩
    · by_cases he : s = ba [37]
      · have bz : (([37] : List UInt8) == s.toList) = true := by rw [he, ba_list]; exact beq_self_eq_true _
        have E1 := unhideI EQ
        rw [if_neg (n0 (by decide))] at E1
        rw [if_neg (n1 (by decide))] at E1
        rw [if_pos he] at E1
        subst E1
        clear he
        go_wp2_with fail
        go_ret
        exact ⟨rfl, unhideI HB⟩
      · have bz : (([37] : List UInt8) == s.toList) = false := nl_ne he
        have HE := hideI he
        clear he
        go_wp2_with fail
        go_roundg 0
        case measure => omega
        case rel => exact ⟨3, by decide, rfl, rfl, rfl, fun _ => n0 (by decide), fun _ => n1 (by decide), fun _ => unhideI HE⟩
    · have E1 := unhideI EQ
      rw [if_neg (n0 (by decide)), if_neg (n1 (by decide)), if_neg (n2 (by decide))] at E1
      subst E1
      go_wp2_with fail
      go_ret
      exact ⟨rfl, unhideI HB⟩
end Go.Proofs.YtbakhengcgclmaaGreatDoor
