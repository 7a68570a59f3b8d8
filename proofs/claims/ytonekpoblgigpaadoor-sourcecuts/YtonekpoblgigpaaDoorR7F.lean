/-
  Types of numbers: the type of a number that is written in a text.
-/
import Derived.Test.YtonekpoblgigpaaDoorR7D
namespace Go.Proofs.YtonekpoblgigpaaDoor
open Go.RowKit
set_option linter.unusedSimpArgs false
set_option linter.unusedVariables false

/-- The greatest number of a type. -/
def gr (b : Int) (s : Bool) : Int := if s = true then 2 ^ (b - 1).toNat - 1 else 2 ^ b.toNat - 1
theorem greatest_any (b : Int) (s : Bool) (w : World) (h : b = 16 ∨ b = 32 ∨ b = 64) : Calls Tryd.prog 46 #[.agg #[.int .i64 b, .bool s]] w fun e w' => e = .returned (.int .u64 (gr b s)) ∧ Below w.heap.size w w' := by
  rcases h with rfl | rfl | rfl <;> cases s
  all_goals
    go_enter Tryd.func46, Tryd.ntmps46
    go_wp2
    go_ret
    exact ⟨by kernel_rfl, below_a _ _⟩

def lit (n : Int) (u : Bool) : Int × Bool × Int := if n ≤ gr 16 (!u) then (16, !u, 0) else if n ≤ gr 32 (!u) then (32, !u, 0) else if n ≤ gr 64 (!u) then (64, !u, 0) else (0, false, 3)
set_option maxRecDepth 100000 in
set_option maxHeartbeats 4000000 in
theorem literal_any (n : Int) (u : Bool) (w : World) : Calls Tryd.prog 35 #[.int .u64 n, .bool u] w fun e w' => e = .returned (.tuple #[.agg #[.int .i64 (lit n u).1, .bool (lit n u).2.1], .int .i64 (lit n u).2.2]) ∧ Below w.heap.size w w' := by
  have HG16 := hide (fun (w : World) => greatest_any 16 (!u) w (.inl rfl))
  have HG32 := hide (fun (w : World) => greatest_any 32 (!u) w (.inr (.inl rfl)))
  have HG64 := hide (fun (w : World) => greatest_any 64 (!u) w (.inr (.inr rfl)))
  have HL : Hid (lit n u = if n ≤ gr 16 (!u) then (16, !u, 0) else if n ≤ gr 32 (!u) then (32, !u, 0) else if n ≤ gr 64 (!u) then (64, !u, 0) else (0, false, 3)) := rfl
  generalize lit n u = LI at *
  generalize gr 16 (!u) = g16 at *
  generalize gr 32 (!u) = g32 at *
  generalize gr 64 (!u) = g64 at *
  obtain ⟨LB, LS, LE⟩ := LI
  simp only
  go_enter Tryd.func35, Tryd.ntmps35
  go_wp2_with fail
  have I0 := hide (And.intro (below_a w (.cells #[.int .i64 0, .bool false] 31)) (Box.new w #[.int .i64 0, .bool false] 31))
  generalize w.alloc (.cells #[.int .i64 0, .bool false] 31) = wa at *
  go_loopg [6] 3 (fun g t wr => ∃ i : Nat, i ≤ 3 ∧ g = 3 - i ∧ t = .int .i64 ([16, 32, 64, 128].getD i 0) ∧ Hid (Below w.heap.size w wr ∧ Box wr w.heap.size [.int .i64 0, .bool false]) ∧ Hid ((1 ≤ i → ¬ n ≤ g16) ∧ (2 ≤ i → ¬ n ≤ g32) ∧ (3 ≤ i → ¬ n ≤ g64)))
  case atStart => exact ⟨0, by decide, rfl, rfl, I0, ⟨(fun h => by omega), (fun h => by omega), (fun h => by omega)⟩⟩
  case round =>
    obtain ⟨i, hi, hg, rfl, I, N⟩ := hrel
    clear I0
    have hi5 : i = 0 ∨ i = 1 ∨ i = 2 ∨ i = 3 := by omega
    have lr := (unhide I).2.1
    rcases hi5 with rfl | rfl | rfl | rfl
    · dsimp only [List.getD, List.getElem?_cons_zero, List.getElem?_cons_succ, Option.getD]
      go_wp2_with fail
      refine (unhide HG16 _).mono ?_
      rintro e wt ⟨rfl, kt⟩
      have L := hide (And.intro (bT (unhide I).1 (bT (below_a wr (.cells #[.int .i64 16, .bool (!u)] 31)) kt)) ((unhide I).2.step (bT (below_a wr (.cells #[.int .i64 16, .bool (!u)] 31)) kt)))
      have BT := hide ((Box.new wr #[.int .i64 16, .bool (!u)] 31).step kt)
      generalize wr.heap.size = pt at *
      clear kt
      obtain ⟨t0, t1⟩ := (unhide BT).at2
      obtain ⟨r0, r1⟩ := (unhide L).2.at2
      have rf := (unhide L).2.2.2
      by_cases hz : n ≤ g16
      · have dz : decide (n ≤ g16) = true := by simpa using hz
        unfold Hid at HL
        rw [if_pos hz] at HL
        simp only [Prod.mk.injEq] at HL
        obtain ⟨rfl, rfl, rfl⟩ := HL
        have p0 := (unhide L).2.put0
        have p1 := (unhide L).2.put1
        go_wp2_with fail
        exact bodyPost_ret (v := .tuple #[.agg #[.int .i64 16, .bool (!u)], .int .i64 0]) (by simp [results, Tryd.results35, go_sem, p0, p1]) rfl ⟨rfl, below_2 (unhide L).1 (Nat.le_refl _) _ _⟩
      · have dz : decide (n ≤ g16) = false := by simpa using hz
        have hz' := hide hz
        clear hz
        go_wp2_with fail
        go_roundg 2
        case measure => omega
        case rel => exact ⟨1, by decide, rfl, rfl, L, ⟨(fun _ => unhide hz'), (fun h => by omega), (fun h => by omega)⟩⟩
    · dsimp only [List.getD, List.getElem?_cons_zero, List.getElem?_cons_succ, Option.getD]
      go_wp2_with fail
      refine (unhide HG32 _).mono ?_
      rintro e wt ⟨rfl, kt⟩
      have L := hide (And.intro (bT (unhide I).1 (bT (below_a wr (.cells #[.int .i64 32, .bool (!u)] 31)) kt)) ((unhide I).2.step (bT (below_a wr (.cells #[.int .i64 32, .bool (!u)] 31)) kt)))
      have BT := hide ((Box.new wr #[.int .i64 32, .bool (!u)] 31).step kt)
      generalize wr.heap.size = pt at *
      clear kt
      obtain ⟨t0, t1⟩ := (unhide BT).at2
      obtain ⟨r0, r1⟩ := (unhide L).2.at2
      have rf := (unhide L).2.2.2
      by_cases hz : n ≤ g32
      · have dz : decide (n ≤ g32) = true := by simpa using hz
        unfold Hid at HL
        rw [if_neg (by have := (unhide N).1 (by decide); omega)] at HL
        rw [if_pos hz] at HL
        simp only [Prod.mk.injEq] at HL
        obtain ⟨rfl, rfl, rfl⟩ := HL
        have p0 := (unhide L).2.put0
        have p1 := (unhide L).2.put1
        go_wp2_with fail
        exact bodyPost_ret (v := .tuple #[.agg #[.int .i64 32, .bool (!u)], .int .i64 0]) (by simp [results, Tryd.results35, go_sem, p0, p1]) rfl ⟨rfl, below_2 (unhide L).1 (Nat.le_refl _) _ _⟩
      · have dz : decide (n ≤ g32) = false := by simpa using hz
        have hz' := hide hz
        clear hz
        go_wp2_with fail
        go_roundg 1
        case measure => omega
        case rel => exact ⟨2, by decide, rfl, rfl, L, ⟨(fun _ => (unhide N).1 (by decide)), (fun _ => unhide hz'), (fun h => by omega)⟩⟩
    · dsimp only [List.getD, List.getElem?_cons_zero, List.getElem?_cons_succ, Option.getD]
      go_wp2_with fail
      refine (unhide HG64 _).mono ?_
      rintro e wt ⟨rfl, kt⟩
      have L := hide (And.intro (bT (unhide I).1 (bT (below_a wr (.cells #[.int .i64 64, .bool (!u)] 31)) kt)) ((unhide I).2.step (bT (below_a wr (.cells #[.int .i64 64, .bool (!u)] 31)) kt)))
      have BT := hide ((Box.new wr #[.int .i64 64, .bool (!u)] 31).step kt)
      generalize wr.heap.size = pt at *
      clear kt
      obtain ⟨t0, t1⟩ := (unhide BT).at2
      obtain ⟨r0, r1⟩ := (unhide L).2.at2
      have rf := (unhide L).2.2.2
      by_cases hz : n ≤ g64
      · have dz : decide (n ≤ g64) = true := by simpa using hz
        unfold Hid at HL
        rw [if_neg (by have := (unhide N).1 (by decide); omega)] at HL
        rw [if_neg (by have := (unhide N).2.1 (by decide); omega)] at HL
        rw [if_pos hz] at HL
        simp only [Prod.mk.injEq] at HL
        obtain ⟨rfl, rfl, rfl⟩ := HL
        have p0 := (unhide L).2.put0
        have p1 := (unhide L).2.put1
        go_wp2_with fail
        exact bodyPost_ret (v := .tuple #[.agg #[.int .i64 64, .bool (!u)], .int .i64 0]) (by simp [results, Tryd.results35, go_sem, p0, p1]) rfl ⟨rfl, below_2 (unhide L).1 (Nat.le_refl _) _ _⟩
      · have dz : decide (n ≤ g64) = false := by simpa using hz
        have hz' := hide hz
        clear hz
        go_wp2_with fail
        go_roundg 0
        case measure => omega
        case rel => exact ⟨3, by decide, rfl, rfl, L, ⟨(fun _ => (unhide N).1 (by decide)), (fun _ => (unhide N).2.1 (by decide)), (fun _ => unhide hz')⟩⟩
    · dsimp only [List.getD, List.getElem?_cons_zero, List.getElem?_cons_succ, Option.getD]
      unfold Hid at HL
      rw [if_neg (by have := (unhide N).1 (by decide); omega), if_neg (by have := (unhide N).2.1 (by decide); omega), if_neg (by have := (unhide N).2.2 (by decide); omega)] at HL
      simp only [Prod.mk.injEq] at HL
      obtain ⟨rfl, rfl, rfl⟩ := HL
      obtain ⟨r0, r1⟩ := (unhide I).2.at2
      have rf := (unhide I).2.2.2
      have p0 := (unhide I).2.put0
      have p1 := (unhide I).2.put1
      go_wp2_with fail
      exact bodyPost_ret (v := .tuple #[.agg #[.int .i64 0, .bool false], .int .i64 3]) (by simp [results, Tryd.results35, go_sem, p0, p1]) rfl ⟨rfl, below_2 (unhide I).1 (Nat.le_refl _) _ _⟩
end Go.Proofs.YtonekpoblgigpaaDoor
