/-
  The table of kinds (pairlegalref2.Fields), and Has.
-/
import Derived.Test.YteoifpkbknkpjaaInsG
import Derived.Test.YteoifpkbknkpjaaMem
import Derived.LoopN
namespace Go.Proofs.Yteoifpkbknkpjaa
open Go.RowKit
set_option linter.unusedSimpArgs false
set_option linter.unusedVariables false

/-- The letters of a kind. -/
def fs (o : Int) : List UInt8 :=
  if kn o = true then (if hD o = true then [100] else []) ++ (if hS o = true then [115] else []) ++ (if hI o = true then [105] else []) ++ (if (hD o || hS o || hI o) = true then [] else [46]) else []
def fsb (o : Int) : ByteArray := ⟨(fs o).toArray⟩

theorem fs_tbl (k : Nat) (h : k < 33) (w : World) : (w.alloc (.cells #[.string ⟨#[46]⟩, .string ⟨#[100, 115]⟩, .string ⟨#[100, 105]⟩, .string ⟨#[100, 115, 105]⟩, .string ⟨#[100, 115, 105]⟩, .string ⟨#[100, 115]⟩, .string ⟨#[100, 115]⟩, .string ⟨#[100, 115]⟩, .string ⟨#[100, 115]⟩, .string ⟨#[100, 115]⟩, .string ⟨#[100, 115]⟩, .string ⟨#[100, 115]⟩, .string ⟨#[100, 115]⟩, .string ⟨#[100, 115]⟩, .string ⟨#[100]⟩, .string ⟨#[100]⟩, .string ⟨#[100]⟩, .string ⟨#[100]⟩, .string ⟨#[100]⟩, .string ⟨#[105]⟩, .string ⟨#[105]⟩, .string ⟨#[105]⟩, .string ⟨#[105]⟩, .string ⟨#[105]⟩, .string ⟨#[105]⟩, .string ⟨#[105]⟩, .string ⟨#[105]⟩, .string ⟨#[46]⟩, .string ⟨#[115]⟩, .string ⟨#[100]⟩, .string ⟨#[115]⟩, .string ⟨#[100]⟩, .string ⟨#[105]⟩] 9)).cell? ⟨w.heap.size, k, none⟩ = some (.string (fsb k)) := by
  have e : (w.alloc (.cells #[.string ⟨#[46]⟩, .string ⟨#[100, 115]⟩, .string ⟨#[100, 105]⟩, .string ⟨#[100, 115, 105]⟩, .string ⟨#[100, 115, 105]⟩, .string ⟨#[100, 115]⟩, .string ⟨#[100, 115]⟩, .string ⟨#[100, 115]⟩, .string ⟨#[100, 115]⟩, .string ⟨#[100, 115]⟩, .string ⟨#[100, 115]⟩, .string ⟨#[100, 115]⟩, .string ⟨#[100, 115]⟩, .string ⟨#[100, 115]⟩, .string ⟨#[100]⟩, .string ⟨#[100]⟩, .string ⟨#[100]⟩, .string ⟨#[100]⟩, .string ⟨#[100]⟩, .string ⟨#[105]⟩, .string ⟨#[105]⟩, .string ⟨#[105]⟩, .string ⟨#[105]⟩, .string ⟨#[105]⟩, .string ⟨#[105]⟩, .string ⟨#[105]⟩, .string ⟨#[105]⟩, .string ⟨#[46]⟩, .string ⟨#[115]⟩, .string ⟨#[100]⟩, .string ⟨#[115]⟩, .string ⟨#[100]⟩, .string ⟨#[105]⟩] 9)).cell? ⟨w.heap.size, k, none⟩ = (#[.string ⟨#[46]⟩, .string ⟨#[100, 115]⟩, .string ⟨#[100, 105]⟩, .string ⟨#[100, 115, 105]⟩, .string ⟨#[100, 115, 105]⟩, .string ⟨#[100, 115]⟩, .string ⟨#[100, 115]⟩, .string ⟨#[100, 115]⟩, .string ⟨#[100, 115]⟩, .string ⟨#[100, 115]⟩, .string ⟨#[100, 115]⟩, .string ⟨#[100, 115]⟩, .string ⟨#[100, 115]⟩, .string ⟨#[100, 115]⟩, .string ⟨#[100]⟩, .string ⟨#[100]⟩, .string ⟨#[100]⟩, .string ⟨#[100]⟩, .string ⟨#[100]⟩, .string ⟨#[105]⟩, .string ⟨#[105]⟩, .string ⟨#[105]⟩, .string ⟨#[105]⟩, .string ⟨#[105]⟩, .string ⟨#[105]⟩, .string ⟨#[105]⟩, .string ⟨#[105]⟩, .string ⟨#[46]⟩, .string ⟨#[115]⟩, .string ⟨#[100]⟩, .string ⟨#[115]⟩, .string ⟨#[100]⟩, .string ⟨#[105]⟩] : Array Value)[k]? := by simp [go_sem]
  rw [e]
  have hk := kinds k (by unfold kn; simp only [decide_eq_true_eq]; omega)
  rcases (show k = 0 ∨ k = 1 ∨ k = 2 ∨ k = 3 ∨ k = 4 ∨ k = 5 ∨ k = 6 ∨ k = 7 ∨ k = 8 ∨ k = 9 ∨ k = 10 ∨ k = 11 ∨ k = 12 ∨ k = 13 ∨ k = 14 ∨ k = 15 ∨ k = 16 ∨ k = 17 ∨ k = 18 ∨ k = 19 ∨ k = 20 ∨ k = 21 ∨ k = 22 ∨ k = 23 ∨ k = 24 ∨ k = 25 ∨ k = 26 ∨ k = 27 ∨ k = 28 ∨ k = 29 ∨ k = 30 ∨ k = 31 ∨ k = 32 by omega) with rfl | rfl | rfl | rfl | rfl | rfl | rfl | rfl | rfl | rfl | rfl | rfl | rfl | rfl | rfl | rfl | rfl | rfl | rfl | rfl | rfl | rfl | rfl | rfl | rfl | rfl | rfl | rfl | rfl | rfl | rfl | rfl | rfl <;> rfl

set_option maxHeartbeats 1000000 in
theorem fields_any (o : Int) (w : World) : Calls Try.prog 40 #[.int .i64 o] w fun e w' => e = .returned (.string (fsb o)) ∧ Below w.heap.size w w' := by
  by_cases h : kn o = true
  · obtain ⟨k, rfl, hk⟩ : ∃ k : Nat, o = k ∧ k < 33 := ⟨o.toNat, by unfold kn at h; simp only [decide_eq_true_eq] at h; omega, by unfold kn at h; simp only [decide_eq_true_eq] at h; omega⟩
    clear h
    have ht := fs_tbl k hk w
    generalize fsb k = s at *
    have h1 : ¬ (k : Int) < 0 := by omega
    have h2 : ¬ (33 : Int) ≤ k := by omega
    go_enter Try.func40, Try.ntmps40
    go_wp2
    go_ret
    exact ⟨rfl, (Below.refl _ _).alloc (Nat.le_refl _) _⟩
  · have hs : fsb o = ⟨#[]⟩ := by unfold fsb fs; rw [if_neg h]
    rw [hs]
    by_cases h1 : o < 0
    · go_enter Try.func40, Try.ntmps40
      go_wp2
      go_ret
      exact ⟨rfl, (Below.refl _ _).alloc (Nat.le_refl _) _⟩
    · have h2 : (33 : Int) ≤ o := by unfold kn at h; simp only [decide_eq_true_eq] at h; omega
      clear h
      go_enter Try.func40, Try.ntmps40
      go_wp2
      go_ret
      exact ⟨rfl, (Below.refl _ _).alloc (Nat.le_refl _) _⟩
end Go.Proofs.Yteoifpkbknkpjaa
