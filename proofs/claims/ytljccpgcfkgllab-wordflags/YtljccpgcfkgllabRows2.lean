/-
  Rows of words in memory: Split lays one, and Same tells that two are one.
-/
import Derived.Test.YtljccpgcfkgllabWords
import Derived.Test.YtljccpgcfkgllabAlive
import Derived.Test.YtljccpgcfkgllabShift
import Derived.Deep.LoopGhost
namespace Go.Proofs.Ytljccpgcfkgllab
open Go.RowKit

/-- A row of words at a block's head. -/
def Row (u : World) (b L : Nat) (f : Nat → Int) : Prop := b < u.heap.size ∧ ∀ j, j < L → u.cell? ⟨b, j, none⟩ = some (.int .i64 (f j))
theorem Row.step {u v : World} {b L : Nat} {f : Nat → Int} (R : Row u b L f) (k : Below u.heap.size u v) : Row v b L f :=
  ⟨Nat.lt_of_lt_of_le R.1 k.size, fun j hj => by rw [k.cell (p := ⟨b, j, none⟩) R.1]; exact R.2 j hj⟩
theorem Row.alloc {u : World} {b L : Nat} {f : Nat → Int} (R : Row u b L f) (o : Obj) : Row (u.alloc o) b L f := R.step ((Below.refl _ _).alloc (Nat.le_refl _) _)
theorem Row.same {u : World} {b L : Nat} {f g : Nat → Int} (R : Row u b L f) (h : ∀ j, j < L → f j = g j) : Row u b L g := ⟨R.1, fun j hj => by rw [← h j hj]; exact R.2 j hj⟩
theorem Row.off {u : World} {b L : Nat} {f : Nat → Int} (R : Row u b L f) : ∀ i, i < L → u.cell? ⟨b, 0 + i, none⟩ = some (.int .i64 (f i)) := fun i hi => by rw [Nat.zero_add]; exact R.2 i hi
/-- One cell. -/
def At (u : World) (b i : Nat) (v : Value) : Prop := b < u.heap.size ∧ u.cell? ⟨b, i, none⟩ = some v
theorem At.step {u v : World} {b i : Nat} {x : Value} (R : At u b i x) (k : Below u.heap.size u v) : At v b i x :=
  ⟨Nat.lt_of_lt_of_le R.1 k.size, by rw [k.cell (p := ⟨b, i, none⟩) R.1]; exact R.2⟩

/-- Word j of a number. -/
def wdf (c : Int) (j : Nat) : Int := c / 65536 ^ j % 65536
/-- So many words has a number of a width. -/
def Wide (n : Int) (L : Nat) : Prop := n = 16 ∧ L = 1 ∨ n = 32 ∧ L = 2 ∨ n = 64 ∧ L = 4
theorem Wide.isW {n : Int} {L : Nat} (h : Wide n L) : IsW n := by
  rcases h with ⟨rfl, rfl⟩ | ⟨rfl, rfl⟩ | ⟨rfl, rfl⟩
  · exact .inr (.inl rfl)
  · exact .inr (.inr (.inl rfl))
  · exact .inr (.inr (.inr rfl))
theorem Wide.len {n : Int} {L : Nat} (h : Wide n L) : 1 ≤ L ∧ L ≤ 4 := by rcases h with ⟨rfl, rfl⟩ | ⟨rfl, rfl⟩ | ⟨rfl, rfl⟩ <;> decide
theorem wdf_0 (c : Int) : wdf c 0 = c % 65536 := by unfold wdf; simp
theorem wdf_1 (c : Int) : wdf c 1 = c / 65536 % 65536 := by unfold wdf; simp
theorem wdf_2 (c : Int) : wdf c 2 = c / 65536 / 65536 % 65536 := by
  unfold wdf; rw [show (65536 : Int) ^ 2 = 65536 * 65536 from by decide]; omega
theorem wdf_3 (c : Int) : wdf c 3 = c / 65536 / 65536 / 65536 % 65536 := by
  unfold wdf; rw [show (65536 : Int) ^ 3 = 65536 * 65536 * 65536 from by decide]; omega

theorem split_row (x n : Int) (L : Nat) (w : World) (h : Wide n L) (hx : U x) : Calls Try.prog 14 #[.int .u64 x, .int .i64 n] w fun e w' => e = .returned (.tuple #[.slice (some ⟨w.heap.size, 0, none⟩) L L, .int .i64 0]) ∧ Below w.heap.size w w' ∧ Row w' w.heap.size L (wdf (cut n x)) := by
  rcases h with ⟨rfl, rfl⟩ | ⟨rfl, rfl⟩ | ⟨rfl, rfl⟩
  · refine (split_16 x w hx).mono ?_
    rintro e w' ⟨rfl, rfl⟩
    refine ⟨rfl, (Below.refl _ _).alloc (Nat.le_refl _) _, by simp, fun j hj => ?_⟩
    obtain rfl : j = 0 := by omega
    rw [wdf_0]; simp [go_sem]
  · refine (split_32 x w hx).mono ?_
    rintro e w' ⟨rfl, rfl⟩
    refine ⟨rfl, (Below.refl _ _).alloc (Nat.le_refl _) _, by simp, fun j hj => ?_⟩
    have hj' : j = 0 ∨ j = 1 := by omega
    rcases hj' with rfl | rfl
    · rw [wdf_0]; simp [go_sem]
    · rw [wdf_1]; simp [go_sem]
  · refine (split_64 x w hx).mono ?_
    rintro e w' ⟨rfl, rfl⟩
    refine ⟨rfl, (Below.refl _ _).alloc (Nat.le_refl _) _, by simp, fun j hj => ?_⟩
    have hj' : j = 0 ∨ j = 1 ∨ j = 2 ∨ j = 3 := by omega
    rcases hj' with rfl | rfl | rfl | rfl
    · rw [wdf_0]; simp [go_sem]
    · rw [wdf_1]; simp [go_sem]
    · rw [wdf_2]; simp [go_sem]
    · rw [wdf_3]; simp [go_sem]

set_option maxHeartbeats 1000000 in
theorem same_yes (L : Nat) (f : Nat → Int) (ba ka bb kb : Nat) (w : World) (hL : L ≤ 4) (ra : Row w ba L f) (rb : Row w bb L f) :
    Calls Try.prog 19 #[.slice (some ⟨ba, 0, none⟩) L ka, .slice (some ⟨bb, 0, none⟩) L kb] w fun e w' => e = .returned (.bool true) ∧ ∃ q, w' = w.drewN q := by
  have RA := hide ra
  have RB := hide rb
  clear ra rb
  have hne : ((L : Int) != (L : Int)) = false := by simp
  go_enter Try.func19, Try.ntmps19
  go_wp2_with fail
  go_loopg [13] L (fun g t wr => ∃ (i q : Nat), i ≤ L ∧ g = L - i ∧ t = .int .i64 i ∧ wr = w.drewN q)
  case atStart => exact ⟨0, 0, Nat.zero_le _, rfl, rfl, rfl⟩
  case round =>
    obtain ⟨i, q, hi, rfl, rfl, rfl⟩ := hrel
    by_cases hlt : i < L
    · have x1 : (w.drewN q).cell? ⟨ba, i, none⟩ = some (.int .i64 (f i)) := (unhide RA).2 i hlt
      have x2 : (w.drewN q).cell? ⟨bb, i, none⟩ = some (.int .i64 (f i)) := (unhide RB).2 i hlt
      have x3 : w.cell? ⟨ba, i, none⟩ = some (.int .i64 (f i)) := (unhide RA).2 i hlt
      have x4 : w.cell? ⟨bb, i, none⟩ = some (.int .i64 (f i)) := (unhide RB).2 i hlt
      go_wp2_with fail
      go_quiet (fail)
      go_wp2_with fail
      go_roundg (L - (i + 1))
      case measure => omega
      case rel => exact ⟨i + 1, _, by omega, rfl, by go_num, rfl⟩
    · go_wp2
      go_ret
      exact ⟨rfl, _, rfl⟩
end Go.Proofs.Ytljccpgcfkgllab
