/-
  The table of kinds (pairlegalref2.Fields), and Has.
-/
import Derived.Test.YtjlbenbfmookoaaInsG
import Derived.Test.YtjlbenbfmookoaaMem
import Derived.LoopN
import Derived.Deep.LoopGhost
import Derived.Laws.IdiomStrings
namespace Go.Proofs.Ytjlbenbfmookoaa
open Go.RowKit
set_option linter.unusedSimpArgs false
set_option linter.unusedVariables false

/-- The letters of a kind. -/
def fs (o : Int) : List UInt8 :=
  if kn o = true then (if hD o = true then [100] else []) ++ (if hS o = true then [115] else []) ++ (if hI o = true then [105] else []) ++ (if (hD o || hS o || hI o) = true then [] else [46]) else []
def fsb (o : Int) : ByteArray := ⟨(fs o).toArray⟩

theorem fs_tbl (k : Nat) (h : k < 33) (w : World) : (w.alloc (.cells #[.string ⟨#[46]⟩, .string ⟨#[100, 115]⟩, .string ⟨#[100, 105]⟩, .string ⟨#[100, 115, 105]⟩, .string ⟨#[100, 115, 105]⟩, .string ⟨#[100, 115]⟩, .string ⟨#[100, 115]⟩, .string ⟨#[100, 115]⟩, .string ⟨#[100, 115]⟩, .string ⟨#[100, 115]⟩, .string ⟨#[100, 115]⟩, .string ⟨#[100, 115]⟩, .string ⟨#[100, 115]⟩, .string ⟨#[100, 115]⟩, .string ⟨#[100]⟩, .string ⟨#[100]⟩, .string ⟨#[100]⟩, .string ⟨#[100]⟩, .string ⟨#[100]⟩, .string ⟨#[105]⟩, .string ⟨#[105]⟩, .string ⟨#[105]⟩, .string ⟨#[105]⟩, .string ⟨#[105]⟩, .string ⟨#[105]⟩, .string ⟨#[105]⟩, .string ⟨#[105]⟩, .string ⟨#[46]⟩, .string ⟨#[115]⟩, .string ⟨#[100]⟩, .string ⟨#[115]⟩, .string ⟨#[100]⟩, .string ⟨#[105]⟩] 9)).cell? ⟨w.heap.size, k, none⟩ = some (.string (fsb k)) := by
  have e : (w.alloc (.cells #[.string ⟨#[46]⟩, .string ⟨#[100, 115]⟩, .string ⟨#[100, 105]⟩, .string ⟨#[100, 115, 105]⟩, .string ⟨#[100, 115, 105]⟩, .string ⟨#[100, 115]⟩, .string ⟨#[100, 115]⟩, .string ⟨#[100, 115]⟩, .string ⟨#[100, 115]⟩, .string ⟨#[100, 115]⟩, .string ⟨#[100, 115]⟩, .string ⟨#[100, 115]⟩, .string ⟨#[100, 115]⟩, .string ⟨#[100, 115]⟩, .string ⟨#[100]⟩, .string ⟨#[100]⟩, .string ⟨#[100]⟩, .string ⟨#[100]⟩, .string ⟨#[100]⟩, .string ⟨#[105]⟩, .string ⟨#[105]⟩, .string ⟨#[105]⟩, .string ⟨#[105]⟩, .string ⟨#[105]⟩, .string ⟨#[105]⟩, .string ⟨#[105]⟩, .string ⟨#[105]⟩, .string ⟨#[46]⟩, .string ⟨#[115]⟩, .string ⟨#[100]⟩, .string ⟨#[115]⟩, .string ⟨#[100]⟩, .string ⟨#[105]⟩] 9)).cell? ⟨w.heap.size, k, none⟩ = (#[.string ⟨#[46]⟩, .string ⟨#[100, 115]⟩, .string ⟨#[100, 105]⟩, .string ⟨#[100, 115, 105]⟩, .string ⟨#[100, 115, 105]⟩, .string ⟨#[100, 115]⟩, .string ⟨#[100, 115]⟩, .string ⟨#[100, 115]⟩, .string ⟨#[100, 115]⟩, .string ⟨#[100, 115]⟩, .string ⟨#[100, 115]⟩, .string ⟨#[100, 115]⟩, .string ⟨#[100, 115]⟩, .string ⟨#[100, 115]⟩, .string ⟨#[100]⟩, .string ⟨#[100]⟩, .string ⟨#[100]⟩, .string ⟨#[100]⟩, .string ⟨#[100]⟩, .string ⟨#[105]⟩, .string ⟨#[105]⟩, .string ⟨#[105]⟩, .string ⟨#[105]⟩, .string ⟨#[105]⟩, .string ⟨#[105]⟩, .string ⟨#[105]⟩, .string ⟨#[105]⟩, .string ⟨#[46]⟩, .string ⟨#[115]⟩, .string ⟨#[100]⟩, .string ⟨#[115]⟩, .string ⟨#[100]⟩, .string ⟨#[105]⟩] : Array Value)[k]? := by simp [go_sem]
  rw [e]
  have hk := kinds k (by unfold kn; simp only [decide_eq_true_eq]; omega)
  rcases (show k = 0 ∨ k = 1 ∨ k = 2 ∨ k = 3 ∨ k = 4 ∨ k = 5 ∨ k = 6 ∨ k = 7 ∨ k = 8 ∨ k = 9 ∨ k = 10 ∨ k = 11 ∨ k = 12 ∨ k = 13 ∨ k = 14 ∨ k = 15 ∨ k = 16 ∨ k = 17 ∨ k = 18 ∨ k = 19 ∨ k = 20 ∨ k = 21 ∨ k = 22 ∨ k = 23 ∨ k = 24 ∨ k = 25 ∨ k = 26 ∨ k = 27 ∨ k = 28 ∨ k = 29 ∨ k = 30 ∨ k = 31 ∨ k = 32 by omega) with rfl | rfl | rfl | rfl | rfl | rfl | rfl | rfl | rfl | rfl | rfl | rfl | rfl | rfl | rfl | rfl | rfl | rfl | rfl | rfl | rfl | rfl | rfl | rfl | rfl | rfl | rfl | rfl | rfl | rfl | rfl | rfl | rfl <;> rfl

set_option maxHeartbeats 1000000 in
theorem fields_any (o : Int) (w : World) : Calls Try.prog 63 #[.int .i64 o] w fun e w' => e = .returned (.string (fsb o)) ∧ Below w.heap.size w w' := by
  by_cases h : kn o = true
  · obtain ⟨k, rfl, hk⟩ : ∃ k : Nat, o = k ∧ k < 33 := ⟨o.toNat, by unfold kn at h; simp only [decide_eq_true_eq] at h; omega, by unfold kn at h; simp only [decide_eq_true_eq] at h; omega⟩
    clear h
    have ht := fs_tbl k hk w
    generalize fsb k = s at *
    have h1 : ¬ (k : Int) < 0 := by omega
    have h2 : ¬ (33 : Int) ≤ k := by omega
    go_enter Try.func63, Try.ntmps63
    go_wp2
    go_ret
    exact ⟨rfl, (Below.refl _ _).alloc (Nat.le_refl _) _⟩
  · have hs : fsb o = ⟨#[]⟩ := by unfold fsb fs; rw [if_neg h]
    rw [hs]
    by_cases h1 : o < 0
    · go_enter Try.func63, Try.ntmps63
      go_wp2
      go_ret
      exact ⟨rfl, (Below.refl _ _).alloc (Nat.le_refl _) _⟩
    · have h2 : (33 : Int) ≤ o := by unfold kn at h; simp only [decide_eq_true_eq] at h; omega
      clear h
      go_enter Try.func63, Try.ntmps63
      go_wp2
      go_ret
      exact ⟨rfl, (Below.refl _ _).alloc (Nat.le_refl _) _⟩
end Go.Proofs.Ytjlbenbfmookoaa

/-
  pairlegalref2.Has: has a kind a field?
-/
namespace Go.Proofs.Ytjlbenbfmookoaa
open Go.RowKit
set_option linter.unusedSimpArgs false
set_option linter.unusedVariables false

theorem row_cell (W : World) (l : List UInt8) (cap : Nat) (T : TypeId) (fr : Nat × Nat) (j : Nat) (h : j < l.length) : (W.alloc (.cells (bytesRow ⟨l.toArray⟩ cap) T fr)).cell? ⟨W.heap.size, j, none⟩ = some (.int .u8 ((l[j]'h).toNat : Int)) := by
  have e : (W.alloc (.cells (bytesRow ⟨l.toArray⟩ cap) T fr)).cell? ⟨W.heap.size, j, none⟩ = (bytesRow ⟨l.toArray⟩ cap)[j]? := by
    unfold World.cell?; rw [show (W.alloc (.cells (bytesRow ⟨l.toArray⟩ cap) T fr)).heap[W.heap.size]? = some (.cells (bytesRow ⟨l.toArray⟩ cap) T fr) from heap_alloc_new W _]; simp
  rw [e]
  unfold bytesRow
  rw [Array.getElem?_append_left (by simpa using h)]
  simp [h]

/-- Is a letter among them? -/
def among (l : List UInt8) (c : Int) : Bool := l.any fun x => ((x.toNat : Int) == c)
theorem among_yes {l : List UInt8} {c : Int} (j : Nat) (h : j < l.length) (e : ((l[j]'h).toNat : Int) = c) : among l c = true := by
  unfold among; rw [List.any_eq_true]; exact ⟨l[j], List.getElem_mem h, by simp [e]⟩
theorem among_no {l : List UInt8} {c : Int} (hh : ∀ j (h : j < l.length), ((l[j]'h).toNat : Int) ≠ c) : among l c = false := by
  unfold among; rw [List.any_eq_false]
  intro x hx
  obtain ⟨j, hj, rfl⟩ := List.getElem_of_mem hx
  simp [hh j hj]

set_option maxHeartbeats 1000000 in
theorem has_any (o c : Int) (w : World) : Calls Try.prog 53 #[.int .i64 o, .int .u8 c] w fun e w' => e = .returned (.bool (among (fs o) c)) ∧ Below w.heap.size w w' := by
  have F := fun w => fields_any o w
  have hlen : (fs o).length ≤ 4 := by unfold fs; repeat' split <;> simp
  unfold fsb at F
  generalize fs o = l at *
  have hbs := fun w => run_bytes_of_string (P := Try.prog) w 9 28 5 ⟨l.toArray⟩ Try.underlying9 Try.underlying28 Try.underlying5
  have hsz : (⟨l.toArray⟩ : ByteArray).size = l.length := rfl
  simp only [hsz] at hbs
  go_enter Try.func53, Try.ntmps53
  go_wp2_with (go_at_call 63; refine (F _).mono ?_; rintro e w1 ⟨rfl, k1⟩)
  clear hbs F hsz
  generalize hcap : grownCap w1 l.length 0 5 = cap
  have HC : Hid (∀ j (h : j < l.length), ((w1.alloc (.cells (bytesRow ⟨l.toArray⟩ cap) 5 ((bytesRow ⟨l.toArray⟩ cap).size, (bytesRow ⟨l.toArray⟩ cap).size + 1))).drew).cell? ⟨w1.heap.size, j, none⟩ = some (.int .u8 ((l[j]'h).toNat : Int))) := fun j h => row_cell w1 l cap 5 _ j h
  have HB : Hid (Below w.heap.size w ((w1.alloc (.cells (bytesRow ⟨l.toArray⟩ cap) 5 ((bytesRow ⟨l.toArray⟩ cap).size, (bytesRow ⟨l.toArray⟩ cap).size + 1))).drew)) := (k1.alloc k1.size _).drew
  generalize (w1.alloc (.cells (bytesRow ⟨l.toArray⟩ cap) 5 ((bytesRow ⟨l.toArray⟩ cap).size, (bytesRow ⟨l.toArray⟩ cap).size + 1))).drew = W at *
  clear hcap k1
  go_loopg [11] l.length (fun g t wr => ∃ k : Nat, k ≤ l.length ∧ g = l.length - k ∧ t = .int .i64 k ∧ wr = W ∧ ∀ j (h : j < l.length), j < k → ((l[j]'h).toNat : Int) ≠ c)
  case atStart => exact ⟨0, Nat.zero_le _, rfl, rfl, rfl, fun _ _ h => absurd h (by omega)⟩
  case round =>
    obtain ⟨k, hk, rfl, rfl, rfl, hno⟩ := hrel
    have HN := hideI hno
    clear hno
    by_cases hlt : k < l.length
    · have hc := (unhideI HC) k hlt
      by_cases he : (((l[k]'hlt).toNat : Int) = c)
      · have hr := hideI (among_yes k hlt he)
        have he1 : (((l[k]'hlt).toNat : Int) == c) = true := by simp [he]
        clear he
        generalize ((l[k]'hlt).toNat : Int) = x at *
        go_wp2
        go_ret
        exact ⟨by rw [unhideI hr]; rfl, unhideI HB⟩
      · have H2 := hideI he
        have he1 : (((l[k]'hlt).toNat : Int) == c) = false := by simp [he]
        clear he
        generalize hx : ((l[k]'hlt).toNat : Int) = x at *
        have HX := hideI hx
        clear hx
        go_wp2
        go_roundg (l.length - (k + 1))
        case measure => omega
        case rel =>
          refine ⟨k + 1, by omega, rfl, by go_num, rfl, fun j h hj => ?_⟩
          by_cases e : j = k
          · subst e; rw [unhideI HX]; exact unhideI H2
          · exact (unhideI HN) j h (by omega)
    · have hr := hideI (among_no (l := l) (c := c) (fun j h => (unhideI HN) j h (by omega)))
      go_wp2
      go_ret
      exact ⟨by rw [unhideI hr]; rfl, unhideI HB⟩

theorem among_d (o : Int) : among (fs o) 100 = hD o := by
  unfold fs
  by_cases h : kn o = true
  · rw [if_pos h]
    cases a : hD o <;> cases b : hS o <;> cases c : hI o <;> simp [among]
  · rw [if_neg h, (kn_no (by simpa using h)).1]; rfl
theorem among_s (o : Int) : among (fs o) 115 = hS o := by
  unfold fs
  by_cases h : kn o = true
  · rw [if_pos h]
    cases a : hD o <;> cases b : hS o <;> cases c : hI o <;> simp [among]
  · rw [if_neg h, (kn_no (by simpa using h)).2.1]; rfl
theorem among_i (o : Int) : among (fs o) 105 = hI o := by
  unfold fs
  by_cases h : kn o = true
  · rw [if_pos h]
    cases a : hD o <;> cases b : hS o <;> cases c : hI o <;> simp [among]
  · rw [if_neg h, (kn_no (by simpa using h)).2.2]; rfl
theorem has_d (o : Int) (w : World) : Calls Try.prog 53 #[.int .i64 o, .int .u8 100] w fun e w' => e = .returned (.bool (hD o)) ∧ Below w.heap.size w w' := by rw [← among_d]; exact has_any o 100 w
theorem has_s (o : Int) (w : World) : Calls Try.prog 53 #[.int .i64 o, .int .u8 115] w fun e w' => e = .returned (.bool (hS o)) ∧ Below w.heap.size w w' := by rw [← among_s]; exact has_any o 115 w
theorem has_i (o : Int) (w : World) : Calls Try.prog 53 #[.int .i64 o, .int .u8 105] w fun e w' => e = .returned (.bool (hI o)) ∧ Below w.heap.size w w' := by rw [← among_i]; exact has_any o 105 w
end Go.Proofs.Ytjlbenbfmookoaa
