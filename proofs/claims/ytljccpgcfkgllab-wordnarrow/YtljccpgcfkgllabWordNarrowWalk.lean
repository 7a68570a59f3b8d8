/-
  WordNarrow answers true: of a sum, a difference and a product the lower bits hang on lower bits alone.
-/
import Derived.Test.YtljccpgcfkgllabAlive
import Derived.Test.YtljccpgcfkgllabShift
import Derived.Test.YtljccpgcfkgllabPlain2
namespace Go.Proofs.Ytljccpgcfkgllab
open Go.RowKit

theorem ba {w a b : World} {o : Obj} (h : Below (w.heap.size + 1) (w.alloc o) a) (k : Below a.heap.size a b) : Below (w.heap.size + 1) (w.alloc o) b :=
  h.trans (k.mono (by have := h.size; simpa using this))
theorem cut_narrow {n m : Int} (hn : IsW n) (hm : IsW m) (h : n ≤ m) (x : Int) : cut n (cut m x) = cut n x := by
  obtain ⟨j, rfl, _, ej⟩ := md_nat hn
  obtain ⟨k, rfl, _, ek⟩ := md_nat hm
  unfold cut; rw [ej, ek]
  refine Int.emod_emod_of_dvd x ⟨2 ^ (k - j), ?_⟩
  rw [← Int.pow_add]; congr 1; omega

set_option maxHeartbeats 400000 in
theorem wn_no (a b n m : Int) (w : World) (h : NoW n) :
    Calls Try.prog 7 #[.int .u64 a, .int .u64 b, .int .i64 n, .int .i64 m] w fun e w' => e = .returned (.bool true) ∧ Below w.heap.size w w' := by
  go_enter Try.func7, Try.ntmps7
  go_wp2_with fail
  refine (alive_any _).mono ?_
  rintro e w1 ⟨rfl, hb⟩
  go_wp2_with (first | (go_at_call 9; refine (width_no _ _ h).mono ?_; rintro e w' ⟨rfl, rfl⟩))
  go_ret
  exact ⟨rfl, hb⟩

set_option maxHeartbeats 400000 in
theorem wn_no2 (a b n m : Int) (w : World) (h : IsW n) (h' : NoW m) :
    Calls Try.prog 7 #[.int .u64 a, .int .u64 b, .int .i64 n, .int .i64 m] w fun e w' => e = .returned (.bool true) ∧ Below w.heap.size w w' := by
  go_enter Try.func7, Try.ntmps7
  go_wp2_with fail
  refine (alive_any _).mono ?_
  rintro e w1 ⟨rfl, hb⟩
  go_wp2_with fail
  refine (width_yes _ h _).mono ?_
  rintro e w' ⟨rfl, rfl⟩
  go_wp2_with fail
  refine (width_no _ _ h').mono ?_
  rintro e w' ⟨rfl, rfl⟩
  go_wp2
  go_ret
  exact ⟨rfl, hb⟩

set_option maxHeartbeats 400000 in
theorem wn_gt (a b n m : Int) (w : World) (h : IsW n) (h' : IsW m) (hgt : m < n) :
    Calls Try.prog 7 #[.int .u64 a, .int .u64 b, .int .i64 n, .int .i64 m] w fun e w' => e = .returned (.bool true) ∧ Below w.heap.size w w' := by
  go_enter Try.func7, Try.ntmps7
  go_wp2_with fail
  refine (alive_any _).mono ?_
  rintro e w1 ⟨rfl, hb⟩
  go_wp2_with fail
  refine (width_yes _ h _).mono ?_
  rintro e w' ⟨rfl, rfl⟩
  go_wp2_with fail
  refine (width_yes _ h' _).mono ?_
  rintro e w' ⟨rfl, rfl⟩
  go_wp2
  go_ret
  exact ⟨rfl, hb⟩

set_option maxHeartbeats 1000000 in
theorem wn_yes (a b n m : Int) (w : World) (h : IsW n) (h' : IsW m) (hle : n ≤ m) (ha : U a) (hb : U b) :
    Calls Try.prog 7 #[.int .u64 a, .int .u64 b, .int .i64 n, .int .i64 m] w fun e w' => e = .returned (.bool true) ∧ Below w.heap.size w w' := by
  go_enter Try.func7, Try.ntmps7
  go_wp2_with fail
  refine (alive_any _).mono ?_
  rintro e w1 ⟨rfl, hb1⟩
  go_wp2_with fail
  refine (width_yes _ h _).mono ?_
  rintro e w' ⟨rfl, rfl⟩
  go_wp2_with fail
  refine (width_yes _ h' _).mono ?_
  rintro e w' ⟨rfl, rfl⟩
  go_wp2_with fail
  have q1 : ∀ (u : World), Below (w'.heap.size + 1) (w'.alloc (.cells #[.func (.func 12) #[] #[], .func (.func 18) #[] #[], .func (.func 21) #[] #[]] 27)) u → u.cell? ⟨w'.heap.size, 1, none⟩ = some (.func (.func 18) #[] #[]) ∧ u.cell? ⟨w'.heap.size, 2, none⟩ = some (.func (.func 21) #[] #[]) := by
    intro u k
    rw [k.cell (p := ⟨w'.heap.size, 1, none⟩) (by simp), k.cell (p := ⟨w'.heap.size, 2, none⟩) (by simp)]
    exact ⟨by simp [go_sem], by simp [go_sem]⟩
  have Q := hide q1
  clear q1
  refine wp_loop_rounds 4 ?_
  have z0 : cut n (cut m (a + b)) = cut n (a + b) := cut_narrow h h' hle (a + b)
  rw [rounds_succ]
  go_wp2_with fail
  refine (add_any a b m _ h' ha hb).mono ?_
  rintro e u1 ⟨rfl, k1⟩
  have b1 := k1
  simp only [World.size_alloc] at b1
  go_wp2_with fail
  refine (add_any a b n _ h ha hb).mono ?_
  rintro e u2 ⟨rfl, k2⟩
  have b2 := ba b1 k2
  go_wp2_with fail
  refine (cut_any _ n _ h (u_cut h' _)).mono ?_
  rintro e v ⟨rfl, rfl⟩
  obtain ⟨c1, c2⟩ := unhide Q _ b2
  go_wp2_with fail
  have z1 : cut n (cut m (a - b)) = cut n (a - b) := cut_narrow h h' hle (a - b)
  rw [rounds_succ]
  go_wp2_with fail
  refine (sub_any a b m _ h' ha hb).mono ?_
  rintro e u3 ⟨rfl, k3⟩
  have b3 := ba b2 k3
  go_wp2_with fail
  refine (sub_any a b n _ h ha hb).mono ?_
  rintro e u4 ⟨rfl, k4⟩
  have b4 := ba b3 k4
  go_wp2_with fail
  refine (cut_any _ n _ h (u_cut h' _)).mono ?_
  rintro e v ⟨rfl, rfl⟩
  obtain ⟨c1, c2⟩ := unhide Q _ b4
  go_wp2_with fail
  have z2 : cut n (cut m (a * b)) = cut n (a * b) := cut_narrow h h' hle (a * b)
  rw [rounds_succ]
  go_wp2_with fail
  refine (mul_any a b m _ h' ha hb).mono ?_
  rintro e u5 ⟨rfl, k5⟩
  have b5 := ba b4 k5
  go_wp2_with fail
  refine (mul_any a b n _ h ha hb).mono ?_
  rintro e u6 ⟨rfl, k6⟩
  have b6 := ba b5 k6
  go_wp2_with fail
  refine (cut_any _ n _ h (u_cut h' _)).mono ?_
  rintro e v ⟨rfl, rfl⟩
  obtain ⟨c1, c2⟩ := unhide Q _ b6
  go_wp2_with fail
  rw [rounds_succ]
  go_wp2
  go_ret
  exact ⟨rfl, (hb1.alloc hb1.size _).trans (b6.mono (by have := hb1.size; omega))⟩

theorem walk_wordNarrow (a0 a1 a2 a3 : Int) (w0 : (Lit.int .u64 a0).wf = true) (w1 : (Lit.int .u64 a1).wf = true) (_w2 : (Lit.int .i64 a2).wf = true) (_w3 : (Lit.int .i64 a3).wf = true) (w : World) :
    Calls Try.prog 7 #[.int .u64 a0, .int .u64 a1, .int .i64 a2, .int .i64 a3] w fun e w' => e = .returned (.bool true) ∧ Below w.heap.size w w' := by
  rcases isW_or a2 with h | h
  · rcases isW_or a3 with h' | h'
    · by_cases hle : a2 ≤ a3
      · exact wn_yes a0 a1 a2 a3 w h h' hle (bounds_u w0) (bounds_u w1)
      · exact wn_gt a0 a1 a2 a3 w h h' (by omega)
    · exact wn_no2 a0 a1 a2 a3 w h h'
  · exact wn_no a0 a1 a2 a3 w h
end Go.Proofs.Ytljccpgcfkgllab
