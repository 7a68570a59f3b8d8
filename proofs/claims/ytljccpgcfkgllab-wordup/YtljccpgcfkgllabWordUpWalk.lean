/-
  WordUp answers true: to shift is to multiply by two, shifts add up, and down and up again is the number without its lowest bits.
-/
import Derived.Test.YtljccpgcfkgllabAlive
import Derived.Test.YtljccpgcfkgllabShift
import Derived.Test.YtljccpgcfkgllabPlain2
namespace Go.Proofs.Ytljccpgcfkgllab
open Go.RowKit

theorem shl_p (a k n : Int) (w : World) (h : IsW n) (ha : U a) (hk : U k) : Calls Try.prog 10 #[.int .u64 a, .int .u64 k, .int .i64 n] w fun e w' => e = .returned (.tuple #[.int .u64 (cut n (a * 2 ^ k.toNat)), .int .i64 0]) ∧ Below w.heap.size w w' := by
  rw [← shl_min h a k.toNat]; exact shl_any a k n w h ha hk
theorem shr_p (a k n : Int) (w : World) (h : IsW n) (ha : U a) (hk : U k) : Calls Try.prog 13 #[.int .u64 a, .int .u64 k, .int .i64 n, .bool false] w fun e w' => e = .returned (.tuple #[.int .u64 (cut n a / 2 ^ k.toNat), .int .i64 0]) ∧ Below w.heap.size w w' := by
  rw [← shr_min h a k.toNat]; exact shr_u a k n w h ha hk

theorem shl_z (a : Int) (j m : Nat) (k : Int) (w : World) (h : IsW k) (hm : m ≤ 200) : Calls Try.prog 10 #[.int .u64 (cut k (a * 2 ^ j)), .int .u64 m, .int .i64 k] w fun e w' => e = .returned (.tuple #[.int .u64 (cut k (a * 2 ^ (j + m))), .int .i64 0]) ∧ Below w.heap.size w w' := by
  rw [← shl_shl k a j m]; exact shl_p _ m k w h (u_cut h _) ⟨by omega, by omega⟩
theorem shl_y (a : Int) (j m : Nat) (k : Int) (w : World) (h : IsW k) (ha : U a) (hj : j ≤ 200) (hm : m ≤ 200) : Calls Try.prog 10 #[.int .u64 a, .int .u64 (↑j + ↑m), .int .i64 k] w fun e w' => e = .returned (.tuple #[.int .u64 (cut k (a * 2 ^ (j + m))), .int .i64 0]) ∧ Below w.heap.size w w' := by
  have t := shl_p a (↑j + ↑m) k w h ha ⟨by omega, by omega⟩
  rw [show ((j : Int) + (m : Int)).toNat = j + m from by omega] at t
  exact t
theorem shr_d (a : Int) (j : Nat) (k : Int) (w : World) (h : IsW k) (ha : U a) (hj : j ≤ 200) : Calls Try.prog 13 #[.int .u64 a, .int .u64 j, .int .i64 k, .bool false] w fun e w' => e = .returned (.tuple #[.int .u64 (cut k a / 2 ^ j), .int .i64 0]) ∧ Below w.heap.size w w' :=
  shr_p a j k w h ha ⟨by omega, by omega⟩
theorem shl_q (a : Int) (j : Nat) (k : Int) (w : World) (h : IsW k) (hj : j ≤ 200) : Calls Try.prog 10 #[.int .u64 (cut k a / 2 ^ j), .int .u64 j, .int .i64 k] w fun e w' => e = .returned (.tuple #[.int .u64 (cut k (cut k a / 2 ^ j * 2 ^ j)), .int .i64 0]) ∧ Below w.heap.size w w' :=
  shl_p _ j k w h (u_div h _ _) ⟨by omega, by omega⟩

set_option maxHeartbeats 400000 in
theorem wu_no (a n m k : Int) (w : World) (h : NoW k) :
    Calls Try.prog 3 #[.int .u64 a, .int .i64 n, .int .i64 m, .int .i64 k] w fun e w' => e = .returned (.bool true) ∧ Below w.heap.size w w' := by
  go_enter Try.func3, Try.ntmps3
  go_wp2_with fail
  refine (alive_any _).mono ?_
  rintro e w1 ⟨rfl, hb⟩
  go_wp2_with (first | (go_at_call 9; refine (width_no _ _ h).mono ?_; rintro e w' ⟨rfl, rfl⟩))
  go_ret
  exact ⟨rfl, hb⟩

set_option maxHeartbeats 400000 in
theorem wu_out (a n m k : Int) (w : World) (h : IsW k) (ho : n < 0 ∨ (0 ≤ n ∧ m < 0) ∨ (0 ≤ n ∧ 0 ≤ m ∧ 200 < n) ∨ (0 ≤ n ∧ n ≤ 200 ∧ 0 ≤ m ∧ 200 < m)) :
    Calls Try.prog 3 #[.int .u64 a, .int .i64 n, .int .i64 m, .int .i64 k] w fun e w' => e = .returned (.bool true) ∧ Below w.heap.size w w' := by
  rcases ho with h1 | ⟨h1, h2⟩ | ⟨h1, h2, h3⟩ | ⟨h1, h2, h3, h4⟩
  all_goals
    go_enter Try.func3, Try.ntmps3
    go_wp2_with fail
    refine (alive_any _).mono ?_
    rintro e w1 ⟨rfl, hb⟩
    go_wp2_with (first | (go_at_call 9; refine (width_yes _ h _).mono ?_; rintro e w' ⟨rfl, rfl⟩))
    go_ret
    exact ⟨rfl, hb⟩

set_option maxHeartbeats 1000000 in
theorem wu_yes (a : Int) (n m : Nat) (k : Int) (w : World) (h : IsW k) (ha : U a) (hn : n ≤ 200) (hm : m ≤ 200) :
    Calls Try.prog 3 #[.int .u64 a, .int .i64 n, .int .i64 m, .int .i64 k] w fun e w' => e = .returned (.bool true) ∧ Below w.heap.size w w' := by
  have hk8 := isW_le h
  go_enter Try.func3, Try.ntmps3
  go_wp2_with fail
  refine (alive_any _).mono ?_
  rintro e w1 ⟨rfl, hb⟩
  go_wp2_with (first | (go_at_call 9; refine (width_yes _ h _).mono ?_; rintro e w' ⟨rfl, rfl⟩) | fail)
  refine (shl_p a n k _ h ha ⟨by omega, by omega⟩).mono ?_
  rintro e w2 ⟨rfl, hb2⟩
  go_wp2_with (first | (go_at_call 11; refine (cut_any _ _ _ h ha).mono ?_; rintro e w3 ⟨rfl, rfl⟩) | fail)
  go_loopw [11, 13] (fun y i wr => ∃ j : Nat, j ≤ n ∧ i = .int .i64 j ∧ y = .int .u64 (cut k (a * 2 ^ j)) ∧ Below w3.heap.size w3 wr) (fun _ i _ => n - (intOf i).toNat)
  case atStart => exact ⟨0, Nat.zero_le _, rfl, by simp, Below.refl _ _⟩
  case round =>
    obtain ⟨j, hj, rfl, rfl, hbr⟩ := hrel
    by_cases hlt : j < n
    · go_wp2_with (first | (go_at_call 12; refine (add_any _ _ _ _ h (u_cut h _) (u_cut h _)).mono ?_; rintro e wq ⟨rfl, hbq⟩))
      go_roundw
      case rel => exact ⟨j + 1, by omega, by go_num, by rw [shl_succ], hbr.trans (hbq.mono hbr.size)⟩
      case measure => simp [intOf]; omega
    · obtain rfl : j = n := by omega
      clear hlt hj
      have huz := up_zero h a j
      have hue := up_eq h a j
      generalize hv : cut k (cut k a / 2 ^ j * 2 ^ j) = v at huz hue
      have HV := hide hv
      have HZ := hide huz
      have HE := hide hue
      clear hv huz hue
      go_wp2_with fail
      refine (shl_z a j m k _ h hm).mono ?_
      rintro e w4 ⟨rfl, hb4⟩
      go_wp2_with fail
      refine (shl_y a j m k _ h ha hn hm).mono ?_
      rintro e w5 ⟨rfl, hb5⟩
      go_wp2_with fail
      refine (shr_d a j k _ h ha hn).mono ?_
      rintro e w6 ⟨rfl, hb6⟩
      go_wp2_with fail
      refine (shl_q a j k _ h hn).mono ?_
      rintro e w7 ⟨rfl, hb7⟩
      rw [unhide HV]
      go_wp2_with fail
      refine (cut_any a k _ h ha).mono ?_
      rintro e w8 ⟨rfl, rfl⟩
      have hall := bt (bt (bt (bt (bt (bt hb hb2) hbr) hb4) hb5) hb6) hb7
      by_cases hw : k ≤ j
      · have hz : (v == 0) = true := by rw [beq_iff_eq]; exact unhide HZ hw
        go_wp2
        go_ret
        exact ⟨rfl, hall⟩
      · have hmin : min j 64 = j := by omega
        have hz : (v == IntKind.u64.wrap (cut k a / 2 ^ j * 2 ^ j)) = true := by rw [beq_iff_eq]; exact unhide HE
        go_wp2
        go_ret
        exact ⟨rfl, hall⟩

theorem walk_wordUp (a0 a1 a2 a3 : Int) (w0 : (Lit.int .u64 a0).wf = true) (_w1 : (Lit.int .i64 a1).wf = true) (_w2 : (Lit.int .i64 a2).wf = true) (_w3 : (Lit.int .i64 a3).wf = true) (w : World) :
    Calls Try.prog 3 #[.int .u64 a0, .int .i64 a1, .int .i64 a2, .int .i64 a3] w fun e w' => e = .returned (.bool true) ∧ Below w.heap.size w w' := by
  have hx := bounds_u w0
  rcases isW_or a3 with h | h
  · by_cases hin : 0 ≤ a1 ∧ a1 ≤ 200 ∧ 0 ≤ a2 ∧ a2 ≤ 200
    · obtain ⟨n, rfl⟩ := Int.eq_ofNat_of_zero_le hin.1
      obtain ⟨m, rfl⟩ := Int.eq_ofNat_of_zero_le hin.2.2.1
      exact wu_yes a0 n m a3 w h hx (by omega) (by omega)
    · exact wu_out a0 a1 a2 a3 w h (by omega)
  · exact wu_no a0 a1 a2 a3 w h
end Go.Proofs.Ytljccpgcfkgllab
