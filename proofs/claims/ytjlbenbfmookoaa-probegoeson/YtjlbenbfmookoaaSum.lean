/-
  What Sum and Difference answer of two words and what is carried: the word that comes, and the four flags.
-/
import Derived.Test.YtjlbenbfmookoaaPlain
import Derived.Test.YtjlbenbfmookoaaRows
import Derived.WalkKit
import Derived.WalkSpells
import Derived.WalkLawsBesides
import Derived.Deep.QuietTactic
import Derived.BigQuiet
import Derived.WalkSmall
namespace Go.Proofs.Ytjlbenbfmookoaa
open Go.RowKit
set_option linter.unusedSimpArgs false
set_option linter.unusedVariables false

/-- One, if carried. -/
def oi (c : Bool) : Int := if c then 1 else 0
/-- The lower sixteen bits. -/
def lw (x : Int) : Int := x % 65536
/-- .. with a sign. -/
def sw (x : Int) : Int := (x + 32768) % 65536 - 32768
theorem oi_b (c : Bool) : 0 ≤ oi c ∧ oi c ≤ 1 := by cases c <;> decide
theorem lw_b (x : Int) : 0 ≤ lw x ∧ lw x ≤ 65535 := by unfold lw; omega
theorem sw_b (x : Int) : -32768 ≤ sw x ∧ sw x ≤ 32767 := by unfold sw; omega
theorem sw_lw (x : Int) : sw (lw x) = sw x := by unfold sw lw; omega
theorem i16_wrap (x : Int) : IntKind.i16.wrap x = sw x := by
  unfold sw; simp [IntKind.wrap, IntKind.bits, IntKind.signed]; split <;> omega
theorem and_i64 (x : Int) : bits .and .i64 x 65535 = lw x := by
  have e : bits .and .i64 x 65535 = IntKind.i64.wrap (((BitVec.ofInt 64 x &&& BitVec.ofInt 64 65535).toNat : Nat) : Int) := rfl
  have f : (BitVec.ofInt 64 65535).toNat = 2 ^ 16 - 1 := by decide
  rw [e, BitVec.toNat_and, f, Nat.and_two_pow_sub_one_eq_mod, BitVec.toNat_ofInt, IntKind.wrap_i64]
  unfold lw; omega

theorem cell_up {w : World} {p i : Nat} {v : Value} (o : Obj) (hp : p < w.heap.size) (h : w.cell? ⟨p, i, none⟩ = some v) : (w.alloc o).cell? ⟨p, i, none⟩ = some v := by
  have k : Below w.heap.size w (w.alloc o) := (Below.refl _ _).alloc (Nat.le_refl _) o
  rw [k.cell (p := ⟨p, i, none⟩) hp]; exact h

theorem one_any (c : Bool) (w : World) : Calls Try.prog 81 #[.bool c] w fun e w' => e = .returned (.int .i64 (oi c)) ∧ w' = w := by
  cases c
  all_goals
    go_enter Try.func81, Try.ntmps81
    go_wp2
    go_ret
    exact ⟨rfl, rfl⟩
theorem sw_any (x : Int) (w : World) : Calls Try.prog 83 #[.int .i64 x] w fun e w' => e = .returned (.int .i64 (sw x)) ∧ w' = w := by
  have h := i16_wrap x
  have hb := sw_b x
  go_enter Try.func83, Try.ntmps83
  go_wp2
  go_ret
  exact ⟨rfl, rfl⟩
set_option maxHeartbeats 400000 in
theorem sum1 (x y : Int) (c : Bool) (w : World) (p : Nat) (hx : -65535 ≤ x) (hx' : x ≤ 65535) (hy : -65535 ≤ y) (hy' : y ≤ 65535) (cc : w.cell? ⟨p, 0, none⟩ = some (.bool c)) :
    Calls Try.prog 80 #[.int .i64 x, .int .i64 y, .pointer (some ⟨p, 0, none⟩)] w fun e w' => e = .returned (.int .i64 (x + y + oi c)) ∧ w' = w := by
  have h1 := (oi_b c).1
  have h2 := (oi_b c).2
  go_enter Try.func80, Try.ntmps80
  go_wp2_with (first | (go_at_call 81; refine (one_any _ _).mono ?_; rintro e w' ⟨rfl, rfl⟩))
  go_ret
  exact ⟨rfl, rfl⟩

/-- The word before it is cut. -/
def sumt (x y : Int) (c : Bool) : Int := lw x + lw y + oi c
/-- .. and with signs. -/
def sums (x y : Int) (c : Bool) : Int := sw x + sw y + oi c

set_option maxHeartbeats 400000 in
theorem flagged_sum (x y : Int) (c : Bool) (w : World) (p : Nat) (cc : w.cell? ⟨p, 0, none⟩ = some (.bool c)) (hp : p < w.heap.size) :
    Calls Try.prog 79 #[.int .i64 x, .int .i64 y, .func (.func 80) #[] #[.pointer (some ⟨p, 0, none⟩)]] w fun e w' => e = .returned (.tuple #[.int .i64 (lw (sumt x y c)), .agg #[.bool (sumt x y c != lw (sumt x y c)), .bool (lw (sumt x y c) == 0), .bool (decide (sw (lw (sumt x y c)) < 0)), .bool (sums x y c != sw (lw (sumt x y c)))]]) ∧ w' = w.alloc (.cells #[.bool (sumt x y c != lw (sumt x y c)), .bool (lw (sumt x y c) == 0), .bool (decide (sw (lw (sumt x y c)) < 0)), .bool (sums x y c != sw (lw (sumt x y c)))] 25) := by
  have e0 : Hid (sums x y c = sw (lw x) + sw (lw y) + oi c) := by show _ = _; rw [sw_lw, sw_lw]; rfl
  rw [unhide e0]
  unfold sumt
  have e1 := and_i64 x
  have e2 := and_i64 y
  have b1 := lw_b x
  have b2 := lw_b y
  have b3 := oi_b c
  have e3 := and_i64 (lw x + lw y + oi c)
  have b4 := sw_b (lw x)
  have b5 := sw_b (lw y)
  go_enter Try.func79, Try.ntmps79
  go_wp2_with (first | (go_at_call 83; refine (sw_any _ _).mono ?_; rintro e w' ⟨rfl, hw⟩; subst w') | (go_at_call 80; refine (sum1 _ _ c _ _ ?_ ?_ ?_ ?_ ?_).mono ?_; omega; omega; omega; omega; (exact cell_up _ hp cc); rintro e w' ⟨rfl, hw⟩; subst w'))
  exact bodyPost_ret (v := .tuple #[.int .i64 (lw (lw x + lw y + oi c)), .agg #[.bool (lw x + lw y + oi c != lw (lw x + lw y + oi c)), .bool (lw (lw x + lw y + oi c) == 0), .bool (decide (sw (lw (lw x + lw y + oi c)) < 0)), .bool (sw (lw x) + sw (lw y) + oi c != sw (lw (lw x + lw y + oi c)))]]) (by simp [results, Try.results79, go_sem]) rfl ⟨rfl, rfl⟩

set_option maxHeartbeats 400000 in
theorem sum_res (x y : Int) (c : Bool) (w : World) :
    Calls Try.prog 77 #[.int .i64 x, .int .i64 y, .bool c] w fun e w' => e = .returned (.tuple #[.int .i64 (lw (sumt x y c)), .agg #[.bool (sumt x y c != lw (sumt x y c)), .bool (lw (sumt x y c) == 0), .bool (decide (sw (lw (sumt x y c)) < 0)), .bool (sums x y c != sw (lw (sumt x y c)))]]) ∧ w' = ((w.alloc (.cells #[.bool c] 4)).alloc (.cells #[.bool (sumt x y c != lw (sumt x y c)), .bool (lw (sumt x y c) == 0), .bool (decide (sw (lw (sumt x y c)) < 0)), .bool (sums x y c != sw (lw (sumt x y c)))] 25)).alloc (.cells #[.bool (sumt x y c != lw (sumt x y c)), .bool (lw (sumt x y c) == 0), .bool (decide (sw (lw (sumt x y c)) < 0)), .bool (sums x y c != sw (lw (sumt x y c)))] 25) := by
  have HF := hide (flagged_sum x y c)
  generalize (sumt x y c != lw (sumt x y c)) = C at HF
  generalize (lw (sumt x y c) == 0) = Z at HF
  generalize decide (sw (lw (sumt x y c)) < 0) = N at HF
  generalize (sums x y c != sw (lw (sumt x y c))) = V at HF
  generalize lw (sumt x y c) = r at HF
  go_enter Try.func77, Try.ntmps77
  go_wp2_with fail
  refine (unhide HF _ _ ?_ ?_).mono ?_
  · exact cell_up _ (by simp) (by simp [go_sem])
  · simp; omega
  rintro e w1 ⟨rfl, hw⟩
  subst w1
  go_wp2
  exact bodyPost_ret (v := .tuple #[.int .i64 r, .agg #[.bool C, .bool Z, .bool N, .bool V]]) (by simp [results, Try.results77, go_sem]) rfl ⟨rfl, rfl⟩

set_option maxHeartbeats 400000 in
theorem dif1 (x y : Int) (c : Bool) (w : World) (p : Nat) (hx : -65535 ≤ x) (hx' : x ≤ 65535) (hy : -65535 ≤ y) (hy' : y ≤ 65535) (cc : w.cell? ⟨p, 0, none⟩ = some (.bool c)) :
    Calls Try.prog 82 #[.int .i64 x, .int .i64 y, .pointer (some ⟨p, 0, none⟩)] w fun e w' => e = .returned (.int .i64 (x - y - oi c)) ∧ w' = w := by
  have h1 := (oi_b c).1
  have h2 := (oi_b c).2
  go_enter Try.func82, Try.ntmps82
  go_wp2_with (first | (go_at_call 81; refine (one_any _ _).mono ?_; rintro e w' ⟨rfl, rfl⟩))
  go_ret
  exact ⟨rfl, rfl⟩

/-- The word before it is cut. -/
def dift (x y : Int) (c : Bool) : Int := lw x - lw y - oi c
/-- .. and with signs. -/
def difs (x y : Int) (c : Bool) : Int := sw x - sw y - oi c

set_option maxHeartbeats 400000 in
theorem flagged_dif (x y : Int) (c : Bool) (w : World) (p : Nat) (cc : w.cell? ⟨p, 0, none⟩ = some (.bool c)) (hp : p < w.heap.size) :
    Calls Try.prog 79 #[.int .i64 x, .int .i64 y, .func (.func 82) #[] #[.pointer (some ⟨p, 0, none⟩)]] w fun e w' => e = .returned (.tuple #[.int .i64 (lw (dift x y c)), .agg #[.bool (dift x y c != lw (dift x y c)), .bool (lw (dift x y c) == 0), .bool (decide (sw (lw (dift x y c)) < 0)), .bool (difs x y c != sw (lw (dift x y c)))]]) ∧ w' = w.alloc (.cells #[.bool (dift x y c != lw (dift x y c)), .bool (lw (dift x y c) == 0), .bool (decide (sw (lw (dift x y c)) < 0)), .bool (difs x y c != sw (lw (dift x y c)))] 25) := by
  have e0 : Hid (difs x y c = sw (lw x) - sw (lw y) - oi c) := by show _ = _; rw [sw_lw, sw_lw]; rfl
  rw [unhide e0]
  unfold dift
  have e1 := and_i64 x
  have e2 := and_i64 y
  have b1 := lw_b x
  have b2 := lw_b y
  have b3 := oi_b c
  have e3 := and_i64 (lw x - lw y - oi c)
  have b4 := sw_b (lw x)
  have b5 := sw_b (lw y)
  go_enter Try.func79, Try.ntmps79
  go_wp2_with (first | (go_at_call 83; refine (sw_any _ _).mono ?_; rintro e w' ⟨rfl, hw⟩; subst w') | (go_at_call 82; refine (dif1 _ _ c _ _ ?_ ?_ ?_ ?_ ?_).mono ?_; omega; omega; omega; omega; (exact cell_up _ hp cc); rintro e w' ⟨rfl, hw⟩; subst w'))
  exact bodyPost_ret (v := .tuple #[.int .i64 (lw (lw x - lw y - oi c)), .agg #[.bool (lw x - lw y - oi c != lw (lw x - lw y - oi c)), .bool (lw (lw x - lw y - oi c) == 0), .bool (decide (sw (lw (lw x - lw y - oi c)) < 0)), .bool (sw (lw x) - sw (lw y) - oi c != sw (lw (lw x - lw y - oi c)))]]) (by simp [results, Try.results79, go_sem]) rfl ⟨rfl, rfl⟩

set_option maxHeartbeats 400000 in
theorem dif_res (x y : Int) (c : Bool) (w : World) :
    Calls Try.prog 78 #[.int .i64 x, .int .i64 y, .bool c] w fun e w' => e = .returned (.tuple #[.int .i64 (lw (dift x y c)), .agg #[.bool (dift x y c != lw (dift x y c)), .bool (lw (dift x y c) == 0), .bool (decide (sw (lw (dift x y c)) < 0)), .bool (difs x y c != sw (lw (dift x y c)))]]) ∧ w' = ((w.alloc (.cells #[.bool c] 4)).alloc (.cells #[.bool (dift x y c != lw (dift x y c)), .bool (lw (dift x y c) == 0), .bool (decide (sw (lw (dift x y c)) < 0)), .bool (difs x y c != sw (lw (dift x y c)))] 25)).alloc (.cells #[.bool (dift x y c != lw (dift x y c)), .bool (lw (dift x y c) == 0), .bool (decide (sw (lw (dift x y c)) < 0)), .bool (difs x y c != sw (lw (dift x y c)))] 25) := by
  have HF := hide (flagged_dif x y c)
  generalize (dift x y c != lw (dift x y c)) = C at HF
  generalize (lw (dift x y c) == 0) = Z at HF
  generalize decide (sw (lw (dift x y c)) < 0) = N at HF
  generalize (difs x y c != sw (lw (dift x y c))) = V at HF
  generalize lw (dift x y c) = r at HF
  go_enter Try.func78, Try.ntmps78
  go_wp2_with fail
  refine (unhide HF _ _ ?_ ?_).mono ?_
  · exact cell_up _ (by simp) (by simp [go_sem])
  · simp; omega
  rintro e w1 ⟨rfl, hw⟩
  subst w1
  go_wp2
  exact bodyPost_ret (v := .tuple #[.int .i64 r, .agg #[.bool C, .bool Z, .bool N, .bool V]]) (by simp [results, Try.results78, go_sem]) rfl ⟨rfl, rfl⟩

end Go.Proofs.Ytjlbenbfmookoaa
