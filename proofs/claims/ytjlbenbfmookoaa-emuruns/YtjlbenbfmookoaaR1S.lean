/-
  The document's answer on words: low, view, one, Flags, Sum, Difference.
-/
import Derived.Test.YtjlbenbfmookoaaSum
namespace Go.Proofs.Ytjlbenbfmookoaa
open Go.RowKit
set_option linter.unusedSimpArgs false
set_option linter.unusedVariables false

theorem tm_neg (x : Int) (h : x < 0) : x.tmod 65536 = -((-x) % 65536) := by
  rw [← Int.tmod_eq_emod_of_nonneg (by omega : 0 ≤ -x), Int.neg_tmod, Int.neg_neg]
set_option maxHeartbeats 400000 in
theorem low1_any (x : Int) (w : World) : Calls Try.prog 59 #[.int .i64 x] w fun e w' => e = .returned (.int .i64 (lw x)) ∧ w' = w := by
  by_cases h : 0 ≤ x
  · have hb : ¬ x % 65536 < 0 := by omega
    show Calls _ _ _ _ fun e w' => e = .returned (.int .i64 (x % 65536)) ∧ w' = w
    go_enter Try.func59, Try.ntmps59
    go_wp2_with fail
    go_ret
    exact ⟨rfl, rfl⟩
  · have ht := tm_neg x (by omega)
    generalize hl : lw x = y
    have hy : y = x % 65536 := hl.symm
    generalize hr0 : x.tmod 65536 = r at *
    by_cases hr : r < 0
    · obtain rfl : y = r + 65536 := by omega
      have h1 : -65536 < r := by omega
      clear hy hl ht
      go_enter Try.func59, Try.ntmps59
      go_wp2_with fail
      go_ret
      exact ⟨rfl, rfl⟩
    · obtain rfl : r = 0 := by omega
      obtain rfl : y = 0 := by omega
      clear hy hl ht
      go_enter Try.func59, Try.ntmps59
      go_wp2_with fail
      go_ret
      exact ⟨rfl, rfl⟩
set_option maxHeartbeats 400000 in
theorem view1_any (x : Int) (h0 : 0 ≤ x) (h1 : x ≤ 65535) (w : World) : Calls Try.prog 62 #[.int .i64 x] w fun e w' => e = .returned (.int .i64 (sw x)) ∧ w' = w := by
  by_cases h : 32768 ≤ x
  · have e : sw x = x - 65536 := by unfold sw; omega
    rw [e]
    clear e
    go_enter Try.func62, Try.ntmps62
    go_wp2_with fail
    go_ret
    exact ⟨rfl, rfl⟩
  · have e : sw x = x := by unfold sw; omega
    rw [e]
    clear e
    go_enter Try.func62, Try.ntmps62
    go_wp2_with fail
    go_ret
    exact ⟨rfl, rfl⟩
theorem one1_any (c : Bool) (w : World) : Calls Try.prog 60 #[.bool c] w fun e w' => e = .returned (.int .i64 (oi c)) ∧ w' = w := by
  cases c
  · go_enter Try.func60, Try.ntmps60
    go_wp2_with fail
    go_ret
    exact ⟨rfl, rfl⟩
  · go_enter Try.func60, Try.ntmps60
    go_wp2_with fail
    go_ret
    exact ⟨rfl, rfl⟩
set_option maxHeartbeats 400000 in
theorem flags1_any (r m : Int) (c : Bool) (h0 : 0 ≤ r) (h1 : r ≤ 65535) (w : World) : Calls Try.prog 61 #[.int .i64 r, .bool c, .int .i64 m] w fun e w' => e = .returned (.agg #[.bool c, .bool (r == 0), .bool (decide (32768 ≤ r)), .bool (sw r != m)]) ∧ Below w.heap.size w w' := by
  have VA := fun w => view1_any r h0 h1 w
  generalize sw r = s at *
  go_enter Try.func61, Try.ntmps61
  go_wp2_with fail
  refine (VA _).mono ?_
  rintro e w1 ⟨rfl, hw⟩
  subst w1
  go_wp2_with fail
  exact bodyPost_ret (v := .agg #[.bool c, .bool (r == 0), .bool (decide (32768 ≤ r)), .bool (s != m)]) (by simp [results, Try.results61, go_sem]) rfl ⟨rfl, (by repeat (first | exact Below.refl _ _ | refine Below.setCell ?_ (by first | exact Nat.le_refl _ | (simp; done) | omega | (simp; omega)) _ | refine Below.alloc ?_ (by first | (simp; done) | omega | (simp; omega)) _))⟩
set_option maxRecDepth 100000 in
set_option maxHeartbeats 1000000 in
theorem rsum_any (x y : Int) (c : Bool) (w : World) : Calls Try.prog 45 #[.int .i64 x, .int .i64 y, .bool c] w fun e w' => e = .returned (.tuple #[.int .i64 (lw (sumt x y c)), .agg #[.bool (sumt x y c != lw (sumt x y c)), .bool (lw (sumt x y c) == 0), .bool (decide (sw (lw (sumt x y c)) < 0)), .bool (sums x y c != sw (lw (sumt x y c)))]]) ∧ Below w.heap.size w w' := by
  have LX := fun w => low1_any x w
  have LY := fun w => low1_any y w
  have OC := fun w => one1_any c w
  have bx := lw_b x
  have by' := lw_b y
  have bc := oi_b c
  have VX := fun w => view1_any (lw x) bx.1 bx.2 w
  have VY := fun w => view1_any (lw y) by'.1 by'.2 w
  rw [sw_lw] at VX VY
  have sx := sw_b x
  have sy := sw_b y
  have LT := fun w => low1_any (sumt x y c) w
  have lt := lw_b (sumt x y c)
  have FL := fun w => flags1_any (lw (sumt x y c)) (sums x y c) (decide (65536 ≤ sumt x y c)) lt.1 lt.2 w
  have e1 : (sumt x y c != lw (sumt x y c)) = decide (65536 ≤ sumt x y c) := by
    rw [Bool.eq_iff_iff]
    simp only [bne_iff_ne, decide_eq_true_eq]
    unfold lw at *
    unfold sumt lw
    omega
  have e2 : decide (sw (lw (sumt x y c)) < 0) = decide (32768 ≤ lw (sumt x y c)) := by
    rw [decide_eq_decide]
    unfold sw
    omega
  have e3 : (sums x y c != sw (lw (sumt x y c))) = (sw (lw (sumt x y c)) != sums x y c) := bne_comm
  rw [e1, e2, e3]
  clear e1 e2 e3
  have ht : sumt x y c = lw x + lw y + oi c := rfl
  have hs : sums x y c = sw x + sw y + oi c := rfl
  rw [hs] at FL ⊢
  rw [ht] at FL LT lt ⊢
  clear hs ht
  generalize sw (lw (lw x + lw y + oi c)) = S at *
  generalize lw (lw x + lw y + oi c) = T at *
  generalize lw x = a at *
  generalize lw y = b at *
  generalize oi c = o at *
  generalize sw x = p at *
  generalize sw y = q at *
  have K0 := hide ((Below.refl w.heap.size w).alloc (Nat.le_refl _) (.cells #[.bool false, .bool false, .bool false, .bool false] 25))
  go_enter Try.func45, Try.ntmps45
  go_wp2_with fail
  refine (LX _).mono ?_
  rintro e w1 ⟨rfl, hw⟩
  subst w1
  go_wp2_with fail
  refine (LY _).mono ?_
  rintro e w1 ⟨rfl, hw⟩
  subst w1
  go_wp2_with fail
  refine (OC _).mono ?_
  rintro e w1 ⟨rfl, hw⟩
  subst w1
  go_wp2_with fail
  refine (LT _).mono ?_
  rintro e w1 ⟨rfl, hw⟩
  subst w1
  go_wp2_with fail
  refine (LT _).mono ?_
  rintro e w1 ⟨rfl, hw⟩
  subst w1
  go_wp2_with fail
  refine (VX _).mono ?_
  rintro e w1 ⟨rfl, hw⟩
  subst w1
  go_wp2_with fail
  refine (VY _).mono ?_
  rintro e w1 ⟨rfl, hw⟩
  subst w1
  go_wp2_with fail
  refine (OC _).mono ?_
  rintro e w1 ⟨rfl, hw⟩
  subst w1
  go_wp2_with fail
  refine (FL _).mono ?_
  rintro e w2 ⟨rfl, k2⟩
  have hcl := fun j => k2.cell (p := ⟨w.heap.size, j, none⟩) (by simp)
  have hfr := fun j => k2.frozen (p := ⟨w.heap.size, j, none⟩) (by simp)
  have hsz : w.heap.size < w2.heap.size := by have := k2.size; simp at this; omega
  have K2 := hide ((unhide K0).trans (k2.mono (by simp)))
  clear k2 LX LY OC LT VX VY FL
  go_wp2_with fail
  exact bodyPost_ret (v := .tuple #[.int .i64 T, .agg #[.bool (decide (65536 ≤ a + b + o)), .bool (T == 0), .bool (decide (32768 ≤ T)), .bool (S != p + q + o)]]) (by simp [results, Try.results45, go_sem, hcl, hfr, hsz]) rfl ⟨rfl, (by repeat (first | exact unhide K2 | refine Below.setCell ?_ (by first | exact Nat.le_refl _ | (simp; done) | omega | (simp; omega)) _ | refine Below.alloc ?_ (by first | (simp; done) | omega | (simp; omega)) _))⟩
set_option maxRecDepth 100000 in
set_option maxHeartbeats 1000000 in
theorem rdif_any (x y : Int) (c : Bool) (w : World) : Calls Try.prog 46 #[.int .i64 x, .int .i64 y, .bool c] w fun e w' => e = .returned (.tuple #[.int .i64 (lw (dift x y c)), .agg #[.bool (dift x y c != lw (dift x y c)), .bool (lw (dift x y c) == 0), .bool (decide (sw (lw (dift x y c)) < 0)), .bool (difs x y c != sw (lw (dift x y c)))]]) ∧ Below w.heap.size w w' := by
  have LX := fun w => low1_any x w
  have LY := fun w => low1_any y w
  have OC := fun w => one1_any c w
  have bx := lw_b x
  have by' := lw_b y
  have bc := oi_b c
  have VX := fun w => view1_any (lw x) bx.1 bx.2 w
  have VY := fun w => view1_any (lw y) by'.1 by'.2 w
  rw [sw_lw] at VX VY
  have sx := sw_b x
  have sy := sw_b y
  have LT := fun w => low1_any (dift x y c) w
  have lt := lw_b (dift x y c)
  have FL := fun w => flags1_any (lw (dift x y c)) (difs x y c) (decide (dift x y c < 0)) lt.1 lt.2 w
  have e1 : (dift x y c != lw (dift x y c)) = decide (dift x y c < 0) := by
    rw [Bool.eq_iff_iff]
    simp only [bne_iff_ne, decide_eq_true_eq]
    unfold lw at *
    unfold dift lw
    omega
  have e2 : decide (sw (lw (dift x y c)) < 0) = decide (32768 ≤ lw (dift x y c)) := by
    rw [decide_eq_decide]
    unfold sw
    omega
  have e3 : (difs x y c != sw (lw (dift x y c))) = (sw (lw (dift x y c)) != difs x y c) := bne_comm
  rw [e1, e2, e3]
  clear e1 e2 e3
  have ht : dift x y c = lw x - lw y - oi c := rfl
  have hs : difs x y c = sw x - sw y - oi c := rfl
  rw [hs] at FL ⊢
  rw [ht] at FL LT lt ⊢
  clear hs ht
  generalize sw (lw (lw x - lw y - oi c)) = S at *
  generalize lw (lw x - lw y - oi c) = T at *
  generalize lw x = a at *
  generalize lw y = b at *
  generalize oi c = o at *
  generalize sw x = p at *
  generalize sw y = q at *
  have K0 := hide ((Below.refl w.heap.size w).alloc (Nat.le_refl _) (.cells #[.bool false, .bool false, .bool false, .bool false] 25))
  go_enter Try.func46, Try.ntmps46
  go_wp2_with fail
  refine (LX _).mono ?_
  rintro e w1 ⟨rfl, hw⟩
  subst w1
  go_wp2_with fail
  refine (LY _).mono ?_
  rintro e w1 ⟨rfl, hw⟩
  subst w1
  go_wp2_with fail
  refine (OC _).mono ?_
  rintro e w1 ⟨rfl, hw⟩
  subst w1
  go_wp2_with fail
  refine (LT _).mono ?_
  rintro e w1 ⟨rfl, hw⟩
  subst w1
  go_wp2_with fail
  refine (LT _).mono ?_
  rintro e w1 ⟨rfl, hw⟩
  subst w1
  go_wp2_with fail
  refine (VX _).mono ?_
  rintro e w1 ⟨rfl, hw⟩
  subst w1
  go_wp2_with fail
  refine (VY _).mono ?_
  rintro e w1 ⟨rfl, hw⟩
  subst w1
  go_wp2_with fail
  refine (OC _).mono ?_
  rintro e w1 ⟨rfl, hw⟩
  subst w1
  go_wp2_with fail
  refine (FL _).mono ?_
  rintro e w2 ⟨rfl, k2⟩
  have hcl := fun j => k2.cell (p := ⟨w.heap.size, j, none⟩) (by simp)
  have hfr := fun j => k2.frozen (p := ⟨w.heap.size, j, none⟩) (by simp)
  have hsz : w.heap.size < w2.heap.size := by have := k2.size; simp at this; omega
  have K2 := hide ((unhide K0).trans (k2.mono (by simp)))
  clear k2 LX LY OC LT VX VY FL
  go_wp2_with fail
  exact bodyPost_ret (v := .tuple #[.int .i64 T, .agg #[.bool (decide (a - b - o < 0)), .bool (T == 0), .bool (decide (32768 ≤ T)), .bool (S != p - q - o)]]) (by simp [results, Try.results46, go_sem, hcl, hfr, hsz]) rfl ⟨rfl, (by repeat (first | exact unhide K2 | refine Below.setCell ?_ (by first | exact Nat.le_refl _ | (simp; done) | omega | (simp; omega)) _ | refine Below.alloc ?_ (by first | (simp; done) | omega | (simp; omega)) _))⟩
end Go.Proofs.Ytjlbenbfmookoaa
