/-
  Fit, Two at the widths; Meant.
-/
import Derived.Test.YtonekpoblgigpaaDoorPlain
import Derived.Test.YtonekpoblgigpaaDoorBigG
import Derived.Test.YtonekpoblgigpaaDoorBigD
import Derived.Test.YtonekpoblgigpaaDoorBigM1
import Derived.Test.YtonekpoblgigpaaDoorBigM2
namespace Go.Proofs.YtonekpoblgigpaaDoor
open Go.RowKit
set_option linter.unusedSimpArgs false
set_option linter.unusedVariables false

theorem divOk_w {n x : Int} (h : IsW n) (h0 : 0 ≤ x) (h1 : x < 4294967296 ^ 6) : DivOk x (md n) := by
  have b6 : (4294967296 : Int) ^ 6 < 4294967296 ^ 8 := by decide
  have b8 : (18446744073709551616 : Int) < 4294967296 ^ 8 := by decide
  rcases h with rfl | rfl | rfl | rfl
  · rw [md_8]; exact divOk_short (by omega) (by omega) (by decide) (.inr (.inr (by decide)))
  · rw [md_16]; exact divOk_short (by omega) (by omega) (by decide) (.inr (.inr (by decide)))
  · rw [md_32]
    by_cases hl : x < 18446744073709551616
    · exact divOk_short (by omega) (by omega) (by decide) (.inr (.inl hl))
    · have e : (4294967296 : Int) = 4294967296 ^ 1 := by decide
      intro w v1 v2 d1 d2
      have := div_long1 v1 v2 x w d1 (by rw [← e]; exact d2) h1 (by omega)
      rw [← e] at this
      exact this
  · rw [md_64]
    by_cases hl : x < 18446744073709551616
    · exact divOk_short (by omega) (by omega) (by decide) (.inr (.inl hl))
    · have e : (18446744073709551616 : Int) = 4294967296 ^ 2 := by decide
      intro w v1 v2 d1 d2
      have := div_long2 v1 v2 x w d1 (by rw [← e]; exact d2) h1 (by omega)
      rw [← e] at this
      exact this
theorem w_nat {n : Int} (h : IsW n) : ∃ k : Nat, n = (k : Int) ∧ 8 ≤ k ∧ k ≤ 64 := by
  rcases h with rfl | rfl | rfl | rfl
  · exact ⟨8, rfl, by decide, by decide⟩
  · exact ⟨16, rfl, by decide, by decide⟩
  · exact ⟨32, rfl, by decide, by decide⟩
  · exact ⟨64, rfl, by decide, by decide⟩
theorem fitW (a : Nat) (x n : Int) (w : World) (ha : Big w a x) (h : IsW n) (hx : x.natAbs < 4294967296 ^ 6) :
    Calls Tryd.prog 37 #[.pointer (some ⟨a, 0, none⟩), .int .i64 n] w fun e w' => e = .returned (.int .u64 (cut n x)) ∧ Below w.heap.size w w' := by
  have hd := divOk_w (x := (x.natAbs : Int)) h (by omega) (by omega)
  obtain ⟨k, rfl, _, h2⟩ := w_nat h
  exact fit_any a x k w ha h2 hx hd
theorem twoI (z : Int) (w : World) (h0 : 0 ≤ z) (h1 : z ≤ 64) :
    Calls Tryd.prog 38 #[.int .i64 z] w fun e w' => e = .returned (.pointer (some ⟨w.heap.size, 0, none⟩)) ∧ Below w.heap.size w w' ∧ Big w' w.heap.size (2 ^ z.toNat) := by
  obtain ⟨k, rfl⟩ : ∃ k : Nat, z = k := ⟨z.toNat, by omega⟩
  exact two_any k w (by omega)
theorem half_w {n : Int} (h : IsW n) : 2 * 2 ^ (n - 1).toNat = md n ∧ (0 : Int) < 2 ^ (n - 1).toNat ∧ 0 ≤ n - 1 ∧ n ≤ 64 ∧ 0 ≤ n := by
  rcases h with rfl | rfl | rfl | rfl <;> refine ⟨by decide, by decide, by decide, by decide, by decide⟩
theorem mn_abs {n : Int} (h : IsW n) (s : Bool) (x : Int) : (mn s n x).natAbs ≤ 18446744073709551615 := by
  have a := cut_lo h x
  have b := cut_hi h x
  have c := cut_lt h x
  have d := md_le h
  unfold mn sgn
  split
  · split <;> omega
  · omega

set_option maxRecDepth 100000 in
set_option maxHeartbeats 1000000 in
theorem meant_any (x n : Int) (s : Bool) (w : World) (h : IsW n) (hx : U x) :
    Calls Tryd.prog 27 #[.int .u64 x, .int .i64 n, .bool s] w fun e w' => ∃ p, e = .returned (.pointer (some ⟨p, 0, none⟩)) ∧ w.heap.size ≤ p ∧ Below w.heap.size w w' ∧ Big w' p (mn s n x) := by
  obtain ⟨h1, h2, h3, h4, h5⟩ := half_w h
  have c0 := cut_lo h x
  have c1 := cut_hi h x
  have c2 := cut_lt h x
  have mle := md_le h
  have mpos := md_pos h
  have b8 : (18446744073709551616 : Nat) < 4294967296 ^ 6 := by decide
  have FA := fun a w ha => fitW a x n w ha h (by unfold U at hx; omega)
  have WA := fun w => whole_any (cut n x) w (u_cut h x)
  have HU := hide hx
  clear hx
  have T1 := fun w => twoI (n - 1) w h3 (by omega)
  have T2 := fun w => twoI n w h5 h4
  rw [show (2 : Int) ^ n.toNat = md n from rfl] at T2
  generalize hm : mn s n x = M
  have HM := hide hm
  clear hm
  generalize hC : cut n x = C at *
  have HC := hide hC
  clear hC
  generalize hmd : md n = D at *
  have HMD := hide hmd
  clear hmd
  generalize (2 : Int) ^ (n - 1).toNat = E at *
  cases s
  · obtain rfl : M = C := by rw [← unhide HM, ← unhide HC]; rfl
    clear T1 T2
    go_enter Tryd.func27, Tryd.ntmps27
    go_wp2_with fail
    refine (whole_any x w (unhide HU)).mono ?_
    rintro e w1 ⟨rfl, k1, B1⟩
    have K1 := hide k1
    have HB1 := hide B1
    clear k1 B1
    go_wp2_with fail
    refine (FA _ _ (unhide HB1)).mono ?_
    rintro e w2 ⟨rfl, k2⟩
    have K2 := hide ((unhide K1).trans (k2.mono (unhide K1).size))
    clear k2
    go_wp2_with fail
    refine (WA _).mono ?_
    rintro e w3 ⟨rfl, k3, B3⟩
    have K3 := hide ((unhide K2).trans (k3.mono (unhide K2).size))
    have HB3 := hide B3
    clear k3 B3
    go_wp2_with fail
    go_ret
    exact ⟨_, rfl, (unhide K2).size, unhide K3, unhide HB3⟩
  · by_cases hs : 2 * C < D
    · obtain rfl : M = C := by
        have a := unhide HM
        unfold mn sgn at a
        rw [if_pos rfl, unhide HC, unhide HMD, if_pos hs] at a
        exact a.symm
      have hcm : cm M E = -1 := by unfold cm; rw [if_pos (by omega)]
      have CM := fun p q w hp hq => cmp_big p q M E w hp hq (by omega) (by omega)
      rw [hcm] at CM
      clear T2 hcm
      go_enter Tryd.func27, Tryd.ntmps27
      go_wp2_with fail
      refine (whole_any x w (unhide HU)).mono ?_
      rintro e w1 ⟨rfl, k1, B1⟩
      have K1 := hide k1
      have HB1 := hide B1
      clear k1 B1
      go_wp2_with fail
      refine (FA _ _ (unhide HB1)).mono ?_
      rintro e w2 ⟨rfl, k2⟩
      have K2 := hide ((unhide K1).trans (k2.mono (unhide K1).size))
      clear k2
      go_wp2_with fail
      refine (WA _).mono ?_
      rintro e w3 ⟨rfl, k3, B3⟩
      have K3 := hide ((unhide K2).trans (k3.mono (unhide K2).size))
      have HB3 := hide B3
      clear k3 B3
      go_wp2_with fail
      refine (T1 _).mono ?_
      rintro e w4 ⟨rfl, k4, B4⟩
      have K4 := hide ((unhide K3).trans (k4.mono (unhide K3).size))
      have HB4 := hide B4
      have HB3 := hide ((unhide HB3).step k4)
      clear k4 B4
      go_wp2_with fail
      refine (CM _ _ _ (unhide HB3) (unhide HB4)).mono ?_
      rintro e w5 ⟨⟨q, rfl⟩, rfl⟩
      go_wp2_with fail
      go_ret
      exact ⟨_, rfl, (unhide K2).size, ⟨(unhide K4).os, (unhide K4).tape, (unhide K4).output, (unhide K4).size, (unhide K4).block⟩, unhide HB3⟩
    · obtain rfl : M = C - D := by
        have a := unhide HM
        unfold mn sgn at a
        rw [if_pos rfl, unhide HC, unhide HMD, if_neg hs] at a
        exact a.symm
      have hcm : 0 ≤ cm C E := by unfold cm; rw [if_neg (by omega)]; split <;> decide
      have CM := fun p q w hp hq => cmp_big p q C E w hp hq (by omega) (by omega)
      generalize cm C E = cv at *
      go_enter Tryd.func27, Tryd.ntmps27
      go_wp2_with fail
      refine (whole_any x w (unhide HU)).mono ?_
      rintro e w1 ⟨rfl, k1, B1⟩
      have K1 := hide k1
      have HB1 := hide B1
      clear k1 B1
      go_wp2_with fail
      refine (FA _ _ (unhide HB1)).mono ?_
      rintro e w2 ⟨rfl, k2⟩
      have K2 := hide ((unhide K1).trans (k2.mono (unhide K1).size))
      clear k2
      go_wp2_with fail
      refine (WA _).mono ?_
      rintro e w3 ⟨rfl, k3, B3⟩
      have K3 := hide ((unhide K2).trans (k3.mono (unhide K2).size))
      have HB3 := hide B3
      clear k3 B3
      go_wp2_with fail
      refine (T1 _).mono ?_
      rintro e w4 ⟨rfl, k4, B4⟩
      have K4 := hide ((unhide K3).trans (k4.mono (unhide K3).size))
      have HB4 := hide B4
      have HB3 := hide ((unhide HB3).step k4)
      clear k4 B4
      go_wp2_with fail
      refine (CM _ _ _ (unhide HB3) (unhide HB4)).mono ?_
      rintro e w5 ⟨⟨q, rfl⟩, rfl⟩
      have HB5 : Hid (Big (w4.drewN q) w2.heap.size C) := unhide HB3
      have K5 : Hid (Below w.heap.size w (w4.drewN q)) := ⟨(unhide K4).os, (unhide K4).tape, (unhide K4).output, (unhide K4).size, (unhide K4).block⟩
      generalize w4.drewN q = w5 at *
      go_wp2_with fail
      refine (T2 _).mono ?_
      rintro e w6 ⟨rfl, k6, B6⟩
      have K6 := hide ((unhide K5).trans (k6.mono (unhide K5).size))
      have HB6 := hide B6
      have HB7 := hide ((unhide HB5).step k6)
      have ne : w5.heap.size ≠ w2.heap.size := by have := (unhide HB5).lt; omega
      clear k6 B6
      go_wp2_with fail
      refine (sub_big w2.heap.size w2.heap.size w5.heap.size C D _ (unhide HB7).int (unhide HB7) (unhide HB6) ne (by omega) (by omega)).mono ?_
      rintro e w7 ⟨rfl, k7, B7⟩
      have K7 := hide ((unhide K6).trans (k7.below (unhide K2).size (unhide K6).size))
      have HB8 := hide B7
      clear k7 B7
      go_wp2_with fail
      go_ret
      exact ⟨_, rfl, (unhide K2).size, unhide K7, unhide HB8⟩
end Go.Proofs.YtonekpoblgigpaaDoor
