/-
  Fit, Two at the widths; Meant.
-/
import Derived.Test.YtaidefdbjcgcbaaGreatPlainz
import Derived.Test.YtaidefdbjcgcbaaGreatBigGz
import Derived.Test.YtaidefdbjcgcbaaGreatBigDz
import Derived.Test.YtaidefdbjcgcbaaGreatBigM1z
import Derived.Test.YtaidefdbjcgcbaaGreatBigM2z
import Derived.Test.YtaidefdbjcgcbaaGreatTyNz
import Derived.Test.YtaidefdbjcgcbaaGreatTyEz
import Derived.Test.YtaidefdbjcgcbaaGreatTyAz
namespace Go.Proofs.YtaidefdbjcgcbaaGreat
open Go.RowKit
set_option linter.unusedSimpArgs false
set_option linter.unusedVariables false

theorem divOk_w {n x : Int} (h : IsW n) (h0 : 0 ≤ x) (h1 : x < 4294967296 ^ 6) : DivOk x (md n) := by
  have b6 : (4294967296 : Int) ^ 6 < 4294967296 ^ 8 := by decide
  have b8 : (18446744073709551616 : Int) < 4294967296 ^ 8 := by decide
  rcases h with rfl | rfl | rfl | rfl
  · rw [md_8]; exact divOk_short (by omega) (by omega) (by decide) (.inr (.inr (by decide)))
  · rw [md_16]; exact divOk_short (by omega) (by omega) (by decide) (.inr (.inr (by decide)))
  · rw [md_32]
    by_cases hl : x < 18446744073709551616
    · exact divOk_short (by omega) (by omega) (by decide) (.inr (.inl hl))
    · have e : (4294967296 : Int) = 4294967296 ^ 1 := by decide
      intro w v1 v2 d1 d2
      have := div_long1 v1 v2 x w d1 (by rw [← e]; exact d2) h1 (by omega)
      rw [← e] at this
      exact this
  · rw [md_64]
    by_cases hl : x < 18446744073709551616
    · exact divOk_short (by omega) (by omega) (by decide) (.inr (.inl hl))
    · have e : (18446744073709551616 : Int) = 4294967296 ^ 2 := by decide
      intro w v1 v2 d1 d2
      have := div_long2 v1 v2 x w d1 (by rw [← e]; exact d2) h1 (by omega)
      rw [← e] at this
      exact this
theorem w_nat {n : Int} (h : IsW n) : ∃ k : Nat, n = (k : Int) ∧ 8 ≤ k ∧ k ≤ 64 := by
  rcases h with rfl | rfl | rfl | rfl
  · exact ⟨8, rfl, by decide, by decide⟩
  · exact ⟨16, rfl, by decide, by decide⟩
  · exact ⟨32, rfl, by decide, by decide⟩
  · exact ⟨64, rfl, by decide, by decide⟩
theorem fitW (a : Nat) (x n : Int) (w : World) (ha : Big w a x) (h : IsW n) (hx : x.natAbs < 4294967296 ^ 6) :
    Calls Tryz.prog 60 #[.pointer (some ⟨a, 0, none⟩), .int .i64 n] w fun e w' => e = .returned (.int .u64 (cut n x)) ∧ Below w.heap.size w w' := by
  have hd := divOk_w (x := (x.natAbs : Int)) h (by omega) (by omega)
  obtain ⟨k, rfl, _, h2⟩ := w_nat h
  exact fit_any a x k w ha h2 hx hd
theorem twoI (z : Int) (w : World) (h0 : 0 ≤ z) (h1 : z ≤ 64) :
    Calls Tryz.prog 102 #[.int .i64 z] w fun e w' => e = .returned (.pointer (some ⟨w.heap.size, 0, none⟩)) ∧ Below w.heap.size w w' ∧ Big w' w.heap.size (2 ^ z.toNat) := by
  obtain ⟨k, rfl⟩ : ∃ k : Nat, z = k := ⟨z.toNat, by omega⟩
  exact two_any k w (by omega)
theorem half_w {n : Int} (h : IsW n) : 2 * 2 ^ (n - 1).toNat = md n ∧ (0 : Int) < 2 ^ (n - 1).toNat ∧ 0 ≤ n - 1 ∧ n ≤ 64 ∧ 0 ≤ n := by
  rcases h with rfl | rfl | rfl | rfl <;> refine ⟨by decide, by decide, by decide, by decide, by decide⟩
theorem mn_abs {n : Int} (h : IsW n) (s : Bool) (x : Int) : (mn s n x).natAbs ≤ 18446744073709551615 := by
  have a := cut_lo h x
  have b := cut_hi h x
  have c := cut_lt h x
  have d := md_le h
  unfold mn sgn
  split
  · split <;> omega
  · omega

set_option maxRecDepth 100000 in
set_option maxHeartbeats 1000000 in
theorem meant_any (x n : Int) (s : Bool) (w : World) (h : IsW n) (hx : U x) :
    Calls Tryz.prog 98 #[.int .u64 x, .int .i64 n, .bool s] w fun e w' => ∃ p, e = .returned (.pointer (some ⟨p, 0, none⟩)) ∧ w.heap.size ≤ p ∧ Below w.heap.size w w' ∧ Big w' p (mn s n x) := by
  obtain ⟨h1, h2, h3, h4, h5⟩ := half_w h
  have c0 := cut_lo h x
  have c1 := cut_hi h x
  have c2 := cut_lt h x
  have mle := md_le h
  have mpos := md_pos h
  have b8 : (18446744073709551616 : Nat) < 4294967296 ^ 6 := by decide
  have FA := fun a w ha => fitW a x n w ha h (by unfold U at hx; omega)
  have WA := fun w => whole_any (cut n x) w (u_cut h x)
  have HU := hide hx
  clear hx
  have T1 := fun w => twoI (n - 1) w h3 (by omega)
  have T2 := fun w => twoI n w h5 h4
  rw [show (2 : Int) ^ n.toNat = md n from rfl] at T2
  generalize hm : mn s n x = M
  have HM := hide hm
  clear hm
  generalize hC : cut n x = C at *
  have HC := hide hC
  clear hC
  generalize hmd : md n = D at *
  have HMD := hide hmd
  clear hmd
  generalize (2 : Int) ^ (n - 1).toNat = E at *
  cases s
  · obtain rfl : M = C := by rw [← unhide HM, ← unhide HC]; rfl
    clear T1 T2
    go_enter Tryz.func98, Tryz.ntmps98
    go_wp2_with fail
    refine (whole_any x w (unhide HU)).mono ?_
    rintro e w1 ⟨rfl, k1, B1⟩
    have K1 := hide k1
    have HB1 := hide B1
    clear k1 B1
    go_wp2_with fail
    refine (FA _ _ (unhide HB1)).mono ?_
    rintro e w2 ⟨rfl, k2⟩
    have K2 := hide ((unhide K1).trans (k2.mono (unhide K1).size))
    clear k2
    go_wp2_with fail
    refine (WA _).mono ?_
    rintro e w3 ⟨rfl, k3, B3⟩
    have K3 := hide ((unhide K2).trans (k3.mono (unhide K2).size))
    have HB3 := hide B3
    clear k3 B3
    go_wp2_with fail
    go_ret
    exact ⟨_, rfl, (unhide K2).size, unhide K3, unhide HB3⟩
  · by_cases hs : 2 * C < D
    · obtain rfl : M = C := by
        have a := unhide HM
        unfold mn sgn at a
        rw [if_pos rfl, unhide HC, unhide HMD, if_pos hs] at a
        exact a.symm
      have hcm : cm M E = -1 := by unfold cm; rw [if_pos (by omega)]
      have CM := fun p q w hp hq => cmp_big p q M E w hp hq (by omega) (by omega)
      rw [hcm] at CM
      clear T2 hcm
      go_enter Tryz.func98, Tryz.ntmps98
      go_wp2_with fail
      refine (whole_any x w (unhide HU)).mono ?_
      rintro e w1 ⟨rfl, k1, B1⟩
      have K1 := hide k1
      have HB1 := hide B1
      clear k1 B1
      go_wp2_with fail
      refine (FA _ _ (unhide HB1)).mono ?_
      rintro e w2 ⟨rfl, k2⟩
      have K2 := hide ((unhide K1).trans (k2.mono (unhide K1).size))
      clear k2
      go_wp2_with fail
      refine (WA _).mono ?_
      rintro e w3 ⟨rfl, k3, B3⟩
      have K3 := hide ((unhide K2).trans (k3.mono (unhide K2).size))
      have HB3 := hide B3
      clear k3 B3
      go_wp2_with fail
      refine (T1 _).mono ?_
      rintro e w4 ⟨rfl, k4, B4⟩
      have K4 := hide ((unhide K3).trans (k4.mono (unhide K3).size))
      have HB4 := hide B4
      have HB3 := hide ((unhide HB3).step k4)
      clear k4 B4
      go_wp2_with fail
      refine (CM _ _ _ (unhide HB3) (unhide HB4)).mono ?_
      rintro e w5 ⟨⟨q, rfl⟩, rfl⟩
      go_wp2_with fail
      go_ret
      exact ⟨_, rfl, (unhide K2).size, ⟨(unhide K4).os, (unhide K4).tape, (unhide K4).output, (unhide K4).size, (unhide K4).block⟩, unhide HB3⟩
    · obtain rfl : M = C - D := by
        have a := unhide HM
        unfold mn sgn at a
        rw [if_pos rfl, unhide HC, unhide HMD, if_neg hs] at a
        exact a.symm
      have hcm : 0 ≤ cm C E := by unfold cm; rw [if_neg (by omega)]; split <;> decide
      have CM := fun p q w hp hq => cmp_big p q C E w hp hq (by omega) (by omega)
      generalize cm C E = cv at *
      go_enter Tryz.func98, Tryz.ntmps98
      go_wp2_with fail
      refine (whole_any x w (unhide HU)).mono ?_
      rintro e w1 ⟨rfl, k1, B1⟩
      have K1 := hide k1
      have HB1 := hide B1
      clear k1 B1
      go_wp2_with fail
      refine (FA _ _ (unhide HB1)).mono ?_
      rintro e w2 ⟨rfl, k2⟩
      have K2 := hide ((unhide K1).trans (k2.mono (unhide K1).size))
      clear k2
      go_wp2_with fail
      refine (WA _).mono ?_
      rintro e w3 ⟨rfl, k3, B3⟩
      have K3 := hide ((unhide K2).trans (k3.mono (unhide K2).size))
      have HB3 := hide B3
      clear k3 B3
      go_wp2_with fail
      refine (T1 _).mono ?_
      rintro e w4 ⟨rfl, k4, B4⟩
      have K4 := hide ((unhide K3).trans (k4.mono (unhide K3).size))
      have HB4 := hide B4
      have HB3 := hide ((unhide HB3).step k4)
      clear k4 B4
      go_wp2_with fail
      refine (CM _ _ _ (unhide HB3) (unhide HB4)).mono ?_
      rintro e w5 ⟨⟨q, rfl⟩, rfl⟩
      have HB5 : Hid (Big (w4.drewN q) w2.heap.size C) := unhide HB3
      have K5 : Hid (Below w.heap.size w (w4.drewN q)) := ⟨(unhide K4).os, (unhide K4).tape, (unhide K4).output, (unhide K4).size, (unhide K4).block⟩
      generalize w4.drewN q = w5 at *
      go_wp2_with fail
      refine (T2 _).mono ?_
      rintro e w6 ⟨rfl, k6, B6⟩
      have K6 := hide ((unhide K5).trans (k6.mono (unhide K5).size))
      have HB6 := hide B6
      have HB7 := hide ((unhide HB5).step k6)
      have ne : w5.heap.size ≠ w2.heap.size := by have := (unhide HB5).lt; omega
      clear k6 B6
      go_wp2_with fail
      refine (sub_big w2.heap.size w2.heap.size w5.heap.size C D _ (unhide HB7).int (unhide HB7) (unhide HB6) ne (by omega) (by omega)).mono ?_
      rintro e w7 ⟨rfl, k7, B7⟩
      have K7 := hide ((unhide K6).trans (k7.below (unhide K2).size (unhide K6).size))
      have HB8 := hide B7
      clear k7 B7
      go_wp2_with fail
      go_ret
      exact ⟨_, rfl, (unhide K2).size, unhide K7, unhide HB8⟩
end Go.Proofs.YtaidefdbjcgcbaaGreat

/-
  The document's answer on types of numbers: Valid, Wide, Meant and Convert.
-/
namespace Go.Proofs.YtaidefdbjcgcbaaGreat
open Go.RowKit
set_option linter.unusedSimpArgs false
set_option linter.unusedVariables false

theorem rvalid7_yes (b : Int) (s : Bool) (w : World) (h : IsW b) : Calls Tryz.prog 36 #[.agg #[.int .i64 b, .bool s]] w fun e w' => e = .returned (.bool true) ∧ Below w.heap.size w w' := by
  go_enter Tryz.func36, Tryz.ntmps36
  go_wp2_with (go_at_call 58; refine (rwidth_yes _ h _).mono ?_; rintro e w1 ⟨rfl, k1⟩)
  go_ret
  exact ⟨rfl, bT (below_a _ _) k1⟩
theorem rvalid7_no (b : Int) (s : Bool) (w : World) (h : NoW b) : Calls Tryz.prog 36 #[.agg #[.int .i64 b, .bool s]] w fun e w' => e = .returned (.bool false) ∧ Below w.heap.size w w' := by
  go_enter Tryz.func36, Tryz.ntmps36
  go_wp2_with (go_at_call 58; refine (rwidth_no _ _ h).mono ?_; rintro e w1 ⟨rfl, k1⟩)
  go_ret
  exact ⟨rfl, bT (below_a _ _) k1⟩
theorem rwide_any (b : Int) (s : Bool) (w : World) : Calls Tryz.prog 62 #[.agg #[.int .i64 b, .bool s]] w fun e w' => e = .returned (.agg #[.int .i64 (pb b), .bool (ps b s)]) ∧ Below w.heap.size w w' := by
  by_cases h : b < 16
  · have e1 : pb b = 16 := by unfold pb; rw [if_pos h]
    have e2 : ps b s = true := by unfold ps; rw [if_pos h]
    rw [e1, e2]
    have h0 : decide (b < 16) = true := by simpa using h
    clear e1 e2
    go_enter Tryz.func62, Tryz.ntmps62
    go_wp2
    exact bodyPost_ret (v := .agg #[.int .i64 16, .bool true]) (by simp [results, Tryz.results62, go_sem]) rfl ⟨rfl, (by repeat (first | exact (Below.refl _ _) | refine Below.setCell ?_ (by first | exact Nat.le_refl _ | (simp; done) | omega | (simp; omega)) _ | refine Below.alloc ?_ (by first | (simp; done) | omega | (simp; omega)) _))⟩
  · have e1 : pb b = b := by unfold pb; rw [if_neg h]
    have e2 : ps b s = s := by unfold ps; rw [if_neg h]
    rw [e1, e2]
    have h0 : decide (b < 16) = false := by simpa using h
    clear e1 e2
    go_enter Tryz.func62, Tryz.ntmps62
    go_wp2
    exact bodyPost_ret (v := .agg #[.int .i64 b, .bool s]) (by simp [results, Tryz.results62, go_sem]) rfl ⟨rfl, (by repeat (first | exact (Below.refl _ _) | refine Below.setCell ?_ (by first | exact Nat.le_refl _ | (simp; done) | omega | (simp; omega)) _ | refine Below.alloc ?_ (by first | (simp; done) | omega | (simp; omega)) _))⟩
theorem rmeant_any (x b : Int) (s : Bool) (w : World) (h : IsW b) (hx : U x) : Calls Tryz.prog 61 #[.int .u64 x, .agg #[.int .i64 b, .bool s]] w fun e w' => ∃ p, e = .returned (.pointer (some ⟨p, 0, none⟩)) ∧ w.heap.size ≤ p ∧ Below w.heap.size w w' ∧ Big w' p (mn s b x) := by
  go_enter Tryz.func61, Tryz.ntmps61
  go_wp2_with fail
  refine (meant_any x b s _ h hx).mono ?_
  rintro e w1 ⟨p, rfl, hp, k1, B1⟩
  have hp' : w.heap.size ≤ p := by simp at hp; omega
  have K1 := hide (bT (below_a _ _) k1)
  have HB := hide B1
  clear k1 B1 hp
  go_wp2_with fail
  go_ret
  exact ⟨p, rfl, hp', unhide K1, unhide HB⟩
set_option maxHeartbeats 1000000 in
theorem rconvert_any (x a : Int) (s : Bool) (b : Int) (t : Bool) (w : World) (ha : IsW a) (hb : IsW b) (hx : U x) : Calls Tryz.prog 38 #[.int .u64 x, .agg #[.int .i64 a, .bool s], .agg #[.int .i64 b, .bool t]] w fun e w' => e = .returned (.int .u64 (conv x a s b)) ∧ Below w.heap.size w w' := by
  have MA := hide (fun (w : World) => rmeant_any x a s w ha hx)
  have xa := mn_abs ha s x
  have b6 : (18446744073709551616 : Nat) < 4294967296 ^ 6 := by decide
  unfold conv
  generalize mn s a x = M at *
  go_enter Tryz.func38, Tryz.ntmps38
  go_wp2_with fail
  have R0 := hide (Duo.new (w := w) (T := 34) (a0 := .int .i64 a) (a1 := .bool s) (b0 := .int .i64 b) (b1 := .bool t) (Below.refl _ _))
  generalize (w.alloc (.cells #[.int .i64 a, .bool s] 34)).alloc (.cells #[.int .i64 b, .bool t] 34) = w0 at *
  obtain ⟨x0, x1⟩ := (unhide R0).A.at2
  obtain ⟨x2, x3⟩ := (unhide R0).B.at2
  refine reg_start (fun W => W.cell? ⟨w.heap.size, 0, none⟩ = some (.int .i64 a) ∧ W.cell? ⟨w.heap.size, 1, none⟩ = some (.bool s) ∧ W.cell? ⟨w.heap.size + 1, 0, none⟩ = some (.int .i64 b)) (by kernel_rfl) ?_
  refine reg_seg 0 2 5 (by kernel_rfl) (by decide) (by kernel_rfl) (by kernel_rfl) (fun _ _ _ _ _ h => h) ?_
  simp only [List.take_succ_cons, List.take_zero, List.drop_succ_cons, List.drop_zero]
  repeat (refine wpSteady_step (fun K hK => ?_); go_simp; first | (refine steady_of ?_ (fun W hW => ?_) (hK _ ?_); rotate_left; (obtain ⟨c1, c2, c3⟩ := hW; go_simp; first | done | rfl); clear hK K) | (refine hK _ ?_; clear hK K))
  refine wpSteady_nil ?_
  refine reg_seg 3 2 3 (by kernel_rfl) (by decide) (by kernel_rfl) (by kernel_rfl) (fun _ _ _ _ _ h => h) ?_
  simp only [List.take_succ_cons, List.take_zero, List.drop_succ_cons, List.drop_zero]
  repeat (refine wpSteady_step (fun K hK => ?_); go_simp; first | (refine steady_of ?_ (fun W hW => ?_) (hK _ ?_); rotate_left; (obtain ⟨c1, c2, c3⟩ := hW; go_simp; first | done | rfl); clear hK K) | (refine hK _ ?_; clear hK K))
  refine wpSteady_nil ?_
  refine reg_one 2 2 (by kernel_rfl) (by kernel_rfl) ⟨x0, x1, x2⟩ ?_
  simp only [List.take_succ_cons, List.take_zero, List.drop_succ_cons, List.drop_zero]
  go_wp2_with fail
  refine (unhide MA _).mono ?_
  rintro e w2 ⟨p, rfl, hp, k2, G2⟩
  clear x0 x1 x2 x3
  have k2' := of_drew k2
  have R2 := hide ((unhide R0).step k2')
  have HB2 := hide G2
  clear R0 k2 k2' G2
  obtain ⟨x0, x1⟩ := (unhide R2).A.at2
  obtain ⟨x2, x3⟩ := (unhide R2).B.at2
  go_wp2_with fail
  first | refine next_nil ?_ | refine next_go ?_
  refine reg_one 5 1 (by kernel_rfl) (by kernel_rfl) ⟨x0, x1, x2⟩ ?_
  simp only [List.take_succ_cons, List.take_zero, List.drop_succ_cons, List.drop_zero]
  go_wp2_with fail
  refine (fitW p M b _ (unhide HB2) hb (by omega)).mono ?_
  rintro e w3 ⟨rfl, k3⟩
  clear x0 x1 x2 x3
  have R := hide ((unhide R2).step k3)
  clear R2 k3 HB2
  obtain ⟨x0, x1⟩ := (unhide R).A.at2
  obtain ⟨x2, x3⟩ := (unhide R).B.at2
  go_wp2_with fail
  first | refine next_nil ?_ | refine next_go ?_
  refine reg_one 6 0 (by kernel_rfl) (by kernel_rfl) ⟨x0, x1, x2⟩ ?_
  simp only [List.take_succ_cons, List.take_zero, List.drop_succ_cons, List.drop_zero]
  go_wp2_with fail
  first | refine next_nil ?_ | refine next_go ?_
  refine reg_end (by kernel_rfl) ⟨x0, x1, x2⟩ ?_
  go_wp2_with fail
  go_ret
  exact ⟨rfl, (unhide R).bel⟩
end Go.Proofs.YtaidefdbjcgcbaaGreat

/-
  The document's answer on types of numbers: how a type is written.
-/
namespace Go.Proofs.YtaidefdbjcgcbaaGreat
open Go.RowKit
set_option linter.unusedSimpArgs false
set_option linter.unusedVariables false

abbrev TabI := List (Int × ByteArray)
def tabI : TabI := [(8, ⟨#[56]⟩), (16, ⟨#[49, 54]⟩), (32, ⟨#[51, 50]⟩), (64, ⟨#[54, 52]⟩)]
def entI (n : Nat) : Array MapEntry := ((tabI.take n).zipIdx.map fun p => (⟨.int .i64 p.1.1, .string p.1.2, p.2⟩ : MapEntry)).toArray
theorem run_putI (w : World) (n : Nat) (k : Int) (s : ByteArray) (hn : entI (n + 1) = (entI n).push ⟨.int .i64 k, .string s, n⟩) (hf : Instr.findNow (.int .i64) (.int .i64 k) (entI n).toList 0 = some none) :
    (Instr.mapUpdate 191 (.map (some w.heap.size)) (.int .i64 k) (.string s)).run Tryz.prog (w.alloc (.map (entI n) n)) = .ok () (w.alloc (.map (entI (n + 1)) (n + 1))) := by
  have hb : (w.alloc (.map (entI n) n)).heap[w.heap.size]? = some (.map (entI n) n) := heapNew _ _
  unfold Instr.mapUpdate
  simp only [Sem.run_bind, run_underlying Tryz.underlying191, Result.andThen, Go.MapKept.run_getObj_map hb, Go.MapKept.run_checkKey Tryz.underlying3 (show Go.MapKept.IsKey (.int .i64) (.int .i64 k) from rfl), Go.MapKept.run_findKey Tryz.underlying3 hf, Go.MapKept.run_setObj_map _ hb]
  rw [alloc_set, hn]
theorem run_lookI (w : World) (b : Int) (h : IsW b) : (Instr.lookup 191 (.map (some w.heap.size)) (.int .i64 b) false).run Tryz.prog (w.alloc (.map (entI 4) 4)) = .ok (.string ⟨dgT b⟩) (w.alloc (.map (entI 4) 4)) := by
  have hb : (w.alloc (.map (entI 4) 4)).heap[w.heap.size]? = some (.map (entI 4) 4) := heapNew _ _
  have hf : ∃ j, Instr.findNow (.int .i64) (.int .i64 b) (entI 4).toList 0 = some (some (j, .string ⟨dgT b⟩)) := by
    rcases h with rfl | rfl | rfl | rfl
    · exact ⟨0, by kernel_rfl⟩
    · exact ⟨1, by kernel_rfl⟩
    · exact ⟨2, by kernel_rfl⟩
    · exact ⟨3, by kernel_rfl⟩
  obtain ⟨j, hf⟩ := hf
  unfold Instr.lookup
  simp only [Sem.run_bind, run_underlying Tryz.underlying191, Result.andThen, Go.MapKept.run_getObj_map hb, Sem.run_pure, Go.MapKept.run_checkKey Tryz.underlying3 (show Go.MapKept.IsKey (.int .i64) (.int .i64 b) from rfl), Go.MapKept.run_findKey Tryz.underlying3 hf]
  rfl
set_option maxRecDepth 100000 in
set_option maxHeartbeats 1000000 in
theorem rname_yes (b : Int) (s : Bool) (w : World) (h : IsW b) : Calls Tryz.prog 139 #[.agg #[.int .i64 b, .bool s]] w fun e w' => e = .returned (.string (nmT b s)) ∧ Below w.heap.size w w' := by
  have HV := hide (fun (w : World) => rvalid7_yes b s w h)
  have h0 : (b == 0) = false := by rcases h with rfl | rfl | rfl | rfl <;> decide
  have hD : ¬ (9223372036854775807 < 1 + (dgT b).size) := by rcases h with rfl | rfl | rfl | rfl <;> decide
  have HL := hide (fun w => run_lookI w b h)
  have hmm : ∀ w : World, (Instr.makeMap 191 none).run Tryz.prog w = .ok (.map (some w.heap.size)) (w.alloc (.map (entI 0) 0)) := fun w => rfl
  have H0 := hide (fun w => run_putI w 0 8 ⟨#[56]⟩ (by kernel_rfl) (by kernel_rfl))
  have H1 := hide (fun w => run_putI w 1 16 ⟨#[49, 54]⟩ (by kernel_rfl) (by kernel_rfl))
  have H2 := hide (fun w => run_putI w 2 32 ⟨#[51, 50]⟩ (by kernel_rfl) (by kernel_rfl))
  have H3 := hide (fun w => run_putI w 3 64 ⟨#[54, 52]⟩ (by kernel_rfl) (by kernel_rfl))
  cases s
  all_goals
    unfold nmT
    generalize dgT b = D at *
    go_enter Tryz.func139, Tryz.ntmps139
    go_wp2_with fail
    refine (unhide HV _).mono ?_
    rintro e w1 ⟨rfl, k1⟩
    have R1 := hide ((Box.new w #[_, _] 34).step k1)
    obtain ⟨x0, x1⟩ := (unhide R1).at2
    have lw := (unhide R1).1
    have hl := unhide HL w1
    have h0' := unhide H0 w1
    have h1' := unhide H1 w1
    have h2' := unhide H2 w1
    have h3' := unhide H3 w1
    simp only [Nat.reduceAdd] at h0' h1' h2' h3'
    generalize entI 0 = e0 at *
    generalize entI 1 = e1 at *
    generalize entI 2 = e2 at *
    generalize entI 3 = e3 at *
    generalize entI 4 = e4 at *
    go_wp2_with fail
    go_ret
    exact ⟨rfl, bT (below_a _ _) (bT k1 (below_a _ _))⟩
theorem rname_no (b : Int) (s : Bool) (w : World) (h : NoW b) : Calls Tryz.prog 139 #[.agg #[.int .i64 b, .bool s]] w fun e w' => e = .returned (.string (if b = 0 then ⟨#[118, 111, 105, 100]⟩ else ⟨#[]⟩)) ∧ Below w.heap.size w w' := by
  have HV := hide (fun (w : World) => rvalid7_no b s w h)
  by_cases hb : b = 0
  · subst hb
    go_enter Tryz.func139, Tryz.ntmps139
    go_wp2
    go_ret
    exact ⟨rfl, below_a _ _⟩
  · rw [if_neg hb]
    have h0 : (b == 0) = false := beq_eq_false_iff_ne.2 hb
    go_enter Tryz.func139, Tryz.ntmps139
    go_wp2_with (go_at_call 36; refine (unhide HV _).mono ?_; rintro e w1 ⟨rfl, k1⟩)
    go_ret
    exact ⟨rfl, bT (below_a _ _) k1⟩
theorem bl_ne {a b : ByteArray} (h : a ≠ b) : (a.toList == b.toList) = false := by
  rw [← beq_toListBytes]
  cases e : (a == b)
  · rfl
  · exact absurd ((Go.MapKept.bytes_beq a b).1 e) h
theorem named_none {z : ByteArray} (h : ∀ b s, IsW b → nmT b s ≠ z) : nb z = 0 ∧ ng z = false ∧ nk z = false := by
  cases e : nk z
  · unfold nk at e
    unfold nb ng
    cases e' : look tab z with
    | none => exact ⟨rfl, rfl, rfl⟩
    | some r => rw [e'] at e; cases e
  · obtain ⟨h1, h2⟩ := named_yes e
    exact absurd h2 (h _ _ h1)
end Go.Proofs.YtaidefdbjcgcbaaGreat
