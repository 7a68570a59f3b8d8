/-
  div, but for its long way.
-/
import Derived.Test.YtjddpfojllefgaaGreatBigDz
namespace Go.Proofs.YtjddpfojllefgaaGreat
open Go.RowKit
set_option linter.unusedSimpArgs false
set_option linter.unusedVariables false

theorem Row.one (w : World) (x : Int) : Row (w.alloc (.cells #[.int .u32 x] 91)) (.slice (some ⟨w.heap.size, 0, none⟩) 1 1) [x] := by
  refine .inr ⟨w.heap.size, 1, #[.int .u32 x], (0, 0), rfl, by simp, by decide, ?_, fun j hj => ?_⟩
  · show (w.heap.push _)[w.heap.size]? = _
    simp
  · match j, hj with
    | 0, _ => rfl
theorem divOf {n1 n2 : Int} (h1 : 0 ≤ n1) (h2 : 0 < n2) : 0 ≤ n1 / n2 ∧ n1 / n2 ≤ n1 ∧ 0 ≤ n1 % n2 ∧ n1 % n2 < n2 ∧ n1 % n2 ≤ n1 := by
  refine ⟨Int.ediv_nonneg h1 (by omega), Int.ediv_le_self _ h1, Int.emod_nonneg _ (by omega), Int.emod_lt_of_pos _ h2, ?_⟩
  have h3 := Int.mul_ediv_add_emod n1 n2
  have h4 : 0 ≤ n2 * (n1 / n2) := Int.mul_nonneg (by omega) (Int.ediv_nonneg h1 (by omega))
  omega
set_option maxRecDepth 100000 in
set_option maxHeartbeats 2000000 in
/-- The short ways of a division. -/
theorem div_short (v1 v2 : Value) (n1 n2 : Int) (w : World) (h1 : Dg w v1 n1) (h2 : Dg w v2 n2) (hn1 : n1 < 4294967296 ^ 8) (hn2 : n2 < 4294967296 ^ 8) (hp : 0 < n2) (hs : n1 < n2 ∨ n1 < 18446744073709551616 ∨ n2 < 4294967296) :
    Calls Tryz.prog 107 #[v1, v2] w fun e w' => Below w.heap.size w w' ∧ ∃ q r, e = .returned (.tuple #[q, r]) ∧ Dg w' q (n1 / n2) ∧ Dg w' r (n1 % n2) := by
  have H1 := hide h1
  have H2 := hide h2
  have CM := hide (cmp_any v1 v2 n1 n2 w h1 h2 hn1 hn2)
  obtain ⟨LA, rA, iA⟩ := h1
  obtain ⟨LB, rB, iB⟩ := h2
  have lA := iA.len 8 hn1
  have lB := iB.len 8 hn2
  have lo1 := iA.lo
  obtain ⟨q1, q2, q3, q4, q5⟩ := divOf lo1 hp
  obtain ⟨aoA, capA, rfl, _, _, _, hA4, hA5, hA6⟩ := rA.at
  obtain ⟨aoB, capB, rfl, _, _, _, hB4, hB5, hB6⟩ := rB.at
  have HRB := hide (fun d (he : aoB = some ⟨d, 0, none⟩) => And.intro (hB4 d 0 none he).2.2 (hB6 d he))
  have HB5 := hide hB5
  have IA := hide iA
  have IB := hide iB
  have l0 : LB.length ≠ 0 := fun e => by have := iB.zero.1 e; omega
  have hb0 : ((LB.length : Int) == 0) = false := beq_eq_false_iff_ne.2 (by omega)
  clear hA4 hA5 hA6 hB4 hB5 hB6 rA rB iA iB
  by_cases hlt : n1 < n2
  · have hcm : decide (cm n1 n2 < 0) = true := by unfold cm; rw [if_pos hlt]; decide
    have e1 : n1 / n2 = 0 := Int.ediv_eq_zero_of_lt lo1 hlt
    have e2 : n1 % n2 = n1 := Int.emod_eq_of_lt lo1 hlt
    rw [e1, e2]
    clear hs q1 q2 q3 q4 q5 e1 e2
    go_enter Tryz.func107, Tryz.ntmps107
    go_wp2_with fail
    refine (unhide CM).mono ?_
    rintro e w1 ⟨⟨k, rfl⟩, rfl⟩
    go_wp2_with fail
    refine (twin_any _ n1 (w.drewN k) (unhide H1) hn1).mono ?_
    rintro e w2 ⟨k1, v, rfl, D1⟩
    have K1 := hide (of_drewN k1)
    have HD := hide D1
    clear k1 D1
    go_wp2_with fail
    go_ret2
    exact ⟨unhide K1, _, _, rfl, Dg.nil _, unhide HD⟩
  · have hcm : decide (cm n1 n2 < 0) = false := by unfold cm; rw [if_neg hlt]; split <;> decide
    by_cases hl2 : LA.length ≤ 2
    · have hn64 : n1 < 18446744073709551616 := by
        have := (unhide IA).hi
        have := bp_le hl2
        omega
      have hb2 : decide ((LA.length : Int) ≤ 2) = true := decide_eq_true (by omega)
      have hnz : (n2 == 0) = false := beq_eq_false_iff_ne.2 (by omega)
      have P1 := hide (fun k => plain_any _ n1 (w.drewN k) (unhide H1) (by omega))
      have P2 := hide (fun k => plain_any _ n2 (w.drewN k) (unhide H2) (by omega))
      have WQ := hide (fun W => words_any (n1 / n2) W ⟨by omega, by omega⟩)
      have WR := hide (fun W => words_any (n1 % n2) W ⟨by omega, by omega⟩)
      have hr1 : 0 ≤ n1 ∧ n1 ≤ 18446744073709551615 := by omega
      have hr2 : 0 ≤ n2 ∧ n2 ≤ 18446744073709551615 := by omega
      have hnz' : ¬ (n2 = 0) := by omega
      have htd : n1.tdiv n2 = n1 / n2 := Int.tdiv_eq_ediv_of_nonneg lo1
      have htm : n1.tmod n2 = n1 % n2 := Int.tmod_eq_emod_of_nonneg lo1
      generalize hQ : n1 / n2 = Q at *
      generalize hR : n1 % n2 = R at *
      clear hs
      go_enter Tryz.func107, Tryz.ntmps107
      go_wp2_with fail
      refine (unhide CM).mono ?_
      rintro e w1 ⟨⟨k, rfl⟩, rfl⟩
      go_wp2_with fail
      refine (unhide P1 k).mono ?_
      rintro e w1 ⟨rfl, rfl⟩
      go_wp2_with fail
      refine (unhide P2 k).mono ?_
      rintro e w1 ⟨rfl, rfl⟩
      go_wp2_with fail
      refine reg_start (fun W => True) (by kernel_rfl) ?_
      refine reg_seg 0 3 7 (by kernel_rfl) (by decide) (by kernel_rfl) (by kernel_rfl) (fun _ _ _ _ _ h => h) ?_
      simp only [List.take_succ_cons, List.take_zero, List.drop_succ_cons, List.drop_zero]
      repeat (refine wpSteady_step (fun K hK => ?_); go_simp; first | (refine steady_of ?_ (fun W hW => ?_) (hK _ ?_); rotate_left; (obtain h1 := hW; go_simp; first | done | rfl); clear hK K) | (refine hK _ ?_; clear hK K))
      refine wpSteady_nil ?_
      refine reg_seg 4 3 4 (by kernel_rfl) (by decide) (by kernel_rfl) (by kernel_rfl) (fun _ _ _ _ _ h => h) ?_
      simp only [List.take_succ_cons, List.take_zero, List.drop_succ_cons, List.drop_zero]
      repeat (refine wpSteady_step (fun K hK => ?_); go_simp; first | (refine steady_of ?_ (fun W hW => ?_) (hK _ ?_); rotate_left; (obtain h1 := hW; go_simp; first | done | rfl); clear hK K) | (refine hK _ ?_; clear hK K))
      refine wpSteady_nil ?_
      refine reg_one 3 3 (by kernel_rfl) (by kernel_rfl) trivial ?_
      simp only [List.take_succ_cons, List.take_zero, List.drop_succ_cons, List.drop_zero]
      go_wp2_with fail
      refine (unhide WQ _).mono ?_
      rintro e w1 ⟨k1, v1, rfl, D1⟩
      have K1 := hide (of_drewN (of_drew k1))
      have HD1 := hide D1
      clear k1 D1
      go_wp2_with fail
      first | refine next_nil ?_ | refine next_go ?_
      refine reg_one 7 2 (by kernel_rfl) (by kernel_rfl) trivial ?_
      simp only [List.take_succ_cons, List.take_zero, List.drop_succ_cons, List.drop_zero]
      go_wp2_with fail
      refine (unhide WR _).mono ?_
      rintro e w2 ⟨k2, v2, rfl, D2⟩
      have K2 := hide k2
      have HD2 := hide D2
      clear k2 D2
      go_wp2_with fail
      first | refine next_nil ?_ | refine next_go ?_
      refine reg_seg 8 2 0 (by kernel_rfl) (by decide) (by kernel_rfl) (by kernel_rfl) (fun _ _ _ _ _ h => h) ?_
      simp only [List.take_succ_cons, List.take_zero, List.drop_succ_cons, List.drop_zero]
      repeat (refine wpSteady_step (fun K hK => ?_); go_simp; first | (refine steady_of ?_ (fun W hW => ?_) (hK _ ?_); rotate_left; (obtain h1 := hW; go_simp; first | done | rfl); clear hK K) | (refine hK _ ?_; clear hK K))
      refine wpSteady_nil ?_
      refine reg_end (by kernel_rfl) trivial ?_
      go_wp2_with fail
      go_ret2
      exact ⟨(unhide K1).trans ((unhide K2).mono (unhide K1).size), _, _, rfl, (unhide HD1).step (unhide K2), unhide HD2⟩
    · have hn64 : 18446744073709551616 ≤ n1 := by
        have := is_top (unhide IA) (k := LA.length - 1) (by omega)
        have := bp_le (a := 2) (b := LA.length - 1) (by omega)
        omega
      have hn32 : n2 < 4294967296 := by omega
      have hb2 : decide ((LA.length : Int) ≤ 2) = false := decide_eq_false (by omega)
      have l1 : LB.length = 1 := by have := (unhide IB).len 1 (by omega); omega
      have hb1 : ((LB.length : Int) == 1) = true := by rw [l1]; rfl
      obtain ⟨d, rfl⟩ := unhide HB5 l0
      obtain ⟨hd, hc⟩ := unhide HRB d rfl
      have c0 := hc 0 (by omega)
      have hv : LB.getD 0 0 = n2 := ((is_two (unhide IB) (by omega)).2.2.1 l1).symm
      rw [hv] at c0
      have SM := hide (fun k => small_any _ n1 n2 (w.drewN k) (unhide H1) hn1 hp (by omega))
      clear hc hs hv
      rw [l1] at CM ⊢
      go_enter Tryz.func107, Tryz.ntmps107
      go_wp2_with fail
      refine (unhide CM).mono ?_
      rintro e w1 ⟨⟨k, rfl⟩, rfl⟩
      go_wp2_with fail
      refine (unhide SM k).mono ?_
      rintro e w1 ⟨k1, v1, rfl, D1⟩
      have K1 := hide (of_drewN k1)
      have HD1 := hide D1
      clear k1 D1
      go_wp2_with fail
      refine (trim_any _ _ _ (Row.one w1 (n1 % n2)) (by intro y hy; simp at hy; omega) (by simp)).mono ?_
      rintro e w2 ⟨rfl, v2, rfl, D2⟩
      have K2 := hide (below_a w1 (.cells #[.int .u32 (n1 % n2)] 91))
      have e0 : vl [n1 % n2] = n1 % n2 := by simp [vl]
      rw [e0] at D2
      have HD2 := hide D2
      clear D2 e0
      go_wp2_with fail
      go_ret2
      exact ⟨(unhide K1).trans ((unhide K2).mono (unhide K1).size), _, _, rfl, (unhide HD1).step (unhide K2), unhide HD2⟩
end Go.Proofs.YtjddpfojllefgaaGreat
