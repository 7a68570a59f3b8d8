/-
  InstrTells, walked.
-/
import Derived.Test.YtjkkcnokddpjgaaRefD
import Derived.Test.YtjkkcnokddpjgaaOpenN
namespace Go.Proofs.Ytjkkcnokddpjgaa
open Go.RowKit
set_option linter.unusedSimpArgs false
set_option linter.unusedVariables false

set_option maxRecDepth 100000 in
set_option maxHeartbeats 8000000 in
theorem walk_instrTells (i : Ins) (xs : List Int) (p : Int) (vx : Value) (w : World) (_ : I64 i.o ∧ I64 i.d ∧ I64 i.s ∧ I64 i.m) (hx : Ints w vx xs) (_ : ∀ x ∈ xs, I64 x) (_ : (Lit.int .i64 p).wf = true) :
    Calls Try.prog 3 #[agg i, vx, .int .i64 p] w fun e w' => e = .returned (.bool true) ∧ Below w.heap.size w w' := by
  obtain ⟨xo, xc, rfl, mx, hxat⟩ := hx.at
  have HX := hideI hx
  clear hx hxat
  unfold maxLen at mx
  have B0 := hideI (Box.new w #[.int .i64 i.o, .int .i64 i.d, .int .i64 i.s, .int .i64 i.m] 23)
  have U := fun w => uses_any i.o w
  have FA := fun w => fields_any i.o w
  have AD := fun w => has_d i.o w
  have AS := fun w => has_s i.o w
  have AI := fun w => has_i i.o w
  have LO := fun w => long_ok i.o w
  have WA := fun w => wrong_any i w
  have RW := fun w => rwrong_any i w
  have OA := fun w h => iOne_any xs (.slice xo xs.length xc) p w h
  have RO := fun w h => rOne_any xs (.slice xo xs.length xc) p w h
  generalize wrg i = q at *
  generalize oneA xs p = R at *
  obtain ⟨⟨z0, z1, z2, z3⟩, n⟩ := R
  by_cases hk : kn i.o = true
  · have h0 := fsb_some hk
    rw [ke_yes hk] at U LO
    rw [if_pos hk] at LO
    unfold lng at LO
    by_cases hi : hI i.o = true
    · rw [if_pos hi] at LO
      rw [hi] at U AI
      clear hk hi
      generalize hD i.o = a at *
      generalize hS i.o = b at *
      generalize fsb i.o = f at *
      unfold agg at *
      dsimp only at *
      go_enter Try.func3, Try.ntmps3
      go_wp2_with fail
      refine (U _).mono ?_
      rintro e w1 ⟨rfl, k1⟩
      have B1 := hideI ((unhideI B0).step k1)
      have K1 := hideI (bt (below_a _ _) k1)
      clear k1
      obtain ⟨p0, p1, p2, p3⟩ := (unhideI B1).at4
      go_wp2_with fail
      clear p0 p1 p2 p3
      refine (FA _).mono ?_
      rintro e w2 ⟨rfl, k2⟩
      have B2 := hideI ((unhideI B1).step k2)
      have K2 := hideI (bt (unhideI K1) k2)
      clear k2
      obtain ⟨p0, p1, p2, p3⟩ := (unhideI B2).at4
      go_wp2_with fail
      clear p0 p1 p2 p3
      refine (AD _).mono ?_
      rintro e w3 ⟨rfl, k3⟩
      have B3 := hideI ((unhideI B2).step k3)
      have K3 := hideI (bt (unhideI K2) k3)
      clear k3
      obtain ⟨p0, p1, p2, p3⟩ := (unhideI B3).at4
      go_wp2_with fail
      clear p0 p1 p2 p3
      refine (AS _).mono ?_
      rintro e w4 ⟨rfl, k4⟩
      have B4 := hideI ((unhideI B3).step k4)
      have K4 := hideI (bt (unhideI K3) k4)
      clear k4
      obtain ⟨p0, p1, p2, p3⟩ := (unhideI B4).at4
      go_wp2_with fail
      clear p0 p1 p2 p3
      refine (AI _).mono ?_
      rintro e w5 ⟨rfl, k5⟩
      have B5 := hideI ((unhideI B4).step k5)
      have K5 := hideI (bt (unhideI K4) k5)
      clear k5
      obtain ⟨p0, p1, p2, p3⟩ := (unhideI B5).at4
      go_wp2_with fail
      clear p0 p1 p2 p3
      refine (LO _).mono ?_
      rintro e w6 ⟨rfl, k6⟩
      have B6 := hideI ((unhideI B5).step k6)
      have K6 := hideI (bt (unhideI K5) k6)
      clear k6
      obtain ⟨p0, p1, p2, p3⟩ := (unhideI B6).at4
      go_wp2_with fail
      clear p0 p1 p2 p3
      refine (AI _).mono ?_
      rintro e w7 ⟨rfl, k7⟩
      have B7 := hideI ((unhideI B6).step k7)
      have K7 := hideI (bt (unhideI K6) k7)
      clear k7
      obtain ⟨p0, p1, p2, p3⟩ := (unhideI B7).at4
      go_wp2_with fail
      have lt7 := (unhideI B7).1
      refine wp_region_later (by kernel_rfl) (by kernel_rfl) ?_
      intro L hne lt hlc hlf hlm
      repeat (go_big_quiet_step (first | (go_at_call 9; exact later_call hlm (WA _)) | (go_at_call 10; exact later_call hlm (RW _))))
      refine wpQuiet_nil ?_
      intro wq kq
      clear hlm hlf hlc lt hne L
      obtain ⟨hqc, hqf⟩ := below_cells kq
      have K8 := hideI (bt (unhideI K7) kq)
      clear kq hqc hqf p0 p1 p2 p3
      go_wp2_with fail
      refine (OA _ ((unhideI HX).step (unhideI K8))).mono ?_
      rintro e w9 ⟨rfl, k9⟩
      have C9 := hideI (Box.new w9 #[.int .i64 z0, .int .i64 z1, .int .i64 z2, .int .i64 z3] 23)
      have K9 := hideI (bt (bt (unhideI K8) k9) (below_a w9 (.cells #[.int .i64 z0, .int .i64 z1, .int .i64 z2, .int .i64 z3] 23)))
      clear k9
      go_wp2_with fail
      refine (RO _ ((unhideI HX).step (unhideI K9))).mono ?_
      rintro e w10 ⟨rfl, k10⟩
      have C10 := hideI (((unhideI C9).step k10).step (below_a w10 (.cells #[.int .i64 z0, .int .i64 z1, .int .i64 z2, .int .i64 z3] 23)))
      have K10 := hideI (bt (bt (unhideI K9) k10) (below_a w10 (.cells #[.int .i64 z0, .int .i64 z1, .int .i64 z2, .int .i64 z3] 23)))
      have l10 : w9.heap.size < w10.heap.size := lt1 k10
      clear k10
      obtain ⟨p0, p1, p2, p3⟩ := (unhideI C10).at4
      go_wp2_with fail
      go_ret
      exact ⟨rfl, unhideI K10⟩
    · rw [if_neg hi] at LO
      replace hi : hI i.o = false := by simpa using hi
      rw [hi] at U AI
      clear hk hi
      generalize hD i.o = a at *
      generalize hS i.o = b at *
      generalize fsb i.o = f at *
      unfold agg at *
      dsimp only at *
      go_enter Try.func3, Try.ntmps3
      go_wp2_with fail
      refine (U _).mono ?_
      rintro e w1 ⟨rfl, k1⟩
      have B1 := hideI ((unhideI B0).step k1)
      have K1 := hideI (bt (below_a _ _) k1)
      clear k1
      obtain ⟨p0, p1, p2, p3⟩ := (unhideI B1).at4
      go_wp2_with fail
      clear p0 p1 p2 p3
      refine (FA _).mono ?_
      rintro e w2 ⟨rfl, k2⟩
      have B2 := hideI ((unhideI B1).step k2)
      have K2 := hideI (bt (unhideI K1) k2)
      clear k2
      obtain ⟨p0, p1, p2, p3⟩ := (unhideI B2).at4
      go_wp2_with fail
      clear p0 p1 p2 p3
      refine (AD _).mono ?_
      rintro e w3 ⟨rfl, k3⟩
      have B3 := hideI ((unhideI B2).step k3)
      have K3 := hideI (bt (unhideI K2) k3)
      clear k3
      obtain ⟨p0, p1, p2, p3⟩ := (unhideI B3).at4
      go_wp2_with fail
      clear p0 p1 p2 p3
      refine (AS _).mono ?_
      rintro e w4 ⟨rfl, k4⟩
      have B4 := hideI ((unhideI B3).step k4)
      have K4 := hideI (bt (unhideI K3) k4)
      clear k4
      obtain ⟨p0, p1, p2, p3⟩ := (unhideI B4).at4
      go_wp2_with fail
      clear p0 p1 p2 p3
      refine (AI _).mono ?_
      rintro e w5 ⟨rfl, k5⟩
      have B5 := hideI ((unhideI B4).step k5)
      have K5 := hideI (bt (unhideI K4) k5)
      clear k5
      obtain ⟨p0, p1, p2, p3⟩ := (unhideI B5).at4
      go_wp2_with fail
      clear p0 p1 p2 p3
      refine (LO _).mono ?_
      rintro e w6 ⟨rfl, k6⟩
      have B6 := hideI ((unhideI B5).step k6)
      have K6 := hideI (bt (unhideI K5) k6)
      clear k6
      obtain ⟨p0, p1, p2, p3⟩ := (unhideI B6).at4
      go_wp2_with fail
      clear p0 p1 p2 p3
      refine (AI _).mono ?_
      rintro e w7 ⟨rfl, k7⟩
      have B7 := hideI ((unhideI B6).step k7)
      have K7 := hideI (bt (unhideI K6) k7)
      clear k7
      obtain ⟨p0, p1, p2, p3⟩ := (unhideI B7).at4
      go_wp2_with fail
      have lt7 := (unhideI B7).1
      refine wp_region_later (by kernel_rfl) (by kernel_rfl) ?_
      intro L hne lt hlc hlf hlm
      repeat (go_big_quiet_step (first | (go_at_call 9; exact later_call hlm (WA _)) | (go_at_call 10; exact later_call hlm (RW _))))
      refine wpQuiet_nil ?_
      intro wq kq
      clear hlm hlf hlc lt hne L
      obtain ⟨hqc, hqf⟩ := below_cells kq
      have K8 := hideI (bt (unhideI K7) kq)
      clear kq hqc hqf p0 p1 p2 p3
      go_wp2_with fail
      refine (OA _ ((unhideI HX).step (unhideI K8))).mono ?_
      rintro e w9 ⟨rfl, k9⟩
      have C9 := hideI (Box.new w9 #[.int .i64 z0, .int .i64 z1, .int .i64 z2, .int .i64 z3] 23)
      have K9 := hideI (bt (bt (unhideI K8) k9) (below_a w9 (.cells #[.int .i64 z0, .int .i64 z1, .int .i64 z2, .int .i64 z3] 23)))
      clear k9
      go_wp2_with fail
      refine (RO _ ((unhideI HX).step (unhideI K9))).mono ?_
      rintro e w10 ⟨rfl, k10⟩
      have C10 := hideI (((unhideI C9).step k10).step (below_a w10 (.cells #[.int .i64 z0, .int .i64 z1, .int .i64 z2, .int .i64 z3] 23)))
      have K10 := hideI (bt (bt (unhideI K9) k10) (below_a w10 (.cells #[.int .i64 z0, .int .i64 z1, .int .i64 z2, .int .i64 z3] 23)))
      have l10 : w9.heap.size < w10.heap.size := lt1 k10
      clear k10
      obtain ⟨p0, p1, p2, p3⟩ := (unhideI C10).at4
      go_wp2_with fail
      go_ret
      exact ⟨rfl, unhideI K10⟩
  · replace hk : kn i.o = false := by simpa using hk
    have h0 := fsb_none hk
    obtain ⟨ha, hb, hc⟩ := kn_no hk
    rw [ke_no hk] at U LO
    rw [if_neg (by simp [hk])] at LO
    rw [ha] at U AD
    rw [hb] at U AS
    rw [hc] at U AI
    clear hk ha hb hc
    generalize fsb i.o = f at *
    unfold agg at *
    dsimp only at *
    go_enter Try.func3, Try.ntmps3
    go_wp2_with fail
    refine (U _).mono ?_
    rintro e w1 ⟨rfl, k1⟩
    have B1 := hideI ((unhideI B0).step k1)
    have K1 := hideI (bt (below_a _ _) k1)
    clear k1
    obtain ⟨p0, p1, p2, p3⟩ := (unhideI B1).at4
    go_wp2_with fail
    clear p0 p1 p2 p3
    refine (FA _).mono ?_
    rintro e w2 ⟨rfl, k2⟩
    have B2 := hideI ((unhideI B1).step k2)
    have K2 := hideI (bt (unhideI K1) k2)
    clear k2
    obtain ⟨p0, p1, p2, p3⟩ := (unhideI B2).at4
    go_wp2_with fail
    clear p0 p1 p2 p3
    refine (AD _).mono ?_
    rintro e w3 ⟨rfl, k3⟩
    have B3 := hideI ((unhideI B2).step k3)
    have K3 := hideI (bt (unhideI K2) k3)
    clear k3
    obtain ⟨p0, p1, p2, p3⟩ := (unhideI B3).at4
    go_wp2_with fail
    clear p0 p1 p2 p3
    refine (AS _).mono ?_
    rintro e w4 ⟨rfl, k4⟩
    have B4 := hideI ((unhideI B3).step k4)
    have K4 := hideI (bt (unhideI K3) k4)
    clear k4
    obtain ⟨p0, p1, p2, p3⟩ := (unhideI B4).at4
    go_wp2_with fail
    clear p0 p1 p2 p3
    refine (AI _).mono ?_
    rintro e w5 ⟨rfl, k5⟩
    have B5 := hideI ((unhideI B4).step k5)
    have K5 := hideI (bt (unhideI K4) k5)
    clear k5
    obtain ⟨p0, p1, p2, p3⟩ := (unhideI B5).at4
    go_wp2_with fail
    clear p0 p1 p2 p3
    refine (LO _).mono ?_
    rintro e w6 ⟨rfl, k6⟩
    have B6 := hideI ((unhideI B5).step k6)
    have K6 := hideI (bt (unhideI K5) k6)
    clear k6
    obtain ⟨p0, p1, p2, p3⟩ := (unhideI B6).at4
    go_wp2_with fail
    clear p0 p1 p2 p3
    refine (AI _).mono ?_
    rintro e w7 ⟨rfl, k7⟩
    have B7 := hideI ((unhideI B6).step k7)
    have K7 := hideI (bt (unhideI K6) k7)
    clear k7
    obtain ⟨p0, p1, p2, p3⟩ := (unhideI B7).at4
    go_wp2_with fail
    have lt7 := (unhideI B7).1
    refine wp_region_later (by kernel_rfl) (by kernel_rfl) ?_
    intro L hne lt hlc hlf hlm
    repeat (go_big_quiet_step (first | (go_at_call 9; exact later_call hlm (WA _)) | (go_at_call 10; exact later_call hlm (RW _))))
    refine wpQuiet_nil ?_
    intro wq kq
    clear hlm hlf hlc lt hne L
    obtain ⟨hqc, hqf⟩ := below_cells kq
    have K8 := hideI (bt (unhideI K7) kq)
    clear kq hqc hqf p0 p1 p2 p3
    go_wp2_with fail
    refine (OA _ ((unhideI HX).step (unhideI K8))).mono ?_
    rintro e w9 ⟨rfl, k9⟩
    have C9 := hideI (Box.new w9 #[.int .i64 z0, .int .i64 z1, .int .i64 z2, .int .i64 z3] 23)
    have K9 := hideI (bt (bt (unhideI K8) k9) (below_a w9 (.cells #[.int .i64 z0, .int .i64 z1, .int .i64 z2, .int .i64 z3] 23)))
    clear k9
    go_wp2_with fail
    refine (RO _ ((unhideI HX).step (unhideI K9))).mono ?_
    rintro e w10 ⟨rfl, k10⟩
    have C10 := hideI (((unhideI C9).step k10).step (below_a w10 (.cells #[.int .i64 z0, .int .i64 z1, .int .i64 z2, .int .i64 z3] 23)))
    have K10 := hideI (bt (bt (unhideI K9) k10) (below_a w10 (.cells #[.int .i64 z0, .int .i64 z1, .int .i64 z2, .int .i64 z3] 23)))
    have l10 : w9.heap.size < w10.heap.size := lt1 k10
    clear k10
    obtain ⟨p0, p1, p2, p3⟩ := (unhideI C10).at4
    go_wp2_with fail
    go_ret
    exact ⟨rfl, unhideI K10⟩
end Go.Proofs.Ytjkkcnokddpjgaa
