/-
  The reader of an Imm: a closure over the line.
-/
import Derived.Test.YtoopgkbefhoeiaaGreatDoorRdF
namespace Go.Proofs.YtoopgkbefhoeiaaGreatDoor
open Go.RowKit Go.Maps
set_option linter.unusedSimpArgs false
set_option linter.unusedVariables false

theorem ba_of (s : ByteArray) : ba s.data.toList = s := by cases s; simp [ba]
theorem immA_num {x : Ln} {s : List UInt8} {n : Int} (h : numA s 65535 = some n) : immA x s = some ⟨x.lab, ⟨x.i.o, x.i.d, x.i.s, n⟩, x.ref⟩ := by unfold immA; rw [h]
theorem immA_ref {x : Ln} {s : List UInt8} (h : numA s 65535 = none) (h2 : may x.i.o = true) (h3 : nm (ba s) = true) : immA x s = some ⟨x.lab, x.i, ba s⟩ := by unfold immA; rw [h]; dsimp only; rw [if_pos ⟨h2, h3⟩]
theorem immA_no {x : Ln} {s : List UInt8} (h : numA s 65535 = none) (h2 : ¬ (may x.i.o = true ∧ nm (ba s) = true)) : immA x s = none := by unfold immA; rw [h]; dsimp only; rw [if_neg h2]
set_option maxRecDepth 100000 in
set_option maxHeartbeats 2000000 in
theorem immR_any (s : ByteArray) (pb lb : Nat) (x : Ln) (w : World) (G : Gl w) (hB : LnBox w lb x) (hP : Box w pb [.pointer (some ⟨lb, 0, none⟩)]) (hs : s.size ≤ 1048576) :
    Calls Tryz.prog 101 #[.string s, .pointer (some ⟨pb, 0, none⟩)] w fun e w' => e = .returned (.bool (immA x s.data.toList).isSome) ∧ (∀ y, immA x s.data.toList = some y → LnBox w' lb y) ∧ Kpt (fun k => k = lb) w w' := by
  have NA := number_any s 65535 w G (by omega) (by omega)
  cases hn : numA s.data.toList 65535 with
  | some n =>
    rw [hn] at NA
    rw [immA_num hn]
    go_enter Tryz.func101, Tryz.ntmps101
    go_wp2_with fail
    refine NA.mono ?_
    rintro e w1 ⟨rfl, k1⟩
    have B1 := hideI (hB.step k1)
    have q0 := (hP.step k1).2.1 0 _ rfl
    have c4 := (unhideI B1).2.1 4 _ rfl
    have f4 := (unhideI B1).2.2
    have K1 := hideI k1
    clear k1
    go_wp2_with fail
    go_ret
    exact ⟨rfl, (fun m h => by cases h; exact (unhideI B1).set (j := 4) (by simp)), (Kpt.of (X := fun _ => False) (unhideI K1)).trans (Kpt.setCell (X := fun k => k = lb) _ _ rfl) (fun _ h => h.elim) (fun _ h _ => h)⟩
  | none =>
    rw [hn] at NA
    have MA := fun w => may_any x.i.o w
    have ND := fun w => named_any s w
    by_cases h2 : may x.i.o = true
    · by_cases h3 : nm s = true
      · rw [immA_ref hn h2 (by rw [ba_of]; exact h3), ba_of]
        rw [h2] at MA
        rw [h3] at ND
        have hsz := (nm_size h3).1
        have KE := fun w => kept_any s w (by omega)
        go_enter Tryz.func101, Tryz.ntmps101
        go_wp2_with fail
        refine NA.mono ?_
        rintro e w1 ⟨rfl, k1⟩
        have B1 := hideI (hB.step k1)
        have P1 := hideI (hP.step k1)
        have q0 := (unhideI P1).2.1 0 _ rfl
        have c1 := (unhideI B1).2.1 1 _ rfl
        have K1 := hideI k1
        clear k1
        go_wp2_with fail
        refine (MA _).mono ?_
        rintro e w2 ⟨rfl, k2⟩
        have B2 := hideI ((unhideI B1).step k2)
        have P2 := hideI ((unhideI P1).step k2)
        have K2 := hideI (bt (unhideI K1) k2)
        clear k2 q0 c1
        go_wp2_with fail
        refine (ND _).mono ?_
        rintro e w3 ⟨rfl, hw⟩
        subst w3
        have r0 := (unhideI P2).2.1 0 _ rfl
        have hpl := (unhideI P2).1
        go_wp2_with fail
        have D2 : Below w2.heap.size w2 w2.drew := ⟨rfl, rfl, rfl, Nat.le_refl _, fun _ _ => rfl⟩
        have r0d : w2.drew.cell? ⟨pb, 0, none⟩ = some (.pointer (some ⟨lb, 0, none⟩)) := r0
        refine reg_start (fun W => W.cell? ⟨pb, 0, none⟩ = some (.pointer (some ⟨lb, 0, none⟩))) (by kernel_rfl) ?_
        refine reg_seg 0 2 4 (by kernel_rfl) (by decide) (by kernel_rfl) (by kernel_rfl) (fun _ _ _ _ _ h => h) ?_
        simp only [List.take_succ_cons, List.take_zero, List.drop_succ_cons, List.drop_zero]
        repeat (refine wpSteady_step (fun K hK => ?_); go_simp; first | (refine steady_of ?_ (fun W hW => ?_) (hK _ ?_); rotate_left; (obtain hcW := hW; go_simp; first | done | rfl); clear hK K) | (refine hK _ ?_; clear hK K))
        refine wpSteady_nil ?_
        refine reg_one 2 3 (by kernel_rfl) (by kernel_rfl) r0d ?_
        simp only [List.take_succ_cons, List.take_zero, List.drop_succ_cons, List.drop_zero]
        go_wp2_with fail
        refine (KE _).mono ?_
        rintro e w4 ⟨rfl, k4⟩
        have k4' := bt D2 k4
        have B4 := hideI ((unhideI B2).step k4')
        have r4 := cell_keep k4' hpl r0
        have K4 := hideI (bt (unhideI K2) k4')
        clear k4 k4' D2
        go_wp2_with fail
        first | refine next_nil ?_ | refine next_go ?_
        refine reg_seg 3 2 1 (by kernel_rfl) (by decide) (by kernel_rfl) (by kernel_rfl) (fun _ _ _ _ _ h => h) ?_
        simp only [List.take_succ_cons, List.take_zero, List.drop_succ_cons, List.drop_zero]
        repeat (refine wpSteady_step (fun K hK => ?_); go_simp; first | (refine steady_of ?_ (fun W hW => ?_) (hK _ ?_); rotate_left; (obtain hcW := hW; go_simp; first | done | rfl); clear hK K) | (refine hK _ ?_; clear hK K))
        refine wpSteady_nil ?_
        have c5 := (unhideI B4).2.1 5 _ rfl
        have f5 := (unhideI B4).2.2
        have hpne : pb ≠ lb := by
          intro e
          have a1 := (unhideI P2).2.1 0 _ rfl
          have a2 := (unhideI B2).2.1 0 _ rfl
          rw [e, a2] at a1
          cases a1
        have KS : Kpt (fun k => k = lb) w4 (w4.setCell ⟨lb, 5, none⟩ (.string s)) := Kpt.setCell _ _ rfl
        have B5 := hideI ((unhideI B4).set (j := 5) (u := .string s) (by simp))
        have r5 : (w4.setCell ⟨lb, 5, none⟩ (.string s)).cell? ⟨pb, 0, none⟩ = some (.pointer (some ⟨lb, 0, none⟩)) := by rw [KS.cell (cell_lt r4) hpne]; exact r4
        refine reg_one 5 0 (by kernel_rfl) (by kernel_rfl) r4 ?_
        simp only [List.take_succ_cons, List.take_zero, List.drop_succ_cons, List.drop_zero]
        go_wp2_with fail
        first | refine next_nil ?_ | refine next_go ?_
        refine reg_end (by kernel_rfl) r5 ?_
        go_wp2_with fail
        go_ret
        exact ⟨rfl, (fun y h => by cases h; exact unhideI B5), (Kpt.of (X := fun _ => False) (unhideI K4)).trans KS (fun _ h => h.elim) (fun _ h _ => h)⟩
      · replace h3 : nm s = false := by simpa using h3
        rw [immA_no hn (by rw [ba_of]; simp [h3])]
        rw [h2] at MA
        rw [h3] at ND
        go_enter Tryz.func101, Tryz.ntmps101
        go_wp2_with fail
        refine NA.mono ?_
        rintro e w1 ⟨rfl, k1⟩
        have B1 := hideI (hB.step k1)
        have P1 := hideI (hP.step k1)
        have q0 := (unhideI P1).2.1 0 _ rfl
        have c1 := (unhideI B1).2.1 1 _ rfl
        have K1 := hideI k1
        clear k1
        go_wp2_with fail
        refine (MA _).mono ?_
        rintro e w2 ⟨rfl, k2⟩
        have K2 := hideI (bt (unhideI K1) k2)
        clear k2 q0 c1
        go_wp2_with fail
        refine (ND _).mono ?_
        rintro e w3 ⟨rfl, hw⟩
        subst w3
        go_wp2_with fail
        go_ret
        exact ⟨rfl, (fun y h => by cases h), Kpt.of (unhideI K2)⟩
    · replace h2 : may x.i.o = false := by simpa using h2
      rw [immA_no hn (by simp [h2])]
      rw [h2] at MA
      go_enter Tryz.func101, Tryz.ntmps101
      go_wp2_with fail
      refine NA.mono ?_
      rintro e w1 ⟨rfl, k1⟩
      have B1 := hideI (hB.step k1)
      have P1 := hideI (hP.step k1)
      have q0 := (unhideI P1).2.1 0 _ rfl
      have c1 := (unhideI B1).2.1 1 _ rfl
      have K1 := hideI k1
      clear k1
      go_wp2_with fail
      refine (MA _).mono ?_
      rintro e w2 ⟨rfl, k2⟩
      have K2 := hideI (bt (unhideI K1) k2)
      clear k2 q0 c1
      go_wp2_with fail
      go_ret
      exact ⟨rfl, (fun y h => by cases h), Kpt.of (unhideI K2)⟩
end Go.Proofs.YtoopgkbefhoeiaaGreatDoor
