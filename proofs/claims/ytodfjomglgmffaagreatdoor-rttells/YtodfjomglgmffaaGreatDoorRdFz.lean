/-
  The readers of fields: closures over the line.
-/
import Derived.Test.YtodfjomglgmffaaGreatDoorRdK
import Derived.Test.YtodfjomglgmffaaGreatDoorAsR0
import Derived.Test.YtodfjomglgmffaaGreatDoorReg
namespace Go.Proofs.YtodfjomglgmffaaGreatDoor
open Go.RowKit Go.Maps
set_option linter.unusedSimpArgs false
set_option linter.unusedVariables false

/-- What a register's reader tells: r and a number up to 7. -/
def regA (s : List UInt8) : Option Int := if Lib.hasPrefix s [114] = true then numA (Lib.trimPrefix s [114]) 7 else none
/-- The line's box. -/
def LnBox (w : World) (lb : Nat) (x : Ln) : Prop := Box w lb [.string x.lab, .int .i64 x.i.o, .int .i64 x.i.d, .int .i64 x.i.s, .int .i64 x.i.m, .string x.ref]
theorem trimPrefix_len (s p : List UInt8) : (Lib.trimPrefix s p).length ≤ s.length := by unfold Lib.trimPrefix; split <;> simp
/-- set: the line's D. -/
theorem setD_any (r : Int) (lb pb : Nat) (x : Ln) (w : World) (hB : LnBox w lb x) (hP : Box w pb [.pointer (some ⟨lb, 0, none⟩)]) : Calls Tryz.prog 128 #[.int .i64 r, .pointer (some ⟨pb, 0, none⟩)] w fun e w' => e = .returned (.tuple #[]) ∧ w' = w.setCell ⟨lb, 2, none⟩ (.int .i64 r) := by
  have p0 := hP.2.1 0 _ rfl
  have c2 := hB.2.1 2 _ rfl
  have f2 := hB.2.2
  go_enter Tryz.func128, Tryz.ntmps128
  go_wp2_with fail
  exact bodyPost_end (v := .tuple #[]) (by simp [results, Tryz.results128, go_sem]) rfl ⟨rfl, rfl⟩
theorem setS_any (r : Int) (lb pb : Nat) (x : Ln) (w : World) (hB : LnBox w lb x) (hP : Box w pb [.pointer (some ⟨lb, 0, none⟩)]) : Calls Tryz.prog 129 #[.int .i64 r, .pointer (some ⟨pb, 0, none⟩)] w fun e w' => e = .returned (.tuple #[]) ∧ w' = w.setCell ⟨lb, 3, none⟩ (.int .i64 r) := by
  have p0 := hP.2.1 0 _ rfl
  have c3 := hB.2.1 3 _ rfl
  have f3 := hB.2.2
  go_enter Tryz.func129, Tryz.ntmps129
  go_wp2_with fail
  exact bodyPost_end (v := .tuple #[]) (by simp [results, Tryz.results129, go_sem]) rfl ⟨rfl, rfl⟩
set_option maxHeartbeats 1000000 in
theorem regD_any (s : ByteArray) (sb pb lb : Nat) (x : Ln) (w : World) (G : Gl w) (hB : LnBox w lb x) (hP : Box w pb [.pointer (some ⟨lb, 0, none⟩)]) (hS : Box w sb [.func (.func 128) #[] #[.pointer (some ⟨pb, 0, none⟩)]]) (hs : s.size ≤ 1048576) :
    Calls Tryz.prog 149 #[.string s, .pointer (some ⟨sb, 0, none⟩)] w fun e w' => e = .returned (.bool (regA s.data.toList).isSome) ∧ (∀ n, regA s.data.toList = some n → LnBox w' lb ⟨x.lab, ⟨x.i.o, n, x.i.s, x.i.m⟩, x.ref⟩) ∧ Kpt (fun k => k = lb) w w' := by
  have CP := fun w => Tryz.strings_CutPrefix s ⟨#[114]⟩ w
  rw [show (⟨#[114]⟩ : ByteArray).data.toList = [114] from rfl] at CP
  by_cases hp : Lib.hasPrefix s.data.toList [114] = true
  · have hr : regA s.data.toList = numA (Lib.trimPrefix s.data.toList [114]) 7 := by unfold regA; rw [if_pos hp]
    rw [hr]
    rw [hp] at CP
    have hl := trimPrefix_len s.data.toList [114]
    have hl2 : s.data.toList.length = s.size := by simp
    have NA := number_any (ba (Lib.trimPrefix s.data.toList [114])) 7 w G (by rw [ba_size]; omega) (by omega)
    rw [ba_data] at NA
    unfold ba at NA
    clear hr hp
    generalize Lib.trimPrefix s.data.toList [114] = t at *
    cases hn : numA t 7 with
    | none =>
      rw [hn] at NA
      go_enter Tryz.func149, Tryz.ntmps149
      go_wp2_with fail
      refine (CP _).mono ?_
      rintro e w1 ⟨rfl, hw⟩
      subst w1
      go_wp2_with fail
      refine NA.mono ?_
      rintro e w1 ⟨rfl, k1⟩
      go_wp2_with fail
      go_ret
      exact ⟨rfl, (fun n h => by cases h), Kpt.of k1⟩
    | some n =>
      rw [hn] at NA
      go_enter Tryz.func149, Tryz.ntmps149
      go_wp2_with fail
      refine (CP _).mono ?_
      rintro e w1 ⟨rfl, hw⟩
      subst w1
      go_wp2_with fail
      refine NA.mono ?_
      rintro e w1 ⟨rfl, k1⟩
      have B1 := hideI (hB.step k1)
      have P1 := hideI (hP.step k1)
      have q0 := (hS.step k1).2.1 0 _ rfl
      have K1 := hideI k1
      clear k1
      go_wp2_with fail
      refine (setD_any n lb pb x w1 (unhideI B1) (unhideI P1)).mono ?_
      rintro e w2 ⟨rfl, hw2⟩
      subst w2
      go_wp2_with fail
      go_ret
      exact ⟨rfl, (fun m h => by cases h; exact (unhideI B1).set (j := 2) (by simp)), (Kpt.of (X := fun _ => False) (unhideI K1)).trans (Kpt.setCell (X := fun k => k = lb) _ _ rfl) (fun _ h => h.elim) (fun _ h _ => h)⟩
  · replace hp : Lib.hasPrefix s.data.toList [114] = false := by simpa using hp
    have hr : regA s.data.toList = none := by unfold regA; rw [if_neg (by simp [hp])]
    rw [hr]
    rw [hp] at CP
    generalize Lib.trimPrefix s.data.toList [114] = t at *
    go_enter Tryz.func149, Tryz.ntmps149
    go_wp2_with fail
    refine (CP _).mono ?_
    rintro e w1 ⟨rfl, hw⟩
    subst w1
    go_wp2_with fail
    go_ret
    exact ⟨rfl, (fun n h => by cases h), Kpt.refl _ _⟩
set_option maxHeartbeats 1000000 in
theorem regS_any (s : ByteArray) (sb pb lb : Nat) (x : Ln) (w : World) (G : Gl w) (hB : LnBox w lb x) (hP : Box w pb [.pointer (some ⟨lb, 0, none⟩)]) (hS : Box w sb [.func (.func 129) #[] #[.pointer (some ⟨pb, 0, none⟩)]]) (hs : s.size ≤ 1048576) :
    Calls Tryz.prog 149 #[.string s, .pointer (some ⟨sb, 0, none⟩)] w fun e w' => e = .returned (.bool (regA s.data.toList).isSome) ∧ (∀ n, regA s.data.toList = some n → LnBox w' lb ⟨x.lab, ⟨x.i.o, x.i.d, n, x.i.m⟩, x.ref⟩) ∧ Kpt (fun k => k = lb) w w' := by
  have CP := fun w => Tryz.strings_CutPrefix s ⟨#[114]⟩ w
  rw [show (⟨#[114]⟩ : ByteArray).data.toList = [114] from rfl] at CP
  by_cases hp : Lib.hasPrefix s.data.toList [114] = true
  · have hr : regA s.data.toList = numA (Lib.trimPrefix s.data.toList [114]) 7 := by unfold regA; rw [if_pos hp]
    rw [hr]
    rw [hp] at CP
    have hl := trimPrefix_len s.data.toList [114]
    have hl2 : s.data.toList.length = s.size := by simp
    have NA := number_any (ba (Lib.trimPrefix s.data.toList [114])) 7 w G (by rw [ba_size]; omega) (by omega)
    rw [ba_data] at NA
    unfold ba at NA
    clear hr hp
    generalize Lib.trimPrefix s.data.toList [114] = t at *
    cases hn : numA t 7 with
    | none =>
      rw [hn] at NA
      go_enter Tryz.func149, Tryz.ntmps149
      go_wp2_with fail
      refine (CP _).mono ?_
      rintro e w1 ⟨rfl, hw⟩
      subst w1
      go_wp2_with fail
      refine NA.mono ?_
      rintro e w1 ⟨rfl, k1⟩
      go_wp2_with fail
      go_ret
      exact ⟨rfl, (fun n h => by cases h), Kpt.of k1⟩
    | some n =>
      rw [hn] at NA
      go_enter Tryz.func149, Tryz.ntmps149
      go_wp2_with fail
      refine (CP _).mono ?_
      rintro e w1 ⟨rfl, hw⟩
      subst w1
      go_wp2_with fail
      refine NA.mono ?_
      rintro e w1 ⟨rfl, k1⟩
      have B1 := hideI (hB.step k1)
      have P1 := hideI (hP.step k1)
      have q0 := (hS.step k1).2.1 0 _ rfl
      have K1 := hideI k1
      clear k1
      go_wp2_with fail
      refine (setS_any n lb pb x w1 (unhideI B1) (unhideI P1)).mono ?_
      rintro e w2 ⟨rfl, hw2⟩
      subst w2
      go_wp2_with fail
      go_ret
      exact ⟨rfl, (fun m h => by cases h; exact (unhideI B1).set (j := 3) (by simp)), (Kpt.of (X := fun _ => False) (unhideI K1)).trans (Kpt.setCell (X := fun k => k = lb) _ _ rfl) (fun _ h => h.elim) (fun _ h _ => h)⟩
  · replace hp : Lib.hasPrefix s.data.toList [114] = false := by simpa using hp
    have hr : regA s.data.toList = none := by unfold regA; rw [if_neg (by simp [hp])]
    rw [hr]
    rw [hp] at CP
    generalize Lib.trimPrefix s.data.toList [114] = t at *
    go_enter Tryz.func149, Tryz.ntmps149
    go_wp2_with fail
    refine (CP _).mono ?_
    rintro e w1 ⟨rfl, hw⟩
    subst w1
    go_wp2_with fail
    go_ret
    exact ⟨rfl, (fun n h => by cases h), Kpt.refl _ _⟩
/-- What an Imm's reader makes of a line. -/
def immA (x : Ln) (s : List UInt8) : Option Ln :=
  match numA s 65535 with
  | some n => some ⟨x.lab, ⟨x.i.o, x.i.d, x.i.s, n⟩, x.ref⟩
  | none => if may x.i.o = true ∧ nm (ba s) = true then some ⟨x.lab, x.i, ba s⟩ else none
end Go.Proofs.YtodfjomglgmffaaGreatDoor

/-
  The reader of an Imm: a closure over the line.
-/
namespace Go.Proofs.YtodfjomglgmffaaGreatDoor
open Go.RowKit Go.Maps
set_option linter.unusedSimpArgs false
set_option linter.unusedVariables false

theorem ba_of (s : ByteArray) : ba s.data.toList = s := by cases s; simp [ba]
theorem immA_num {x : Ln} {s : List UInt8} {n : Int} (h : numA s 65535 = some n) : immA x s = some ⟨x.lab, ⟨x.i.o, x.i.d, x.i.s, n⟩, x.ref⟩ := by unfold immA; rw [h]
theorem immA_ref {x : Ln} {s : List UInt8} (h : numA s 65535 = none) (h2 : may x.i.o = true) (h3 : nm (ba s) = true) : immA x s = some ⟨x.lab, x.i, ba s⟩ := by unfold immA; rw [h]; dsimp only; rw [if_pos ⟨h2, h3⟩]
theorem immA_no {x : Ln} {s : List UInt8} (h : numA s 65535 = none) (h2 : ¬ (may x.i.o = true ∧ nm (ba s) = true)) : immA x s = none := by unfold immA; rw [h]; dsimp only; rw [if_neg h2]
set_option maxRecDepth 100000 in
set_option maxHeartbeats 2000000 in
theorem immR_any (s : ByteArray) (pb lb : Nat) (x : Ln) (w : World) (G : Gl w) (hB : LnBox w lb x) (hP : Box w pb [.pointer (some ⟨lb, 0, none⟩)]) (hs : s.size ≤ 1048576) :
    Calls Tryz.prog 152 #[.string s, .pointer (some ⟨pb, 0, none⟩)] w fun e w' => e = .returned (.bool (immA x s.data.toList).isSome) ∧ (∀ y, immA x s.data.toList = some y → LnBox w' lb y) ∧ Kpt (fun k => k = lb) w w' := by
  have NA := number_any s 65535 w G (by omega) (by omega)
  cases hn : numA s.data.toList 65535 with
  | some n =>
    rw [hn] at NA
    rw [immA_num hn]
    go_enter Tryz.func152, Tryz.ntmps152
    go_wp2_with fail
    refine NA.mono ?_
    rintro e w1 ⟨rfl, k1⟩
    have B1 := hideI (hB.step k1)
    have q0 := (hP.step k1).2.1 0 _ rfl
    have c4 := (unhideI B1).2.1 4 _ rfl
    have f4 := (unhideI B1).2.2
    have K1 := hideI k1
    clear k1
    go_wp2_with fail
    go_ret
    exact ⟨rfl, (fun m h => by cases h; exact (unhideI B1).set (j := 4) (by simp)), (Kpt.of (X := fun _ => False) (unhideI K1)).trans (Kpt.setCell (X := fun k => k = lb) _ _ rfl) (fun _ h => h.elim) (fun _ h _ => h)⟩
  | none =>
    rw [hn] at NA
    have MA := fun w => may_any x.i.o w
    have ND := fun w => named_any s w
    by_cases h2 : may x.i.o = true
    · by_cases h3 : nm s = true
      · rw [immA_ref hn h2 (by rw [ba_of]; exact h3), ba_of]
        rw [h2] at MA
        rw [h3] at ND
        have hsz := (nm_size h3).1
        have KE := fun w => kept_any s w (by omega)
        go_enter Tryz.func152, Tryz.ntmps152
        go_wp2_with fail
        refine NA.mono ?_
        rintro e w1 ⟨rfl, k1⟩
        have B1 := hideI (hB.step k1)
        have P1 := hideI (hP.step k1)
        have q0 := (unhideI P1).2.1 0 _ rfl
        have c1 := (unhideI B1).2.1 1 _ rfl
        have K1 := hideI k1
        clear k1
        go_wp2_with fail
        refine (MA _).mono ?_
        rintro e w2 ⟨rfl, k2⟩
        have B2 := hideI ((unhideI B1).step k2)
        have P2 := hideI ((unhideI P1).step k2)
        have K2 := hideI (bt (unhideI K1) k2)
        clear k2 q0 c1
        go_wp2_with fail
        refine (ND _).mono ?_
        rintro e w3 ⟨rfl, hw⟩
        subst w3
        have r0 := (unhideI P2).2.1 0 _ rfl
        have hpl := (unhideI P2).1
        go_wp2_with fail
        have D2 : Below w2.heap.size w2 w2.drew := ⟨rfl, rfl, rfl, Nat.le_refl _, fun _ _ => rfl⟩
        have r0d : w2.drew.cell? ⟨pb, 0, none⟩ = some (.pointer (some ⟨lb, 0, none⟩)) := r0
        refine reg_start (fun W => W.cell? ⟨pb, 0, none⟩ = some (.pointer (some ⟨lb, 0, none⟩))) (by kernel_rfl) ?_
        refine reg_seg 0 2 4 (by kernel_rfl) (by decide) (by kernel_rfl) (by kernel_rfl) (fun _ _ _ _ _ h => h) ?_
        simp only [List.take_succ_cons, List.take_zero, List.drop_succ_cons, List.drop_zero]
        repeat (refine wpSteady_step (fun K hK => ?_); go_simp; first | (refine steady_of ?_ (fun W hW => ?_) (hK _ ?_); rotate_left; (obtain hcW := hW; go_simp; first | done | rfl); clear hK K) | (refine hK _ ?_; clear hK K))
        refine wpSteady_nil ?_
        refine reg_one 2 3 (by kernel_rfl) (by kernel_rfl) r0d ?_
        simp only [List.take_succ_cons, List.take_zero, List.drop_succ_cons, List.drop_zero]
        go_wp2_with fail
        refine (KE _).mono ?_
        rintro e w4 ⟨rfl, k4⟩
        have k4' := bt D2 k4
        have B4 := hideI ((unhideI B2).step k4')
        have r4 := cell_keep k4' hpl r0
        have K4 := hideI (bt (unhideI K2) k4')
        clear k4 k4' D2
        go_wp2_with fail
        first | refine next_nil ?_ | refine next_go ?_
        refine reg_seg 3 2 1 (by kernel_rfl) (by decide) (by kernel_rfl) (by kernel_rfl) (fun _ _ _ _ _ h => h) ?_
        simp only [List.take_succ_cons, List.take_zero, List.drop_succ_cons, List.drop_zero]
        repeat (refine wpSteady_step (fun K hK => ?_); go_simp; first | (refine steady_of ?_ (fun W hW => ?_) (hK _ ?_); rotate_left; (obtain hcW := hW; go_simp; first | done | rfl); clear hK K) | (refine hK _ ?_; clear hK K))
        refine wpSteady_nil ?_
        have c5 := (unhideI B4).2.1 5 _ rfl
        have f5 := (unhideI B4).2.2
        have hpne : pb ≠ lb := by
          intro e
          have a1 := (unhideI P2).2.1 0 _ rfl
          have a2 := (unhideI B2).2.1 0 _ rfl
          rw [e, a2] at a1
          cases a1
        have KS : Kpt (fun k => k = lb) w4 (w4.setCell ⟨lb, 5, none⟩ (.string s)) := Kpt.setCell _ _ rfl
        have B5 := hideI ((unhideI B4).set (j := 5) (u := .string s) (by simp))
        have r5 : (w4.setCell ⟨lb, 5, none⟩ (.string s)).cell? ⟨pb, 0, none⟩ = some (.pointer (some ⟨lb, 0, none⟩)) := by rw [KS.cell (cell_lt r4) hpne]; exact r4
        refine reg_one 5 0 (by kernel_rfl) (by kernel_rfl) r4 ?_
        simp only [List.take_succ_cons, List.take_zero, List.drop_succ_cons, List.drop_zero]
        go_wp2_with fail
        first | refine next_nil ?_ | refine next_go ?_
        refine reg_end (by kernel_rfl) r5 ?_
        go_wp2_with fail
        go_ret
        exact ⟨rfl, (fun y h => by cases h; exact unhideI B5), (Kpt.of (X := fun _ => False) (unhideI K4)).trans KS (fun _ h => h.elim) (fun _ h _ => h)⟩
      · replace h3 : nm s = false := by simpa using h3
        rw [immA_no hn (by rw [ba_of]; simp [h3])]
        rw [h2] at MA
        rw [h3] at ND
        go_enter Tryz.func152, Tryz.ntmps152
        go_wp2_with fail
        refine NA.mono ?_
        rintro e w1 ⟨rfl, k1⟩
        have B1 := hideI (hB.step k1)
        have P1 := hideI (hP.step k1)
        have q0 := (unhideI P1).2.1 0 _ rfl
        have c1 := (unhideI B1).2.1 1 _ rfl
        have K1 := hideI k1
        clear k1
        go_wp2_with fail
        refine (MA _).mono ?_
        rintro e w2 ⟨rfl, k2⟩
        have K2 := hideI (bt (unhideI K1) k2)
        clear k2 q0 c1
        go_wp2_with fail
        refine (ND _).mono ?_
        rintro e w3 ⟨rfl, hw⟩
        subst w3
        go_wp2_with fail
        go_ret
        exact ⟨rfl, (fun y h => by cases h), Kpt.of (unhideI K2)⟩
    · replace h2 : may x.i.o = false := by simpa using h2
      rw [immA_no hn (by simp [h2])]
      rw [h2] at MA
      go_enter Tryz.func152, Tryz.ntmps152
      go_wp2_with fail
      refine NA.mono ?_
      rintro e w1 ⟨rfl, k1⟩
      have B1 := hideI (hB.step k1)
      have P1 := hideI (hP.step k1)
      have q0 := (unhideI P1).2.1 0 _ rfl
      have c1 := (unhideI B1).2.1 1 _ rfl
      have K1 := hideI k1
      clear k1
      go_wp2_with fail
      refine (MA _).mono ?_
      rintro e w2 ⟨rfl, k2⟩
      have K2 := hideI (bt (unhideI K1) k2)
      clear k2 q0 c1
      go_wp2_with fail
      go_ret
      exact ⟨rfl, (fun y h => by cases h), Kpt.of (unhideI K2)⟩
end Go.Proofs.YtodfjomglgmffaaGreatDoor
