/-
  The readers of fields: closures over the line.
-/
import Derived.Test.YtoopgkbefhoeiaaGreatDoorRdK
import Derived.Test.YtoopgkbefhoeiaaGreatDoorAsR0
import Derived.Test.YtoopgkbefhoeiaaGreatDoorReg
namespace Go.Proofs.YtoopgkbefhoeiaaGreatDoor
open Go.RowKit Go.Maps
set_option linter.unusedSimpArgs false
set_option linter.unusedVariables false

/-- What a register's reader tells: r and a number up to 7. -/
def regA (s : List UInt8) : Option Int := if Lib.hasPrefix s [114] = true then numA (Lib.trimPrefix s [114]) 7 else none
/-- The line's box. -/
def LnBox (w : World) (lb : Nat) (x : Ln) : Prop := Box w lb [.string x.lab, .int .i64 x.i.o, .int .i64 x.i.d, .int .i64 x.i.s, .int .i64 x.i.m, .string x.ref]
theorem trimPrefix_len (s p : List UInt8) : (Lib.trimPrefix s p).length ≤ s.length := by unfold Lib.trimPrefix; split <;> simp
/-- set: the line's D. -/
theorem setD_any (r : Int) (lb pb : Nat) (x : Ln) (w : World) (hB : LnBox w lb x) (hP : Box w pb [.pointer (some ⟨lb, 0, none⟩)]) : Calls Tryz.prog 87 #[.int .i64 r, .pointer (some ⟨pb, 0, none⟩)] w fun e w' => e = .returned (.tuple #[]) ∧ w' = w.setCell ⟨lb, 2, none⟩ (.int .i64 r) := by
  have p0 := hP.2.1 0 _ rfl
  have c2 := hB.2.1 2 _ rfl
  have f2 := hB.2.2
  go_enter Tryz.func87, Tryz.ntmps87
  go_wp2_with fail
  exact bodyPost_end (v := .tuple #[]) (by simp [results, Tryz.results87, go_sem]) rfl ⟨rfl, rfl⟩
theorem setS_any (r : Int) (lb pb : Nat) (x : Ln) (w : World) (hB : LnBox w lb x) (hP : Box w pb [.pointer (some ⟨lb, 0, none⟩)]) : Calls Tryz.prog 88 #[.int .i64 r, .pointer (some ⟨pb, 0, none⟩)] w fun e w' => e = .returned (.tuple #[]) ∧ w' = w.setCell ⟨lb, 3, none⟩ (.int .i64 r) := by
  have p0 := hP.2.1 0 _ rfl
  have c3 := hB.2.1 3 _ rfl
  have f3 := hB.2.2
  go_enter Tryz.func88, Tryz.ntmps88
  go_wp2_with fail
  exact bodyPost_end (v := .tuple #[]) (by simp [results, Tryz.results88, go_sem]) rfl ⟨rfl, rfl⟩
set_option maxHeartbeats 1000000 in
theorem regD_any (s : ByteArray) (sb pb lb : Nat) (x : Ln) (w : World) (G : Gl w) (hB : LnBox w lb x) (hP : Box w pb [.pointer (some ⟨lb, 0, none⟩)]) (hS : Box w sb [.func (.func 87) #[] #[.pointer (some ⟨pb, 0, none⟩)]]) (hs : s.size ≤ 1048576) :
    Calls Tryz.prog 98 #[.string s, .pointer (some ⟨sb, 0, none⟩)] w fun e w' => e = .returned (.bool (regA s.data.toList).isSome) ∧ (∀ n, regA s.data.toList = some n → LnBox w' lb ⟨x.lab, ⟨x.i.o, n, x.i.s, x.i.m⟩, x.ref⟩) ∧ Kpt (fun k => k = lb) w w' := by
  have CP := fun w => Tryz.strings_CutPrefix s ⟨#[114]⟩ w
  rw [show (⟨#[114]⟩ : ByteArray).data.toList = [114] from rfl] at CP
  by_cases hp : Lib.hasPrefix s.data.toList [114] = true
  · have hr : regA s.data.toList = numA (Lib.trimPrefix s.data.toList [114]) 7 := by unfold regA; rw [if_pos hp]
    rw [hr]
    rw [hp] at CP
    have hl := trimPrefix_len s.data.toList [114]
    have hl2 : s.data.toList.length = s.size := by simp
    have NA := number_any (ba (Lib.trimPrefix s.data.toList [114])) 7 w G (by rw [ba_size]; omega) (by omega)
    rw [ba_data] at NA
    unfold ba at NA
    clear hr hp
    generalize Lib.trimPrefix s.data.toList [114] = t at *
    cases hn : numA t 7 with
    | none =>
      rw [hn] at NA
      go_enter Tryz.func98, Tryz.ntmps98
      go_wp2_with fail
      refine (CP _).mono ?_
      rintro e w1 ⟨rfl, hw⟩
      subst w1
      go_wp2_with fail
      refine NA.mono ?_
      rintro e w1 ⟨rfl, k1⟩
      go_wp2_with fail
      go_ret
      exact ⟨rfl, (fun n h => by cases h), Kpt.of k1⟩
    | some n =>
      rw [hn] at NA
      go_enter Tryz.func98, Tryz.ntmps98
      go_wp2_with fail
      refine (CP _).mono ?_
      rintro e w1 ⟨rfl, hw⟩
      subst w1
      go_wp2_with fail
      refine NA.mono ?_
      rintro e w1 ⟨rfl, k1⟩
      have B1 := hideI (hB.step k1)
      have P1 := hideI (hP.step k1)
      have q0 := (hS.step k1).2.1 0 _ rfl
      have K1 := hideI k1
      clear k1
      go_wp2_with fail
      refine (setD_any n lb pb x w1 (unhideI B1) (unhideI P1)).mono ?_
      rintro e w2 ⟨rfl, hw2⟩
      subst w2
      go_wp2_with fail
      go_ret
      exact ⟨rfl, (fun m h => by cases h; exact (unhideI B1).set (j := 2) (by simp)), (Kpt.of (X := fun _ => False) (unhideI K1)).trans (Kpt.setCell (X := fun k => k = lb) _ _ rfl) (fun _ h => h.elim) (fun _ h _ => h)⟩
  · replace hp : Lib.hasPrefix s.data.toList [114] = false := by simpa using hp
    have hr : regA s.data.toList = none := by unfold regA; rw [if_neg (by simp [hp])]
    rw [hr]
    rw [hp] at CP
    generalize Lib.trimPrefix s.data.toList [114] = t at *
    go_enter Tryz.func98, Tryz.ntmps98
    go_wp2_with fail
    refine (CP _).mono ?_
    rintro e w1 ⟨rfl, hw⟩
    subst w1
    go_wp2_with fail
    go_ret
    exact ⟨rfl, (fun n h => by cases h), Kpt.refl _ _⟩
set_option maxHeartbeats 1000000 in
theorem regS_any (s : ByteArray) (sb pb lb : Nat) (x : Ln) (w : World) (G : Gl w) (hB : LnBox w lb x) (hP : Box w pb [.pointer (some ⟨lb, 0, none⟩)]) (hS : Box w sb [.func (.func 88) #[] #[.pointer (some ⟨pb, 0, none⟩)]]) (hs : s.size ≤ 1048576) :
    Calls Tryz.prog 98 #[.string s, .pointer (some ⟨sb, 0, none⟩)] w fun e w' => e = .returned (.bool (regA s.data.toList).isSome) ∧ (∀ n, regA s.data.toList = some n → LnBox w' lb ⟨x.lab, ⟨x.i.o, x.i.d, n, x.i.m⟩, x.ref⟩) ∧ Kpt (fun k => k = lb) w w' := by
  have CP := fun w => Tryz.strings_CutPrefix s ⟨#[114]⟩ w
  rw [show (⟨#[114]⟩ : ByteArray).data.toList = [114] from rfl] at CP
  by_cases hp : Lib.hasPrefix s.data.toList [114] = true
  · have hr : regA s.data.toList = numA (Lib.trimPrefix s.data.toList [114]) 7 := by unfold regA; rw [if_pos hp]
    rw [hr]
    rw [hp] at CP
    have hl := trimPrefix_len s.data.toList [114]
    have hl2 : s.data.toList.length = s.size := by simp
    have NA := number_any (ba (Lib.trimPrefix s.data.toList [114])) 7 w G (by rw [ba_size]; omega) (by omega)
    rw [ba_data] at NA
    unfold ba at NA
    clear hr hp
    generalize Lib.trimPrefix s.data.toList [114] = t at *
    cases hn : numA t 7 with
    | none =>
      rw [hn] at NA
      go_enter Tryz.func98, Tryz.ntmps98
      go_wp2_with fail
      refine (CP _).mono ?_
      rintro e w1 ⟨rfl, hw⟩
      subst w1
      go_wp2_with fail
      refine NA.mono ?_
      rintro e w1 ⟨rfl, k1⟩
      go_wp2_with fail
      go_ret
      exact ⟨rfl, (fun n h => by cases h), Kpt.of k1⟩
    | some n =>
      rw [hn] at NA
      go_enter Tryz.func98, Tryz.ntmps98
      go_wp2_with fail
      refine (CP _).mono ?_
      rintro e w1 ⟨rfl, hw⟩
      subst w1
      go_wp2_with fail
      refine NA.mono ?_
      rintro e w1 ⟨rfl, k1⟩
      have B1 := hideI (hB.step k1)
      have P1 := hideI (hP.step k1)
      have q0 := (hS.step k1).2.1 0 _ rfl
      have K1 := hideI k1
      clear k1
      go_wp2_with fail
      refine (setS_any n lb pb x w1 (unhideI B1) (unhideI P1)).mono ?_
      rintro e w2 ⟨rfl, hw2⟩
      subst w2
      go_wp2_with fail
      go_ret
      exact ⟨rfl, (fun m h => by cases h; exact (unhideI B1).set (j := 3) (by simp)), (Kpt.of (X := fun _ => False) (unhideI K1)).trans (Kpt.setCell (X := fun k => k = lb) _ _ rfl) (fun _ h => h.elim) (fun _ h _ => h)⟩
  · replace hp : Lib.hasPrefix s.data.toList [114] = false := by simpa using hp
    have hr : regA s.data.toList = none := by unfold regA; rw [if_neg (by simp [hp])]
    rw [hr]
    rw [hp] at CP
    generalize Lib.trimPrefix s.data.toList [114] = t at *
    go_enter Tryz.func98, Tryz.ntmps98
    go_wp2_with fail
    refine (CP _).mono ?_
    rintro e w1 ⟨rfl, hw⟩
    subst w1
    go_wp2_with fail
    go_ret
    exact ⟨rfl, (fun n h => by cases h), Kpt.refl _ _⟩
/-- What an Imm's reader makes of a line. -/
def immA (x : Ln) (s : List UInt8) : Option Ln :=
  match numA s 65535 with
  | some n => some ⟨x.lab, ⟨x.i.o, x.i.d, x.i.s, n⟩, x.ref⟩
  | none => if may x.i.o = true ∧ nm (ba s) = true then some ⟨x.lab, x.i, ba s⟩ else none
end Go.Proofs.YtoopgkbefhoeiaaGreatDoor
