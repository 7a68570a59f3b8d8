/-
  asm.readLine.
-/
import Derived.Test.YtodfjomglgmffaaGreatDoorRdS
namespace Go.Proofs.YtodfjomglgmffaaGreatDoor
open Go.RowKit Go.Maps
set_option linter.unusedSimpArgs false
set_option linter.unusedVariables false

/-- A line that holds something. -/
def linA (s : List UInt8) : Ln × Int :=
  if Lib.hasSuffix s [58] = true then
    (if nm (ba (Lib.trimSuffix s [58])) = true then (⟨ba (Lib.trimSuffix s [58]), ⟨0, 0, 0, 0⟩, ⟨#[]⟩⟩, 0) else (lnZ, 7))
  else if hasA kdA (Lib.cut s [32]).1 = true then insA (atA kdA (Lib.cut s [32]).1) (Lib.cut s [32]).2.1
  else (lnZ, 1)
set_option maxRecDepth 100000 in
set_option maxHeartbeats 4000000 in
theorem readLine_any (s : ByteArray) (b : Nat) (w : World) (G : Gl w) (hM : Mp w b kdA) (hs : s.size ≤ 1048576) : Calls Tryz.prog 21 #[.string s, .map (some b)] w fun e w' => e = .returned (.tuple #[aggL (linA s.data.toList).1, .int .i64 (linA s.data.toList).2]) ∧ Below w.heap.size w w' := by
  have hl : s.data.toList.length = s.size := by simp
  have CS := fun w => Tryz.strings_CutSuffix s ⟨#[58]⟩ w (by omega)
  generalize hR : linA s.data.toList = R
  unfold linA at hR
  have HR := hideI hR
  clear hR
  have BR := Box.new w #[.string ⟨#[]⟩, .int .i64 0, .int .i64 0, .int .i64 0, .int .i64 0, .string ⟨#[]⟩] 40
  have K0 := below_a w (.cells #[.string ⟨#[]⟩, .int .i64 0, .int .i64 0, .int .i64 0, .int .i64 0, .string ⟨#[]⟩] 40)
  have HB := hideI BR
  have HK := hideI K0
  have HG := hideI (G.step K0)
  have HM := hideI (hM.step K0)
  clear BR K0 G hM
  go_enter Tryz.func21, Tryz.ntmps21
  go_wp2_with fail
  refine (CS _).mono ?_
  rintro e w1 ⟨rfl, rfl⟩
  clear CS
  generalize w.alloc (.cells #[.string ⟨#[]⟩, .int .i64 0, .int .i64 0, .int .i64 0, .int .i64 0, .string ⟨#[]⟩] 40) = w1 at *
  have r0 := (unhideI HB).2.1 0 _ rfl
  have r1 := (unhideI HB).2.1 1 _ rfl
  have r2 := (unhideI HB).2.1 2 _ rfl
  have r3 := (unhideI HB).2.1 3 _ rfl
  have r4 := (unhideI HB).2.1 4 _ rfl
  have r5 := (unhideI HB).2.1 5 _ rfl
  have r6 := (unhideI HB).2.2
  by_cases h1 : Lib.hasSuffix s.data.toList [58] = true
  · have N := fun w => named_any (ba (Lib.trimSuffix s.data.toList [58])) w
    have KE := fun (h : (ba (Lib.trimSuffix s.data.toList [58])).size ≤ 281474976710656) w => kept_any (ba (Lib.trimSuffix s.data.toList [58])) w h
    have HR1 := unhideI HR
    rw [if_pos h1] at HR1
    clear HR
    have hba : ba (Lib.trimSuffix s.data.toList [58]) = ⟨(Lib.trimSuffix s.data.toList [58]).toArray⟩ := rfl
    rw [hba] at N KE HR1
    generalize (Lib.trimSuffix s.data.toList [58]).toArray = nb at *
    by_cases h2 : nm ⟨nb⟩ = true
    · rw [if_pos h2] at HR1
      subst HR1
      have KN := KE (Nat.le_trans (nm_size h2).1 (by decide))
      clear KE
      go_wp2_with fail
      refine (N _).mono ?_
      rintro e w2 ⟨rfl, rfl⟩
      rw [h2]
      clear N
      go_wp2_with fail
      refine (KN _).mono ?_
      rintro e w3 ⟨rfl, k3⟩
      have B3 := (unhideI HB).step k3
      have y0 := B3.2.1 0 _ rfl
      have y1 := B3.2.1 1 _ rfl
      have y2 := B3.2.1 2 _ rfl
      have y3 := B3.2.1 3 _ rfl
      have y4 := B3.2.1 4 _ rfl
      have y5 := B3.2.1 5 _ rfl
      have y6 := B3.2.2
      have KW := hideI (bt (unhideI HK) k3)
      clear KN k3 r0 r1 r2 r3 r4 r5 r6
      go_wp2_with fail
      exact bodyPost_ret (resL Tryz.results21 (LnBox.all (x := lnZ) (y := ⟨⟨nb⟩, ⟨0, 0, 0, 0⟩, ⟨#[]⟩⟩) B3) rfl rfl) rfl ⟨rfl, below_all (unhideI KW) (Nat.le_refl _)⟩
    · replace h2 : nm ⟨nb⟩ = false := by simpa using h2
      rw [if_neg (by rw [h2]; simp)] at HR1
      subst HR1
      go_wp2_with fail
      refine (N _).mono ?_
      rintro e w2 ⟨rfl, rfl⟩
      rw [h2]
      clear N KE
      go_wp2_with fail
      exact bodyPost_ret (resL Tryz.results21 (LnBox.all (x := lnZ) (y := lnZ) (unhideI HB)) rfl rfl) rfl ⟨rfl, below_all (unhideI HK) (Nat.le_refl _)⟩
  · have HR1 := unhideI HR
    rw [if_neg h1] at HR1
    clear HR
    replace h1 : Lib.hasSuffix s.data.toList [58] = false := by simpa using h1
    obtain ⟨m, hmx⟩ := (unhideI HG).mx
    have C := Tryz.strings_Cut s ⟨#[32]⟩ m w1 (by omega) hmx
    have hl1 := cut_len s.data.toList [32]
    generalize (Lib.cut s.data.toList [32]) = c at *
    have RI := fun w G => readInstr_any (atA kdA c.1) ⟨c.2.1.toArray⟩ w G (by show c.2.1.length ≤ _; omega)
    have hsz : (⟨c.1.toArray⟩ : ByteArray).size ≤ maxLen := by show c.1.length ≤ _; unfold maxLen; omega
    have htl : (⟨c.1.toArray⟩ : ByteArray).toList = c.1 := ba_list _
    by_cases h2 : hasA kdA c.1 = true
    · rw [if_pos h2] at HR1
      have RI2 : ∀ w, Gl w → Calls Tryz.prog 44 #[.int .i64 (atA kdA c.1), .string ⟨c.2.1.toArray⟩] w fun e w' => e = .returned (.tuple #[aggL R.1, .int .i64 R.2]) ∧ Below w.heap.size w w' := fun w G => by
        have := RI w G
        rw [show (⟨c.2.1.toArray⟩ : ByteArray).data.toList = c.2.1 from ba_data _, HR1] at this
        exact this
      clear RI HR1
      go_wp2_with fail
      refine C.mono ?_
      rintro e w2 ⟨rfl, dn, rfl⟩
      have M2 := hideI ((unhideI HM).step (⟨rfl, rfl, rfl, Nat.le_refl _, fun _ _ => rfl⟩ : Below w1.heap.size w1 (w1.drewN dn)))
      have K2 : Below w1.heap.size w1 (w1.drewN dn) := ⟨rfl, rfl, rfl, Nat.le_refl _, fun _ _ => rfl⟩
      have G2 := (unhideI HG).step K2
      go_wp2_with (at_lookup; refine wpList_look_ok rfl (.tmp 33) (.tmp 34) rfl b kdA rfl (unhideI M2) _ rfl hsz ?_; rw [htl, h2])
      refine (RI2 _ G2).mono ?_
      rintro e w3 ⟨rfl, k3⟩
      have K3 := bt K2 k3
      have B3 := (unhideI HB).step K3
      have y0 := B3.2.1 0 _ rfl
      have y1 := B3.2.1 1 _ rfl
      have y2 := B3.2.1 2 _ rfl
      have y3 := B3.2.1 3 _ rfl
      have y4 := B3.2.1 4 _ rfl
      have y5 := B3.2.1 5 _ rfl
      have y6 := B3.2.2
      have KW := hideI (bt (unhideI HK) K3)
      clear RI2 k3 K3 G2 K2 C r0 r1 r2 r3 r4 r5 r6
      obtain ⟨x, n⟩ := R
      unfold aggL
      dsimp only
      go_wp2_with fail
      exact bodyPost_ret (resL Tryz.results21 (LnBox.all (x := lnZ) (y := x) B3) rfl rfl) rfl ⟨rfl, below_all (unhideI KW) (Nat.le_refl _)⟩
    · replace h2 : hasA kdA c.1 = false := by simpa using h2
      rw [if_neg (by rw [h2]; simp)] at HR1
      subst HR1
      clear RI
      go_wp2_with fail
      refine C.mono ?_
      rintro e w2 ⟨rfl, dn, rfl⟩
      have K2 : Below w1.heap.size w1 (w1.drewN dn) := ⟨rfl, rfl, rfl, Nat.le_refl _, fun _ _ => rfl⟩
      have M2 := hideI ((unhideI HM).step K2)
      have B3 := (unhideI HB).step K2
      have y0 := B3.2.1 0 _ rfl
      have y1 := B3.2.1 1 _ rfl
      have y2 := B3.2.1 2 _ rfl
      have y3 := B3.2.1 3 _ rfl
      have y4 := B3.2.1 4 _ rfl
      have y5 := B3.2.1 5 _ rfl
      have y6 := B3.2.2
      have KW := hideI (bt (unhideI HK) K2)
      clear K2 C r0 r1 r2 r3 r4 r5 r6
      go_wp2_with (at_lookup; refine wpList_look_ok rfl (.tmp 33) (.tmp 34) rfl b kdA rfl (unhideI M2) _ rfl hsz ?_; rw [htl, h2])
      exact bodyPost_ret (resL Tryz.results21 (LnBox.all (x := lnZ) (y := lnZ) B3) rfl rfl) rfl ⟨rfl, below_all (unhideI KW) (Nat.le_refl _)⟩
end Go.Proofs.YtodfjomglgmffaaGreatDoor
