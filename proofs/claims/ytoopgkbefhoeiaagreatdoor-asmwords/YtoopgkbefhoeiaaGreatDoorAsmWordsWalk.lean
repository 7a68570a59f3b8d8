/-
  Words are the lines' instructions: the walk.
-/
import Derived.Test.YtoopgkbefhoeiaaGreatDoorAlive4
import Derived.Test.YtoopgkbefhoeiaaGreatDoorAsV
import Derived.Test.YtoopgkbefhoeiaaGreatDoorInsD
import Derived.Test.YtoopgkbefhoeiaaGreatDoorRefB
import Derived.WalkSmall
import Derived.Deep.QuietTactic
import Derived.BigQuiet
namespace Go.Proofs.YtoopgkbefhoeiaaGreatDoor
open Go.RowKit Go.Maps
set_option linter.unusedSimpArgs false
set_option linter.unusedVariables false

theorem below_grown5 {w w' : World} {row : Option Nat} {B : Nat} (h : w.grownBy w' row) (hB : B ≤ w.heap.size) (hr : ∀ j, row = some j → B ≤ j) : Below B w w' := ⟨h.os, h.tape, h.output, h.size, fun k hk => h.block k (by omega) (fun e => by have := hr k e.symm; omega)⟩
theorem cell_B {w w' : World} {B b o : Nat} {v : Value} (k : Below B w w') (hb : b < B) (h : w.cell? ⟨b, o, none⟩ = some v) : w'.cell? ⟨b, o, none⟩ = some v := by
  rw [k.cell (p := ⟨b, o, none⟩) hb]; exact h
theorem want_emp {A : Nmd} {lab ref : ByteArray} {i : Ins} (h : ref.toList.isEmpty = true) : want A ⟨lab, i, ref⟩ = bare i := by
  have h' : emp ref = true := h
  unfold want
  rw [if_pos h']
theorem want_ref {A : Nmd} {lab ref : ByteArray} {i : Ins} (h : ref.toList.isEmpty = false) : want A ⟨lab, i, ref⟩ = ⟨(bare i).o, (bare i).d, (bare i).s, atA A ref.toList % 65536⟩ := by
  have h' : ¬ emp ref = true := by unfold emp; rw [h]; simp
  unfold want
  rw [if_neg h']
theorem B_le {B : Nat} {u v : World} (e : Hid (u.heap.size = B)) (h : Below B u v) : B ≤ v.heap.size := by
  have := h.size
  rw [unhideI e] at this
  exact this
set_option maxRecDepth 100000 in
set_option maxHeartbeats 4000000 in
theorem asmWords_any (l : List Ln) (v : Value) (w : World) (hl : Lns w v l) (G : Gl w) : Calls Tryz.prog 5 #[v] w fun e w' => e = .returned (.bool true) ∧ Below w.heap.size w w' := by
  have HAL := hideI (alive4 w G)
  have HL := hideI hl
  obtain ⟨ao, cap, rfl, hmax, -⟩ := hl.at
  clear hl G
  unfold maxLen at hmax
  have hmm := @run_makeMap Tryz.prog
  go_enter Tryz.func5, Tryz.ntmps5
  go_wp2_with fail
  refine (unhideI HAL).mono ?_
  rintro e w1 ⟨rfl, k1⟩
  have L1 := hideI ((unhideI HL).step k1)
  have K1 := hideI k1
  clear k1 HL HAL
  go_wp2_with fail
  refine (asm_any l _ w1 (unhideI L1)).mono ?_
  rintro e w2 ⟨vi, rfl, I2, o2, k2⟩
  have HI2 := hideI I2
  obtain ⟨aoW, capW, rfl, hWm, -⟩ := I2.at
  have L2 := hideI ((unhideI L1).step k2)
  have K2 := hideI (bt (unhideI K1) k2)
  clear I2 o2 k2 L1 K1
  by_cases hz : (asmA l).2.1 = 0
  · obtain ⟨AF, nF, hplc, hlen, hdec, hwl, HW0, HRF0, hn6⟩ := asm_facts hz
    rw [hz]
    have HW := hideI HW0
    have HRF := hideI HRF0
    have HAT := hideI (plc_at l 0 [] 0 (by decide) (by decide) (by simp) (by rw [hplc]))
    rw [hplc] at HAT
    dsimp only at HAT
    have HPL := hideI hplc
    clear HW0 HRF0 hz hplc
    have DE := hideI (fun vi w h => decode_any (asmA l).1 vi w h)
    rw [hdec] at DE
    dsimp only at DE
    have HWL := hideI hwl
    clear hdec hwl
    generalize (asmA l).1 = WS at *
    generalize ((asmA l).2.2 : Int) = a2 at *
    have k3 := below_a w2 (.cells #[.int .i64 0, .int .i64 a2] 25)
    have F3 := hideI (Box.new w2 #[.int .i64 0, .int .i64 a2] 25)
    have I3 := hideI ((unhideI HI2).step k3)
    have K3 := hideI k3
    have hp3 : w2.heap.size < (w2.alloc (.cells #[.int .i64 0, .int .i64 a2] 25)).heap.size := by simp
    clear k3 HI2
    go_wp2_with fail
    generalize w2.alloc (.cells #[.int .i64 0, .int .i64 a2] 25) = w3 at *
    refine (unhideI DE _ w3 (unhideI I3)).mono ?_
    rintro e w4 ⟨vd, rfl, D4, o4, k4⟩
    have F4 := hideI ((unhideI F3).step k4)
    have K4 := hideI ((unhideI K3).trans (k4.mono (unhideI K3).size))
    have HD4 := hideI D4
    obtain ⟨aoD, capD, rfl, hDm, -⟩ := D4.at
    have f0 := (unhideI F4).2.1 0 _ rfl
    have f1 := (unhideI F4).2.1 1 _ rfl
    have ff := (unhideI F4).2.2
    have hp4 := (unhideI F4).1
    have D5 := hideI (Lies.other (j := 1) (u := .int .i64 0) (Lies.other (j := 0) (u := .int .i64 0) (unhideI HD4) (b := w2.heap.size) (fun k hk => by have := o4 k hk; omega)) (b := w2.heap.size) (fun k hk => by have := o4 k hk; omega))
    have K5 := hideI (below_2 (b := w2.heap.size) (unhideI K4) (Nat.le_refl _) (.int .i64 0) (.int .i64 0))
    have L5 := hideI ((unhideI L2).step (unhideI K5))
    have KA := hideI (bt (unhideI K2) (unhideI K5))
    have hs5 : ((w4.setCell ⟨w2.heap.size, 0, none⟩ (.int .i64 0)).setCell ⟨w2.heap.size, 1, none⟩ (.int .i64 0)).heap.size = w4.heap.size := by simp
    clear k4 D4 o4 HD4 F3 F4 I3 K3 K4 K5 L2 K2
    have M0 : Hid (Mp (((w4.setCell ⟨w2.heap.size, 0, none⟩ (.int .i64 0)).setCell ⟨w2.heap.size, 1, none⟩ (.int .i64 0)).alloc (.map #[] 0)) w4.heap.size []) := by have := Mp.made ((w4.setCell ⟨w2.heap.size, 0, none⟩ (.int .i64 0)).setCell ⟨w2.heap.size, 1, none⟩ (.int .i64 0)); rw [hs5] at this; exact this
    have B0 : Hid (Below w4.heap.size ((w4.setCell ⟨w2.heap.size, 0, none⟩ (.int .i64 0)).setCell ⟨w2.heap.size, 1, none⟩ (.int .i64 0)) (((w4.setCell ⟨w2.heap.size, 0, none⟩ (.int .i64 0)).setCell ⟨w2.heap.size, 1, none⟩ (.int .i64 0)).alloc (.map #[] 0))) := by have := below_a ((w4.setCell ⟨w2.heap.size, 0, none⟩ (.int .i64 0)).setCell ⟨w2.heap.size, 1, none⟩ (.int .i64 0)) (.map #[] 0); rw [hs5] at this; exact this
    have HA : Hid (l ≠ [] → ∃ b off, ao = some ⟨b, off, none⟩ ∧ b < w4.heap.size ∧ ∀ j (hj : j < l.length), ((w4.setCell ⟨w2.heap.size, 0, none⟩ (.int .i64 0)).setCell ⟨w2.heap.size, 1, none⟩ (.int .i64 0)).cell? ⟨b, off + j * 6, none⟩ = some (.string (l[j]'hj).lab) ∧ ((w4.setCell ⟨w2.heap.size, 0, none⟩ (.int .i64 0)).setCell ⟨w2.heap.size, 1, none⟩ (.int .i64 0)).cell? ⟨b, off + j * 6 + 1, none⟩ = some (.int .i64 (l[j]'hj).i.o) ∧ ((w4.setCell ⟨w2.heap.size, 0, none⟩ (.int .i64 0)).setCell ⟨w2.heap.size, 1, none⟩ (.int .i64 0)).cell? ⟨b, off + j * 6 + 2, none⟩ = some (.int .i64 (l[j]'hj).i.d) ∧ ((w4.setCell ⟨w2.heap.size, 0, none⟩ (.int .i64 0)).setCell ⟨w2.heap.size, 1, none⟩ (.int .i64 0)).cell? ⟨b, off + j * 6 + 3, none⟩ = some (.int .i64 (l[j]'hj).i.s) ∧ ((w4.setCell ⟨w2.heap.size, 0, none⟩ (.int .i64 0)).setCell ⟨w2.heap.size, 1, none⟩ (.int .i64 0)).cell? ⟨b, off + j * 6 + 4, none⟩ = some (.int .i64 (l[j]'hj).i.m) ∧ ((w4.setCell ⟨w2.heap.size, 0, none⟩ (.int .i64 0)).setCell ⟨w2.heap.size, 1, none⟩ (.int .i64 0)).cell? ⟨b, off + j * 6 + 5, none⟩ = some (.string (l[j]'hj).ref)) := by
      obtain ⟨ao', cap', he, _, hat⟩ := (unhideI L5).at
      obtain rfl : ao = ao' := by injection he
      intro hne
      obtain ⟨b, off, h1, h2, h3⟩ := hat hne
      exact ⟨b, off, h1, by rw [hs5] at h2; exact h2, h3⟩
    have HD : Hid (wants AF l ≠ [] → ∃ b off, aoD = some ⟨b, off, none⟩ ∧ b < w4.heap.size ∧ ∀ j (hj : j < (wants AF l).length), ((w4.setCell ⟨w2.heap.size, 0, none⟩ (.int .i64 0)).setCell ⟨w2.heap.size, 1, none⟩ (.int .i64 0)).cell? ⟨b, off + j * 4, none⟩ = some (.int .i64 ((wants AF l)[j]'hj).o) ∧ ((w4.setCell ⟨w2.heap.size, 0, none⟩ (.int .i64 0)).setCell ⟨w2.heap.size, 1, none⟩ (.int .i64 0)).cell? ⟨b, off + j * 4 + 1, none⟩ = some (.int .i64 ((wants AF l)[j]'hj).d) ∧ ((w4.setCell ⟨w2.heap.size, 0, none⟩ (.int .i64 0)).setCell ⟨w2.heap.size, 1, none⟩ (.int .i64 0)).cell? ⟨b, off + j * 4 + 2, none⟩ = some (.int .i64 ((wants AF l)[j]'hj).s) ∧ ((w4.setCell ⟨w2.heap.size, 0, none⟩ (.int .i64 0)).setCell ⟨w2.heap.size, 1, none⟩ (.int .i64 0)).cell? ⟨b, off + j * 4 + 3, none⟩ = some (.int .i64 ((wants AF l)[j]'hj).m)) := by
      obtain ⟨ao', cap', he, _, hat⟩ := Inss.at (unhideI D5)
      obtain rfl : aoD = ao' := by injection he
      intro hne
      obtain ⟨b, off, h1, h2, h3⟩ := hat hne
      exact ⟨b, off, h1, by rw [hs5] at h2; exact h2, h3⟩
    have HB5 := hideI hs5
    clear L5 D5 hs5
    have HDW : Hid ((wants AF l).drop 0 = wants AF (l.drop 0)) := rfl
    have hDl : (wants AF l).length ≤ l.length := by unfold wants; rw [List.length_map]; exact List.length_filter_le _ _
    go_wp2_with fail
    clear hmm f0 f1 ff
    generalize ((w4.setCell ⟨w2.heap.size, 0, none⟩ (.int .i64 0)).setCell ⟨w2.heap.size, 1, none⟩ (.int .i64 0)).alloc (.map #[] 0) = w6 at *
    generalize ((w4.setCell ⟨w2.heap.size, 0, none⟩ (.int .i64 0)).setCell ⟨w2.heap.size, 1, none⟩ (.int .i64 0)) = w5 at *
    generalize hB : w4.heap.size = B at *
    generalize hDD : wants AF l = D at *
    have hB2 : w2.heap.size ≤ B := by omega
    go_loopg [7, 39] l.length (fun g n i wr => ∃ (k : Nat) (A : Nmd) (nn : Int), k ≤ l.length ∧ g = l.length - k ∧ n = .int .i64 nn ∧ i = .int .i64 k ∧ 0 ≤ nn ∧ nn ≤ 65536 ∧ A.length ≤ k ∧ Hid (Mp wr B A) ∧ Hid (Below B w5 wr) ∧ Hid (plc (l.drop k) k A nn = (AF, nF, 0, 0)))
    case atStart => exact ⟨0, [], 0, Nat.zero_le _, rfl, rfl, rfl, by decide, by decide, Nat.le_refl _, M0, B0, HPL⟩
    case round =>
      obtain ⟨k, A, nn, hk, hg, rfl, rfl, hn0, hn1, hAl, HM, HB, HE⟩ := hrel
      clear M0 B0
      by_cases hlt : k < l.length
      · skip
        have hne : l ≠ [] := by intro h; rw [h] at hlt; simp at hlt
        obtain ⟨b, off, rfl, hbw, hc⟩ := (unhideI HA) hne
        obtain ⟨c0, c1, c2, c3, c4, c5⟩ := hc k hlt
        replace c0 := cell_B (unhideI HB) hbw c0
        replace c1 := cell_B (unhideI HB) hbw c1
        replace c2 := cell_B (unhideI HB) hbw c2
        replace c3 := cell_B (unhideI HB) hbw c3
        replace c4 := cell_B (unhideI HB) hbw c4
        replace c5 := cell_B (unhideI HB) hbw c5
        have hd := hideI (drop_at l k hlt)
        have hw := unhideI HW l[k] (List.getElem_mem hlt)
        have hrf := unhideI HRF l[k] (List.getElem_mem hlt)
        generalize l[k] = x at *
        obtain ⟨lab, ⟨o, d, s, m⟩, ref⟩ := x
        clear hc hne
        dsimp only at *
        have BX := hideI (Box.new wr #[.string lab, .int .i64 o, .int .i64 d, .int .i64 s, .int .i64 m, .string ref] 36)
        have KX := hideI ((unhideI HB).trans ((below_a wr (.cells #[.string lab, .int .i64 o, .int .i64 d, .int .i64 s, .int .i64 m, .string ref] 36)).mono (B_le HB5 (unhideI HB))))
        have MX := hideI ((unhideI HM).step (below_a wr (.cells #[.string lab, .int .i64 o, .int .i64 d, .int .i64 s, .int .i64 m, .string ref] 36)))
        by_cases he : lab.toList.isEmpty = true
        · obtain ⟨hwi, -⟩ := wrgL_ins hw he
          obtain ⟨hkn, -⟩ := wr_zero hwi
          have LO := fun w => long_ok o w
          rw [ke_yes hkn, if_pos hkn] at LO
          obtain ⟨q1, q2⟩ := lng_in o
          have ht : nn + lng o ≤ 65536 := by
            by_cases ht : nn + lng o ≤ 65536
            · exact ht
            · exfalso
              have := unhideI HE
              rw [unhideI hd, plc_much hw he (by show 65536 < nn + lng o; omega)] at this
              simp at this
          have HE2 : Hid (plc (l.drop (k + 1)) (k + 1) A (nn + lng o) = (AF, nF, 0, 0)) := by show _ = _; rw [← unhideI HE, unhideI hd, plc_ins hw he ht]
          clear HE hd hw hkn hwi hrf
          generalize lng o = q at *
          go_wp2_with fail
          refine (LO _).mono ?_
          rintro e w7 ⟨rfl, k7⟩
          have K7 := hideI ((unhideI KX).trans (k7.mono (B_le HB5 (unhideI KX))))
          have M7 := hideI ((unhideI MX).step k7)
          clear k7 KX MX BX c0 c1 c2 c3 c4 c5
          go_wp2_with fail
          go_roundg (l.length - (k + 1))
          case measure => omega
          case rel => exact ⟨k + 1, A, nn + q, by omega, rfl, rfl, by go_num, by omega, ht, by omega, M7, K7, HE2⟩
        · replace he : lab.toList.isEmpty = false := by simpa using he
          obtain ⟨hnm, -, -⟩ := wrgL_lab hw he
          have hsz : lab.size ≤ maxLen := Nat.le_trans (nm_size hnm).1 (by unfold maxLen; omega)
          have ht : hasA A lab.toList = false := by
            cases ht : hasA A lab.toList with
            | false => rfl
            | true =>
              exfalso
              have := unhideI HE
              rw [unhideI hd, plc_taken hw he ht] at this
              simp at this
          have HE2 : Hid (plc (l.drop (k + 1)) (k + 1) (A ++ [(lab.toList, nn)]) nn = (AF, nF, 0, 0)) := by show _ = _; rw [← unhideI HE, unhideI hd, plc_label hw he ht]
          clear HE hd hw hnm hrf
          go_wp2_with (at_mapUpdate; refine wpList_put rfl (.tmp 46) (.tmp 48) (.tmp 49) rfl B A rfl (unhideI MX) (by unfold maxLen; omega) lab rfl hsz nn rfl (WalkArith.wf_i64 (by omega)) ht ?_; intro w7 m7 r7; have M7 := hideI m7; have K7 := hideI ((unhideI KX).trans (below_grown5 r7 (B_le HB5 (unhideI KX)) (fun j hj => by cases hj; exact Nat.le_refl _))); clear m7 r7)
          clear KX MX BX c0 c1 c2 c3 c4 c5
          go_roundg (l.length - (k + 1))
          case measure => omega
          case rel => exact ⟨k + 1, _, nn, by omega, rfl, rfl, by go_num, hn0, hn1, by simp; omega, M7, K7, HE2⟩
      · have hkl : k = l.length := by omega
        subst hkl
        have he := unhideI HE
        rw [List.drop_length] at he
        obtain ⟨rfl, rfl⟩ : A = AF ∧ nn = nF := by
          have e2 : (A, nn, (0 : Int), 0) = (AF, nF, (0 : Int), 0) := he
          injection e2 with e3 e4
          injection e4 with e5 _
          exact ⟨e3, e5⟩
        clear he HE
        go_wp2_with fail
        go_loopg [12, 63] l.length (fun g c i ws => ∃ (k cc : Nat), k ≤ l.length ∧ g = l.length - k ∧ c = .int .i64 cc ∧ i = .int .i64 k ∧ cc ≤ D.length ∧ Hid (Mp ws B A) ∧ Hid (Below B w5 ws) ∧ Hid (D.drop cc = wants A (l.drop k)))
        case atStart => exact ⟨0, 0, Nat.zero_le _, rfl, rfl, rfl, Nat.zero_le _, HM, HB, HDW⟩
        case round =>
          obtain ⟨k, cc, hk2, hg2, rfl, rfl, hcc, HM2, HB2, HE⟩ := hrel
          clear HM HB
          have HM := HM2
          have HB := HB2
          clear HM2 HB2
          by_cases hlt : k < l.length
          · skip
            have hne : l ≠ [] := by intro h; rw [h] at hlt; simp at hlt
            obtain ⟨b, off, rfl, hbw, hc⟩ := (unhideI HA) hne
            obtain ⟨c0, c1, c2, c3, c4, c5⟩ := hc k hlt
            replace c0 := cell_B (unhideI HB) hbw c0
            replace c1 := cell_B (unhideI HB) hbw c1
            replace c2 := cell_B (unhideI HB) hbw c2
            replace c3 := cell_B (unhideI HB) hbw c3
            replace c4 := cell_B (unhideI HB) hbw c4
            replace c5 := cell_B (unhideI HB) hbw c5
            have hd := hideI (drop_at l k hlt)
            have hw := unhideI HW l[k] (List.getElem_mem hlt)
            have hrf := unhideI HRF l[k] (List.getElem_mem hlt)
            generalize l[k] = x at *
            obtain ⟨lab, ⟨o, d, s, m⟩, ref⟩ := x
            clear hc hne
            dsimp only at *
            have BX := hideI (Box.new wr #[.string lab, .int .i64 o, .int .i64 d, .int .i64 s, .int .i64 m, .string ref] 36)
            have KX := hideI ((unhideI HB).trans ((below_a wr (.cells #[.string lab, .int .i64 o, .int .i64 d, .int .i64 s, .int .i64 m, .string ref] 36)).mono (B_le HB5 (unhideI HB))))
            have MX := hideI ((unhideI HM).step (below_a wr (.cells #[.string lab, .int .i64 o, .int .i64 d, .int .i64 s, .int .i64 m, .string ref] 36)))
            by_cases he : lab.toList.isEmpty = true
            · have hE : D.drop cc = want A ⟨lab, ⟨o, d, s, m⟩, ref⟩ :: wants A (l.drop (k + 1)) := by rw [unhideI HE, unhideI hd, wants_ins (x := ⟨lab, ⟨o, d, s, m⟩, ref⟩) he]
              have hcl : cc < D.length := by
                have h1 := congrArg List.length hE
                rw [List.length_drop, List.length_cons] at h1
                omega
              have hDc : D[cc]'hcl = want A ⟨lab, ⟨o, d, s, m⟩, ref⟩ := by
                have h1 := List.drop_eq_getElem_cons hcl
                rw [hE] at h1
                injection h1 with h1 h2
                exact h1.symm
              have HE2 : Hid (D.drop (cc + 1) = wants A (l.drop (k + 1))) := by
                have h1 := List.drop_eq_getElem_cons hcl
                rw [hE] at h1
                injection h1 with h1 h2
                exact h2.symm
              have hDne : D ≠ [] := by intro h; rw [h] at hcl; simp at hcl
              obtain ⟨bD, offD, rfl, hbD, hcD⟩ := (unhideI HD) hDne
              obtain ⟨e0, e1, e2, e3⟩ := hcD cc hcl
              rw [hDc] at e0 e1 e2 e3
              have BA := fun w => bare_any ⟨o, d, s, m⟩ w
              unfold agg at BA
              dsimp only at BA
              obtain ⟨-, -, -, hnr⟩ := insB_ok (A := A) hw he
              clear hcD hE HE hd hw hDne hDc
              have hci : (cc : Int) < (D.length : Int) := by omega
              have hcn : decide ((D.length : Int) ≤ (cc : Int)) = false := by simp; omega
              by_cases hr : ref.toList.isEmpty = true
              · rw [want_emp hr] at e0 e1 e2 e3
                generalize bare ⟨o, d, s, m⟩ = bi at *
                obtain ⟨bo, bd, bs, bm⟩ := bi
                dsimp only at *
                go_wp2_with fail
                refine (BA _).mono ?_
                rintro e w7 ⟨rfl, k7⟩
                have B7 := hideI ((unhideI BX).step k7)
                have K7 := hideI ((unhideI KX).trans (k7.mono (B_le HB5 (unhideI KX))))
                have M7 := hideI ((unhideI MX).step k7)
                have s7 := (unhideI B7).1
                have p5 := (unhideI B7).2.1 5 _ rfl
                have K8 := hideI ((unhideI K7).trans ((below_a w7 (.cells #[.int .i64 bo, .int .i64 bd, .int .i64 bs, .int .i64 bm] 34)).mono (B_le HB5 (unhideI K7))))
                have M8 := hideI ((unhideI M7).step (below_a w7 (.cells #[.int .i64 bo, .int .i64 bd, .int .i64 bs, .int .i64 bm] 34)))
                have T8 := hideI (Box.new w7 #[.int .i64 bo, .int .i64 bd, .int .i64 bs, .int .i64 bm] 34)
                clear k7 c0 c1 c2 c3 c4 c5 BX KX MX
                go_wp2_with fail
                generalize w7.alloc (.cells #[.int .i64 bo, .int .i64 bd, .int .i64 bs, .int .i64 bm] 34) = w8 at *
                generalize w7.heap.size = pw at *
                replace e0 := cell_B (unhideI K8) hbD e0
                replace e1 := cell_B (unhideI K8) hbD e1
                replace e2 := cell_B (unhideI K8) hbD e2
                replace e3 := cell_B (unhideI K8) hbD e3
                obtain ⟨t0, t1, t2, t3⟩ := (unhideI T8).at4
                go_quiet (fail)
                go_wp2_with fail
                have K9 : Hid (Below B w5 (w8.drewN nq)) := below_drewN (unhideI K8) nq
                have M9 : Hid (Mp (w8.drewN nq) B A) := (unhideI M8).step (below_drewN (Below.refl _ _) nq)
                go_roundg (l.length - (k + 1))
                case measure => omega
                case rel => exact ⟨k + 1, cc + 1, by omega, rfl, by go_num, by go_num, by omega, M9, K9, HE2⟩
              · replace hr : ref.toList.isEmpty = false := by simpa using hr
                rw [want_ref hr] at e0 e1 e2 e3
                have hsz : ref.size ≤ maxLen := Nat.le_trans (nm_size (hnr hr)).1 (by unfold maxLen; omega)
                have hha : hasA A ref.toList = true := hrf he hr
                obtain ⟨a0, a1⟩ := unhideI HAT ref.toList
                generalize bare ⟨o, d, s, m⟩ = bi at *
                obtain ⟨bo, bd, bs, bm⟩ := bi
                dsimp only at *
                go_wp2_with fail
                refine (BA _).mono ?_
                rintro e w7 ⟨rfl, k7⟩
                have B7 := hideI ((unhideI BX).step k7)
                have K7 := hideI ((unhideI KX).trans (k7.mono (B_le HB5 (unhideI KX))))
                have M7 := hideI ((unhideI MX).step k7)
                have s7 := (unhideI B7).1
                have p5 := (unhideI B7).2.1 5 _ rfl
                have K8 := hideI ((unhideI K7).trans ((below_a w7 (.cells #[.int .i64 bo, .int .i64 bd, .int .i64 bs, .int .i64 bm] 34)).mono (B_le HB5 (unhideI K7))))
                have M8 := hideI ((unhideI M7).step (below_a w7 (.cells #[.int .i64 bo, .int .i64 bd, .int .i64 bs, .int .i64 bm] 34)))
                have T8 := hideI (Box.new w7 #[.int .i64 bo, .int .i64 bd, .int .i64 bs, .int .i64 bm] 34)
                clear k7 c0 c1 c2 c3 c4 c5 BX KX MX
                go_wp2_with (at_lookup; refine wpList_look_ok rfl (.tmp 77) (.tmp 79) rfl B A rfl (unhideI M8) ref rfl hsz ?_)
                have K8' := hideI ((unhideI K7).trans ((below_a w7 (.cells #[.int .i64 bo, .int .i64 bd, .int .i64 bs, .int .i64 (atA A ref.toList % 65536)] 34)).mono (B_le HB5 (unhideI K7))))
                have M8' := hideI ((unhideI M7).step (below_a w7 (.cells #[.int .i64 bo, .int .i64 bd, .int .i64 bs, .int .i64 (atA A ref.toList % 65536)] 34)))
                have T8' := hideI (Box.new w7 #[.int .i64 bo, .int .i64 bd, .int .i64 bs, .int .i64 (atA A ref.toList % 65536)] 34)
                clear K8 M8 T8
                generalize atA A ref.toList % 65536 = ap at *
                generalize w7.alloc (.cells #[.int .i64 bo, .int .i64 bd, .int .i64 bs, .int .i64 ap] 34) = w8 at *
                generalize w7.heap.size = pw at *
                replace e0 := cell_B (unhideI K8') hbD e0
                replace e1 := cell_B (unhideI K8') hbD e1
                replace e2 := cell_B (unhideI K8') hbD e2
                replace e3 := cell_B (unhideI K8') hbD e3
                obtain ⟨t0, t1, t2, t3⟩ := (unhideI T8').at4
                go_quiet (fail)
                go_wp2_with fail
                have K9 : Hid (Below B w5 (w8.drewN nq)) := below_drewN (unhideI K8') nq
                have M9 : Hid (Mp (w8.drewN nq) B A) := (unhideI M8').step (below_drewN (Below.refl _ _) nq)
                go_roundg (l.length - (k + 1))
                case measure => omega
                case rel => exact ⟨k + 1, cc + 1, by omega, rfl, by go_num, by go_num, by omega, M9, K9, HE2⟩
            · replace he : lab.toList.isEmpty = false := by simpa using he
              have HE2 : Hid (D.drop cc = wants A (l.drop (k + 1))) := by show _ = _; rw [unhideI HE, unhideI hd, wants_lab (x := ⟨lab, ⟨o, d, s, m⟩, ref⟩) he]
              clear HE hd hw hrf
              go_wp2_with fail
              clear BX c0 c1 c2 c3 c4 c5
              go_roundg (l.length - (k + 1))
              case measure => omega
              case rel => exact ⟨k + 1, cc, by omega, rfl, rfl, by go_num, hcc, MX, KX, HE2⟩
          · have hkl : k = l.length := by omega
            subst hkl
            have he := unhideI HE
            rw [List.drop_length] at he
            have hcd : cc = D.length := by
              have h1 := congrArg List.length he
              rw [List.length_drop] at h1
              have h2 : (wants A []).length = 0 := rfl
              omega
            subst hcd
            have hwl := unhideI HWL
            have KF := hideI (bt (unhideI KA) (by rw [unhideI HB5]; exact unhideI HB))
            clear he HE
            go_wp2_with fail
            go_ret
            exact ⟨rfl, unhideI KF⟩
  · have hzb : ((asmA l).2.1 != 0) = true := bne_iff_ne.2 hz
    clear hz
    generalize (asmA l).2.1 = er at *
    go_wp2_with fail
    go_ret
    exact ⟨rfl, bt (unhideI K2) (below_a _ _)⟩
end Go.Proofs.YtoopgkbefhoeiaaGreatDoor
