/-
  The document's linker: Link where units are found.
-/
import Derived.Test.YteoifpkbknkpjaaL5D4
import Derived.Test.YteoifpkbknkpjaaLkT
namespace Go.Proofs.Yteoifpkbknkpjaa
open Go.RowKit Go.Maps
set_option linter.unusedSimpArgs false
set_option linter.unusedVariables false

set_option maxRecDepth 100000 in
set_option maxHeartbeats 4000000 in
theorem link5_go (us : List Un) (v : Value) (entry : ByteArray) (w : World) (hU : Uns w v us) (hc : (chkR us).1 = 0) (h2 : entry.toList ≠ []) (h3 : 0 ≤ holdU us 0 entry.toList) :
    Calls Try.prog 5 #[v, .string entry] w fun e w' => LinkRet w (linkR us entry.toList) e w' := by
  obtain ⟨t0, hi0, hz0, hz1, hz2⟩ := info_parts Try.infoInt
  obtain ⟨s0, hs0, hs1, hs2, hs3⟩ := info_parts Try.infoSpot
  have LS := L5S.start hU
  obtain ⟨ao, cap, rfl, hmax, hat⟩ := hU
  unfold maxLen at hmax
  have CK := hideI (check5_any us _ _ LS.un)
  have EK : (if 400 < us.length then ((5 : Int), (0 : Int)) else chkU us us 0) = chkR us := rfl
  rw [EK, hc] at CK
  obtain ⟨hm4, hln⟩ := chkR_ok hc
  have HLN := hideI hln
  have hlen : ∀ u ∈ us, u.lines.length ≤ 40000 := fun u hu => (hln u hu).1
  have HLE := hideI hlen
  replace LS := hideI LS
  have HO := hideI (fun W h => holder_any us (.slice ao us.length cap) entry W h)
  have HIN := (hold_in us 0 entry.toList).1
  generalize hRR : ordR us 400 0 [holdU us 0 entry.toList] = R
  have hLK0 : linkR us entry.toList = if R.2.1 = 0 then (⟨imgW us R.1 (begL us R.1 0) R.1 (begL us R.1 0), R.1, imgS us R.1 (begL us R.1 0) R.1 (begL us R.1 0)⟩, 0, 0) else (im0, R.2) := by
    unfold linkR; rw [if_pos hc, if_neg (by intro h; rcases h with h | h; exact h2 h; omega), hRR]
  generalize linkR us entry.toList = LK at *
  have HLK0 := hideI hLK0
  generalize holdU us 0 entry.toList = H at *
  have HRR := hideI hRR
  have hz' : entry.toList.isEmpty = false := by simpa using h2
  have HIN' : H < (us.length : Int) := by omega
  clear hat EK hc hln hlen h2 hRR hLK0 HIN
  go_enter Try.func5, Try.ntmps5
  go_wp2_with fail
  refine (unhideI CK).mono ?_
  rintro e w4 ⟨rfl, k4⟩
  replace LS := hideI ((unhideI LS).step k4)
  clear k4 CK
  have HB1 := (unhideI LS).bu
  have HB2 := (unhideI LS).bi
  have HB3 := (unhideI LS).bf
  have e0 := HB1.2.1 0 _ rfl
  have i0 := HB2.2.1 0 _ rfl
  have i1 := HB2.2.1 1 _ rfl
  have i2 := HB2.2.1 2 _ rfl
  have ifz := HB2.2.2
  have ibl := HB2.1
  have f0 := HB3.2.1 0 _ rfl
  have f1 := HB3.2.1 1 _ rfl
  have ffz := HB3.2.2
  have fbl := HB3.1
  have ubl := HB1.1
  clear HB1 HB2 HB3
  have KF := hideI (below_a w4 (.cells #[.int .i64 0, .int .i64 (chkR us).2] 29))
  go_wp2_with fail
  generalize w4.alloc (.cells #[.int .i64 0, .int .i64 (chkR us).2] 29) = w5 at *
  replace LS := hideI ((unhideI LS).step (unhideI KF))
  clear e0 i0 i1 i2 ifz ibl f0 f1 ffz fbl ubl KF
  refine (unhideI HO _ (unhideI LS).un).mono ?_
  rintro e w6 ⟨rfl, k6⟩
  replace LS := hideI ((unhideI LS).step k6)
  clear k6 HO
  generalize (chkR us).2 = c0 at *
  generalize w4.heap.size = n4 at *
  have OS := hideI (OrdAt.start (us := us) (w6 := w6) h3 HIN')
  have h3' : ¬ H < 0 := by omega
  go_wp2_with fail
  generalize (w6.alloc (.cells #[.int .i64 H] 3)).alloc (.cells #[.slice (some ⟨w6.heap.size, 0, none⟩) 1 1] 23) = w8 at *
  go_loopg [9] 400 (fun g t wr => ∃ (i : Nat) (o : List Int) (vo : Value), i ≤ o.length ∧ g = 400 - i ∧ t = .int .i64 (i : Int) ∧ Hid (OrdAt us w6 o vo wr) ∧ Hid (ordR us (400 - i) i o = R))
  case atStart => exact ⟨0, [H], _, by simp, rfl, rfl, OS, HRR⟩
  case round =>
    obtain ⟨i, o, vo, hi, hg, rfl, OA, HE⟩ := hrel
    clear OS HRR
    have hof := (unhideI OA).odr.few
    have LW := (unhideI LS).step (unhideI OA).bel
    have LSW := hideI LW
    obtain ⟨oo, oc, rfl⟩ := own_slice (unhideI OA).own
    have ob0 := (unhideI OA).box.2.1 0 _ rfl
    have obl := (unhideI OA).box.1
    have OI : Hid (Ints wr (.slice oo o.length oc) o) := Lies.owned (unhideI OA).own
    have e0 := LW.bu.2.1 0 _ rfl
    have ubl := LW.bu.1
    clear LW
    by_cases hlt : i < o.length
    · have hil : (i : Int) < (o.length : Int) := by omega
      obtain ⟨f, hf⟩ : ∃ f, 400 - i = f + 1 := ⟨400 - i - 1, by omega⟩
      have hE := unhideI HE
      rw [hf, ordR_at hlt] at hE
      have HE2 := hideI hE
      have hri := (unhideI OA).odr.rg _ (List.getElem_mem hlt)
      obtain ⟨oo', oc', heq, homax, hoat⟩ := (unhideI OI).at
      injection heq with q1 q2 q3
      subst q1
      obtain ⟨gb, gof, rfl, hgb, hgc⟩ := hoat (by intro h; rw [h] at hlt; simp at hlt)
      have co := hgc i hlt
      generalize o[i] = x at *
      obtain ⟨m, rfl⟩ : ∃ m : Nat, x = m := ⟨x.toNat, by omega⟩
      have hm : m < us.length := by omega
      clear hgc hoat q2 q3 hE HE
      have IC := hideI ((unhideI OI).cut (k := i + 1) (by omega) (by omega))
      have hoc : o.length ≤ oc := by
        obtain ⟨_, _, _, hq, h3, _⟩ := unhideI OI
        injection hq with _ _ e3; rw [e3]; exact h3
      have BG := hideI (fun W h => begin5_any us (.slice ao us.length cap) (o.take (i + 1)) (.slice (some ⟨gb, gof, none⟩) (i + 1) oc) W h)
      go_upto_region 12 with fail
      have kd : Below wr.heap.size wr wr.drew := (Below.refl _ _).drew
      replace OA := hideI ((unhideI OA).step kd)
      replace LSW := hideI ((unhideI LSW).step kd)
      replace IC := hideI ((unhideI IC).step kd)
      replace e0 : wr.drew.cell? ⟨w.heap.size, 0, none⟩ = some (.slice ao us.length cap) := e0
      replace ob0 : wr.drew.cell? ⟨w6.heap.size + 1, 0, none⟩ = some (.slice (some ⟨gb, gof, none⟩) o.length oc) := ob0
      clear kd co ubl obl OI hgb
      refine reg_start (fun W => W.cell? ⟨w.heap.size, 0, none⟩ = some (.slice ao us.length cap) ∧ W.cell? ⟨w6.heap.size + 1, 0, none⟩ = some (.slice (some ⟨gb, gof, none⟩) o.length oc)) (by kernel_rfl) ?_
      generalize wr.drew = wd at *
      refine reg_seg 0 5 2 (by kernel_rfl) (by decide) (by kernel_rfl) (by kernel_rfl) (fun _ _ _ _ _ h => h) ?_
      simp only [List.take_succ_cons, List.take_zero, List.drop_succ_cons, List.drop_zero]
      repeat (refine wpSteady_step (fun K hK => ?_); go_simp; first | (refine steady_of ?_ (fun W hW => ?_) (hK _ ?_); rotate_left; (obtain ⟨hcW, hcX⟩ := hW; go_simp; first | done | rfl); clear hK K) | (refine hK _ ?_; clear hK K))
      have hwr : IntKind.i64.wrap ((i : Int) + 1) = ((i + 1 : Nat) : Int) := by rw [Go.IntWalk.i64_in _ (by omega)]; omega
      refine wpSteady_step (fun K hK => ?_)
      go_simp
      refine steady_of (.slice (some ⟨gb, gof, none⟩) (i + 1) oc) (fun W hW => ?_) (hK _ ?_)
      · go_simp
        intro hq
        exact absurd (hq (by omega)) (by omega)
      clear hK K
      refine wpSteady_nil ?_
      refine reg_one 5 1 (by kernel_rfl) (by kernel_rfl) ⟨e0, ob0⟩ ?_
      simp only [List.take_succ_cons, List.take_zero, List.drop_succ_cons, List.drop_zero]
      go_wp2_with fail
      refine (unhideI BG wd (unhideI LSW).un (unhideI IC) (fun x hx => (unhideI OA).odr.rg x (List.mem_of_mem_take hx)) (unhideI HLE) (by rw [List.length_take]; omega)).mono ?_
      rintro e w7 ⟨vb, rfl, IB, k7⟩
      have OA7 := hideI ((unhideI OA).step k7)
      have LS7 := hideI ((unhideI LSW).step k7)
      have IB7 := hideI IB
      have e07 := (unhideI LS7).bu.2.1 0 _ rfl
      have ob7 := (unhideI OA7).box.2.1 0 _ rfl
      clear k7 IB OA LSW e0 ob0 BG IC
      go_wp2_with fail
      first | refine next_nil ?_ | refine next_go ?_
      refine reg_one 6 0 (by kernel_rfl) (by kernel_rfl) ⟨e07, ob7⟩ ?_
      simp only [List.take_succ_cons, List.take_zero, List.drop_succ_cons, List.drop_zero]
      go_wp2_with fail
      first | refine next_nil ?_ | refine next_go ?_
      refine reg_end (by kernel_rfl) ⟨e07, ob7⟩ ?_
      obtain ⟨bo, bcap, rfl, hbmax, hbat⟩ := (unhideI IB7).at
      clear hwr
      have hbl := begL_len us (o.take (i + 1)) 0
      have htl : (o.take (i + 1)).length = i + 1 := by rw [List.length_take]; omega
      rw [htl] at hbl
      have hbe := begL_at us (o.take (i + 1)) 0 (i + 1) (by omega)
      rw [show (o.take (i + 1)).take (i + 1) = o.take (i + 1) from List.take_of_length_le (by omega), Int.zero_add] at hbe
      obtain ⟨bb, bof, rfl, hbb, hbc⟩ := hbat (by intro h; rw [h] at hbl; simp at hbl)
      have cb := hbc (i + 1) (by omega)
      rw [show (begL us (o.take (i + 1)) 0)[i + 1]'(by omega) = sumL us (o.take (i + 1)) by rw [List.getElem?_eq_getElem (by omega)] at hbe; exact Option.some.inj hbe] at cb
      rw [hbl]
      have hsl := sumL_in (unhideI HLE) (o.take (i + 1))
      generalize sumL us (o.take (i + 1)) = SU at *
      clear hbat hbc hbe hbl IB7 hbmax
      by_cases hmu : 65536 < SU
      · have hE := unhideI HE2
        rw [if_pos hmu] at hE
        have HLK : Hid (LK = (im0, 4, (m : Int))) := by
          show LK = _
          rw [unhideI HLK0, ← hE]; rfl
        obtain ⟨c1, hc1⟩ : ∃ c : Int, c = 4 := ⟨_, rfl⟩
        obtain ⟨c2, hc2⟩ : ∃ c : Int, c = (m : Int) := ⟨_, rfl⟩
        have LS := LS7
        obtain ⟨WF, hWF, BI, BF, KF⟩ := (unhideI LS).ret c1 c2
        have BI0 := hideI BI
        have BF0 := hideI BF
        have KF0 := hideI KF
        have HWF := hideI hWF
        clear BI BF KF hWF
        subst hc1
        subst hc2
        have HB1 := (unhideI LS).bu
        have HB2 := (unhideI LS).bi
        have HB3 := (unhideI LS).bf
        have e0 := HB1.2.1 0 _ rfl
        have i0 := HB2.2.1 0 _ rfl
        have i1 := HB2.2.1 1 _ rfl
        have i2 := HB2.2.1 2 _ rfl
        have ifz := HB2.2.2
        have ibl := HB2.1
        have f0 := HB3.2.1 0 _ rfl
        have f1 := HB3.2.1 1 _ rfl
        have ffz := HB3.2.2
        have fbl := HB3.1
        have ubl := HB1.1
        clear HB1 HB2 HB3
        go_wp2_with fail
        rw [← unhideI HWF]
        clear HWF
        have r0 := (unhideI BI0).2.1 0 _ rfl
        have r1 := (unhideI BI0).2.1 1 _ rfl
        have r2 := (unhideI BI0).2.1 2 _ rfl
        have r3 := (unhideI BF0).2.1 0 _ rfl
        have r4 := (unhideI BF0).2.1 1 _ rfl
        have r5 := (unhideI BI0).1
        have r6 := (unhideI BF0).1
        exact bodyPost_ret (v := .tuple #[.agg #[.slice none 0 0, .slice none 0 0, .slice none 0 0], .agg #[.int .i64 4, .int .i64 (m : Int)]]) (by simp [results, Try.results5, go_sem, r0, r1, r2, r3, r4, r5, r6]) rfl (by rw [unhideI HLK]; exact im0_ret1 (unhideI KF0) 4 (m : Int))
      · have hE := unhideI HE2
        rw [if_neg hmu, uLn_at hm] at hE
        have HE := hideI hE
        obtain ⟨ub, uof, cap', vl, heq, hmax', hubl, u0, u1, uL⟩ := uns_at (unhideI LS).un hm
        injection heq with q1 q2 q3
        subst q1
        obtain ⟨lo, lc, rfl, hlmax, hlat⟩ := uL.at
        have HUL := hideI uL
        have HLA := hideI hlat
        have U1 := hideI u1
        replace u1 := cell_keep (unhideI OA7).bel hubl u1
        have hll := unhideI HLE _ (List.getElem_mem hm)
        have HUM := hideI (uLn_at hm)
        have hmI : (m : Int) < (us.length : Int) := by omega
        have hfi : f = 400 - (i + 1) := by omega
        clear uL hlat hE HE2 hmax' q2 q3 u0
        generalize (us[m]'hm).lines = lines at *
        have HE3 : Hid ((if (ordU us (m : Int) (lines.drop 0) o).1 = true then ordR us f (i + 1) (ordU us (m : Int) (lines.drop 0) o).2 else ([], 6, (m : Int))) = R) := unhideI HE
        clear HE
        go_wp2_with fail
        go_loopg [81] lines.length (fun g t ws => ∃ (k : Nat) (o2 : List Int) (vo2 : Value), k ≤ lines.length ∧ g = lines.length - k ∧ t = .int .i64 (k : Int) ∧ i < o2.length ∧ Hid (OrdAt us w6 o2 vo2 ws) ∧ Hid ((if (ordU us (m : Int) (lines.drop k) o2).1 = true then ordR us f (i + 1) (ordU us (m : Int) (lines.drop k) o2).2 else ([], 6, (m : Int))) = R))
        case atStart => exact ⟨0, o, _, Nat.zero_le _, rfl, rfl, hlt, OA7, HE3⟩
        case round =>
          obtain ⟨k, o2, vo2, hk, hgk, rfl, hio, OB, HE4⟩ := hrel
          clear HE3 OA7 LS7 u1 e07 ob7 cb
          have hof2 := (unhideI OB).odr.few
          have LSB := hideI ((unhideI LS).step (unhideI OB).bel)
          obtain ⟨oo2, oc2, rfl⟩ := own_slice (unhideI OB).own
          by_cases hkl : k < lines.length
          · have hkI : (k : Int) < (lines.length : Int) := by omega
            obtain ⟨b2, off2, rfl, hbw2, hc2⟩ := (unhideI HLA) (by intro h; rw [h] at hkl; simp at hkl)
            obtain ⟨d0, d1, d2, d3, d4, d5⟩ := hc2 k hkl
            replace d0 := cell_keep (unhideI OB).bel hbw2 d0
            replace d1 := cell_keep (unhideI OB).bel hbw2 d1
            replace d2 := cell_keep (unhideI OB).bel hbw2 d2
            replace d3 := cell_keep (unhideI OB).bel hbw2 d3
            replace d4 := cell_keep (unhideI OB).bel hbw2 d4
            replace d5 := cell_keep (unhideI OB).bel hbw2 d5
            have hE := unhideI HE4
            rw [drop_at lines k hkl] at hE
            replace HE4 := hideI hE
            have RFN := hideI (rfU_in hm (lines[k]).ref.toList)
            generalize lines[k] = x at *
            obtain ⟨lab, ⟨op, d, sr, mm⟩, ref⟩ := x
            clear hc2 hE
            dsimp only at *
            have KA := hideI (below_a wr (.cells #[.string lab, .int .i64 op, .int .i64 d, .int .i64 sr, .int .i64 mm, .string ref] 54))
            have OBA := hideI ((unhideI OB).step (unhideI KA))
            have LSA := hideI ((unhideI LSB).step (unhideI KA))
            have BX := hideI (Box.new wr #[.string lab, .int .i64 op, .int .i64 d, .int .i64 sr, .int .i64 mm, .string ref] 54)
            by_cases he : emp ref = true
            · have he' : ref.toList.isEmpty = true := he
              have HE5 : Hid ((if (ordU us (m : Int) (lines.drop (k + 1)) o2).1 = true then ordR us f (i + 1) (ordU us (m : Int) (lines.drop (k + 1)) o2).2 else ([], 6, (m : Int))) = R) := by
                rw [← unhideI HE4, ordU_skip he]; rfl
              clear HE4 he
              go_wp2_with fail
              go_roundg (lines.length - (k + 1))
              case measure => omega
              case rel => exact ⟨k + 1, o2, _, by omega, rfl, by go_num, hio, OBA, HE5⟩
            · replace he : emp ref = false := by simpa using he
              have he' : ref.toList.isEmpty = false := he
              have HO2 := hideI (fun W h => holder_any us (.slice (some ⟨ub, uof, none⟩) us.length cap) ref W h)
              have hNO : rfU us (m : Int) ref.toList < 0 → ordU us (m : Int) (⟨lab, ⟨op, d, sr, mm⟩, ref⟩ :: lines.drop (k + 1)) o2 = (false, o2) := fun h => ordU_none (y := ⟨lab, ⟨op, d, sr, mm⟩, ref⟩) he h
              have hYE : ¬ rfU us (m : Int) ref.toList < 0 → ordU us (m : Int) (⟨lab, ⟨op, d, sr, mm⟩, ref⟩ :: lines.drop (k + 1)) o2 = ordU us (m : Int) (lines.drop (k + 1)) (addO o2 (rfU us (m : Int) ref.toList)) := fun h => ordU_next (y := ⟨lab, ⟨op, d, sr, mm⟩, ref⟩) he h
              have e0 := (unhideI LSB).bu.2.1 0 _ rfl
              have ubl := (unhideI LSB).bu.1
              have hrf : rfU us (m : Int) ref.toList = if ownK ref.toList = true ∧ 0 ≤ whrL lines ref.toList 0 then (m : Int) else holdU us 0 ref.toList := by unfold rfU; rw [unhideI HUM]
              have HNO := hideI hNO
              have HYE := hideI hYE
              have HRF := hideI hrf
              have OWA := hideI (fun W => own5_any ref W)
              have hho : ownK ref.toList = true → holdU us 0 ref.toList = -1 := fun h => hold_own h us 0
              have HHO := hideI hho
              have WH := hideI (fun W h => where_any lines (.slice (some ⟨b2, off2, none⟩) lines.length lc) ref 0 W h hll (by omega) (by omega))
              generalize rfU us (m : Int) ref.toList = K at *
              generalize holdU us 0 ref.toList = H2 at *
              generalize whrL lines ref.toList 0 = Q at *
              clear hNO hYE hrf hho he
              go_wp2_with fail
              generalize wr.alloc (.cells #[.string lab, .int .i64 op, .int .i64 d, .int .i64 sr, .int .i64 mm, .string ref] 54) = wa at *
              refine (unhideI HO2 _ (unhideI LSA).un).mono ?_
              rintro e w10 ⟨rfl, k10⟩
              have OB10 := hideI ((unhideI OBA).step k10)
              have LS10 := hideI ((unhideI LSA).step k10)
              have BX10 := hideI ((unhideI BX).step k10)
              clear k10 HO2 d0 d1 d2 d3 d4 d5 e0 ubl KA OBA LSA BX OB LSB
              have e0 := (unhideI LS10).bu.2.1 0 _ rfl
              have ubl := (unhideI LS10).bu.1
              have p5 := (unhideI BX10).2.1 5 _ rfl
              have pbl := (unhideI BX10).1
              have u1 := cell_keep (unhideI OB10).bel hubl (unhideI U1)
              have ubl2 : ub < w10.heap.size := Nat.lt_of_lt_of_le hubl (unhideI OB10).bel.size
              have HL10 := hideI ((unhideI HUL).step (unhideI OB10).bel)
              by_cases how : ownK ref.toList = true
              · rw [how] at OWA
                have hH2 := unhideI HHO how
                go_upto_region 20 with fail
                refine wp_region_later (by kernel_rfl) (by kernel_rfl) ?_
                intro L hne lt hlc hlf hlm
                repeat (go_big_quiet_step (first | (go_at_call 13; exact later_same (unhideI OWA _)) | (go_at_call 14; exact later_call hlm (unhideI WH _ (Lies.step (unhideI HL10) (hlm.1 _))))))
                refine wpQuiet_nil ?_
                intro wq kq
                clear hlm hlf hlc lt hne L
                obtain ⟨hqc, hqf⟩ := below_cells kq
                have OBq := hideI ((unhideI OB10).step kq)
                have LSq := hideI ((unhideI LS10).step kq)
                by_cases hq : 0 ≤ Q
                · have hKm : K = (m : Int) := by rw [unhideI HRF, if_pos ⟨how, hq⟩]
                  subst hKm
                  have hK0 : (0 : Int) ≤ (m : Int) := by omega
                  have hK1 : (m : Int) < (us.length : Int) := by omega
                  have HE5 : Hid ((if (ordU us (m : Int) (lines.drop (k + 1)) (addO o2 (m : Int))).1 = true then ordR us f (i + 1) (ordU us (m : Int) (lines.drop (k + 1)) (addO o2 (m : Int))).2 else ([], 6, (m : Int))) = R) := by
                    have := unhideI HE4
                    rw [unhideI HYE (by omega)] at this
                    exact this
                  clear HE4 HNO HYE HRF HHO OWA WH hH2 e0 ubl p5 pbl u1 ubl2 OB10 LS10 BX10 HL10 LSq
                  have hKn : ¬ (m : Int) < 0 := by omega
                  have hqb := (unhideI OBq).box.2.1 0 _ rfl
                  have hqbl := (unhideI OBq).box.1
                  have hqfz := (unhideI OBq).box.2.2
                  have OIq : Hid (Ints wq (.slice oo2 o2.length oc2) o2) := Lies.owned (unhideI OBq).own
                  obtain ⟨oo', oc', heq, homax2, hoat2⟩ := (unhideI OIq).at
                  injection heq with q1 q2 q3
                  subst q1
                  have HOQ := hideI hoat2
                  clear hoat2 OIq q2 q3
                  unfold maxLen at homax2
                  go_wp2_with fail
                  go_loopg [15, 114] o2.length (fun g b t ws => ∃ (j : Nat), j ≤ o2.length ∧ g = o2.length - j ∧ t = .int .i64 (j : Int) ∧ b = .bool ((o2.take j).any (fun q => q == (m : Int))) ∧ ws = wq)
                  case atStart => exact ⟨0, Nat.zero_le _, rfl, rfl, by simp, rfl⟩
                  case round =>
                    obtain ⟨j, hj, hgj, rfl, rfl, rfl⟩ := hrel
                    by_cases hjl : j < o2.length
                    · have hjI : (j : Int) < (o2.length : Int) := by omega
                      obtain ⟨gb2, gof2, rfl, hgb2, hgc2⟩ := (unhideI HOQ) (by intro h; rw [h] at hjl; simp at hjl)
                      have cj := hgc2 j hjl
                      have hany : (o2.take (j + 1)).any (fun q => q == (m : Int)) = ((o2.take j).any (fun q => q == (m : Int)) || (o2[j] == (m : Int))) := by
                        rw [List.take_add_one, List.getElem?_eq_getElem hjl, Option.toList_some, List.any_append]; simp
                      have HAN := hideI hany
                      clear hgc2 hany
                      generalize o2[j] = q at *
                      cases hb : (o2.take j).any (fun q => q == (m : Int)) with
                      | true =>
                        rw [hb] at HAN
                        go_wp2_with fail
                        go_roundg (o2.length - (j + 1))
                        case measure => omega
                        case rel => exact ⟨j + 1, by omega, rfl, by go_num, by rw [unhideI HAN]; rfl, rfl⟩
                      | false =>
                        rw [hb] at HAN
                        go_wp2_with fail
                        go_roundg (o2.length - (j + 1))
                        case measure => omega
                        case rel => exact ⟨j + 1, by omega, rfl, by go_num, by rw [unhideI HAN]; rfl, rfl⟩
                    · have hjI : ¬ (j : Int) < (o2.length : Int) := by omega
                      have htk : o2.take j = o2 := List.take_of_length_le (by omega)
                      rw [htk]
                      clear htk
                      cases hb : o2.any (fun q => q == (m : Int)) with
                      | true =>
                        have HE6 : Hid ((if (ordU us (m : Int) (lines.drop (k + 1)) o2).1 = true then ordR us f (i + 1) (ordU us (m : Int) (lines.drop (k + 1)) o2).2 else ([], 6, (m : Int))) = R) := by
                          have := unhideI HE5
                          unfold addO at this
                          rw [if_pos hb] at this
                          exact this
                        clear HE5
                        go_wp2_with fail
                        go_roundg (lines.length - (k + 1))
                        case measure => omega
                        case rel => exact ⟨k + 1, o2, _, by omega, rfl, by go_num, hio, OBq, HE6⟩
                      | false =>
                        have HE6 : Hid ((if (ordU us (m : Int) (lines.drop (k + 1)) (o2 ++ [(m : Int)])).1 = true then ordR us f (i + 1) (ordU us (m : Int) (lines.drop (k + 1)) (o2 ++ [(m : Int)])).2 else ([], 6, (m : Int))) = R) := by
                          have := unhideI HE5
                          rw [show addO o2 (m : Int) = o2 ++ [(m : Int)] by unfold addO; rw [if_neg (by simp [hb])]] at this
                          exact this
                        have hod := (unhideI OBq).odr.add hK0 hK1 hb
                        have HOD := hideI hod
                        have hfw := hod.few
                        simp only [List.length_append, List.length_cons, List.length_nil] at hfw
                        have hsz := (unhideI OBq).bel.size
                        have OWQ := hideI (unhideI OBq).own
                        have BQ := hideI (unhideI OBq).box
                        have NEQ := hideI (unhideI OBq).ne
                        have BLQ := hideI (unhideI OBq).bel
                        clear HE5 hod
                        go_wp2_with (at_builtin; refine wpList_append_lies _ rfl (.tmp 127) (.tmp 129) 23 rfl w6.heap.size 3 t0 (.int .i64 0) 1 8 Try.underlying23 hi0 hz0 hz1 hz2 rfl (by decide) _ _ _ rfl ((unhideI OWQ).alloc _) ⟨_, 0, none⟩ 1 1 [.int .i64 (m : Int)] rfl rfl (one_c1 _ _ _) (one_c2 _ _) (by decide) (by unfold maxLen; omega) (by omega) (by simp; omega) _ rfl ?_; intro g5 cap5 w15 own5 grow5 at5 hgl5; have O5 := hideI (show w15.ownsRow w6.heap.size 3 1 (.slice (some ⟨g5, 0, none⟩) (o2.length + 1) cap5) (o2 ++ [(m : Int)]).length ((o2 ++ [(m : Int)]).map int1) by rw [List.map_append, List.length_append]; exact own5); have B5 := hideI (((unhideI BQ).step (below_a _ _)).kpt (Kpt.grown (X := fun c => (Value.slice oo2 o2.length oc2).ownBlock = some c) grow5 (fun _ h => h)) (unhideI NEQ)); have K5 := hideI (below_own ((unhideI BLQ).alloc (by omega) _) (by simp; omega) ((unhideI OWQ).alloc _) grow5); have A5 : Hid ((Value.slice oo2 o2.length oc2).ownBlock = some g5 ∨ g5 = wr.heap.size + 1) := at5.imp id (fun h => h.trans (by simp)); have z0 := (unhideI B5).2.1 0 _ rfl; have z1 := (unhideI B5).2.2; have z2 := (unhideI B5).1; clear own5 grow5 at5)
                        have N5 : (Value.slice (some ⟨g5, 0, none⟩) (o2.length + 1) cap5).ownBlock ≠ some (w6.heap.size + 1) := by
                          intro h
                          have h2 : g5 = w6.heap.size + 1 := Option.some.inj h
                          rcases unhideI A5 with h3 | h3
                          · exact unhideI NEQ (h3.trans (by rw [h2]))
                          · omega
                        have OBn : Hid (OrdAt us w6 (o2 ++ [(m : Int)]) (.slice (some ⟨g5, 0, none⟩) (o2.length + 1) cap5) (w15.setCell ⟨w6.heap.size + 1, 0, none⟩ (.slice (some ⟨g5, 0, none⟩) (o2.length + 1) cap5))) := ⟨(unhideI B5).set (j := 0) (u := .slice (some ⟨g5, 0, none⟩) (o2.length + 1) cap5) (by simp), ownsRow_setCell_other (unhideI O5) (a := ⟨w6.heap.size + 1, 0, none⟩) N5 _, N5, (unhideI K5).setCell (by simp) _, unhideI HOD⟩
                        go_roundg (lines.length - (k + 1))
                        case measure => omega
                        case rel => exact ⟨k + 1, o2 ++ [(m : Int)], _, by omega, rfl, by go_num, by simp; omega, OBn, HE6⟩
                · have hKm : K = H2 := by rw [unhideI HRF, if_neg (fun h => hq h.2)]
                  subst hKm
                  replace HNO := hideI (unhideI HNO (by omega))
                  have hKn : K < 0 := by omega
                  clear HYE HRF HHO OWA WH e0 ubl p5 pbl u1 ubl2 OB10 LS10 BX10 HL10
                  have HLK : Hid (LK = (im0, 6, (m : Int))) := by
                    show LK = _
                    rw [unhideI HLK0, ← unhideI HE4, unhideI HNO]; rfl
                  obtain ⟨c1, hc1⟩ : ∃ c : Int, c = 6 := ⟨_, rfl⟩
                  obtain ⟨c2, hc2⟩ : ∃ c : Int, c = (m : Int) := ⟨_, rfl⟩
                  have LS := LSq
                  obtain ⟨WF, hWF, BI, BF, KF⟩ := (unhideI LS).ret c1 c2
                  have BI0 := hideI BI
                  have BF0 := hideI BF
                  have KF0 := hideI KF
                  have HWF := hideI hWF
                  clear BI BF KF hWF
                  subst hc1
                  subst hc2
                  have HB1 := (unhideI LS).bu
                  have HB2 := (unhideI LS).bi
                  have HB3 := (unhideI LS).bf
                  have e0 := HB1.2.1 0 _ rfl
                  have i0 := HB2.2.1 0 _ rfl
                  have i1 := HB2.2.1 1 _ rfl
                  have i2 := HB2.2.1 2 _ rfl
                  have ifz := HB2.2.2
                  have ibl := HB2.1
                  have f0 := HB3.2.1 0 _ rfl
                  have f1 := HB3.2.1 1 _ rfl
                  have ffz := HB3.2.2
                  have fbl := HB3.1
                  have ubl := HB1.1
                  clear HB1 HB2 HB3
                  go_wp2_with fail
                  rw [← unhideI HWF]
                  clear HWF
                  have r0 := (unhideI BI0).2.1 0 _ rfl
                  have r1 := (unhideI BI0).2.1 1 _ rfl
                  have r2 := (unhideI BI0).2.1 2 _ rfl
                  have r3 := (unhideI BF0).2.1 0 _ rfl
                  have r4 := (unhideI BF0).2.1 1 _ rfl
                  have r5 := (unhideI BI0).1
                  have r6 := (unhideI BF0).1
                  exact bodyPost_ret (v := .tuple #[.agg #[.slice none 0 0, .slice none 0 0, .slice none 0 0], .agg #[.int .i64 6, .int .i64 (m : Int)]]) (by simp [results, Try.results5, go_sem, r0, r1, r2, r3, r4, r5, r6]) rfl (by rw [unhideI HLK]; exact im0_ret1 (unhideI KF0) 6 (m : Int))
              · replace how : ownK ref.toList = false := by simpa using how
                rw [how] at OWA
                have hKH : K = H2 := by rw [unhideI HRF, if_neg (by rw [how]; simp)]
                go_upto_region 20 with fail
                refine wp_region_later (by kernel_rfl) (by kernel_rfl) ?_
                intro L hne lt hlc hlf hlm
                repeat (go_big_quiet_step (first | (go_at_call 13; exact later_same (unhideI OWA _)) | (go_at_call 14; exact later_call hlm (unhideI WH _ (Lies.step (unhideI HL10) (hlm.1 _))))))
                refine wpQuiet_nil ?_
                intro wq kq
                clear hlm hlf hlc lt hne L
                obtain ⟨hqc, hqf⟩ := below_cells kq
                have OBq := hideI ((unhideI OB10).step kq)
                have LSq := hideI ((unhideI LS10).step kq)
                subst hKH
                by_cases hKn : K < 0
                · replace HNO := hideI (unhideI HNO hKn)
                  clear HYE HRF HHO OWA WH e0 ubl p5 pbl u1 ubl2 OB10 LS10 BX10 HL10
                  have HLK : Hid (LK = (im0, 6, (m : Int))) := by
                    show LK = _
                    rw [unhideI HLK0, ← unhideI HE4, unhideI HNO]; rfl
                  obtain ⟨c1, hc1⟩ : ∃ c : Int, c = 6 := ⟨_, rfl⟩
                  obtain ⟨c2, hc2⟩ : ∃ c : Int, c = (m : Int) := ⟨_, rfl⟩
                  have LS := LSq
                  obtain ⟨WF, hWF, BI, BF, KF⟩ := (unhideI LS).ret c1 c2
                  have BI0 := hideI BI
                  have BF0 := hideI BF
                  have KF0 := hideI KF
                  have HWF := hideI hWF
                  clear BI BF KF hWF
                  subst hc1
                  subst hc2
                  have HB1 := (unhideI LS).bu
                  have HB2 := (unhideI LS).bi
                  have HB3 := (unhideI LS).bf
                  have e0 := HB1.2.1 0 _ rfl
                  have i0 := HB2.2.1 0 _ rfl
                  have i1 := HB2.2.1 1 _ rfl
                  have i2 := HB2.2.1 2 _ rfl
                  have ifz := HB2.2.2
                  have ibl := HB2.1
                  have f0 := HB3.2.1 0 _ rfl
                  have f1 := HB3.2.1 1 _ rfl
                  have ffz := HB3.2.2
                  have fbl := HB3.1
                  have ubl := HB1.1
                  clear HB1 HB2 HB3
                  go_wp2_with fail
                  rw [← unhideI HWF]
                  clear HWF
                  have r0 := (unhideI BI0).2.1 0 _ rfl
                  have r1 := (unhideI BI0).2.1 1 _ rfl
                  have r2 := (unhideI BI0).2.1 2 _ rfl
                  have r3 := (unhideI BF0).2.1 0 _ rfl
                  have r4 := (unhideI BF0).2.1 1 _ rfl
                  have r5 := (unhideI BI0).1
                  have r6 := (unhideI BF0).1
                  exact bodyPost_ret (v := .tuple #[.agg #[.slice none 0 0, .slice none 0 0, .slice none 0 0], .agg #[.int .i64 6, .int .i64 (m : Int)]]) (by simp [results, Try.results5, go_sem, r0, r1, r2, r3, r4, r5, r6]) rfl (by rw [unhideI HLK]; exact im0_ret1 (unhideI KF0) 6 (m : Int))
                · have hK0 : (0 : Int) ≤ K := by omega
                  have hK1 : K < (us.length : Int) := unhideI RFN
                  have HE5 : Hid ((if (ordU us (m : Int) (lines.drop (k + 1)) (addO o2 K)).1 = true then ordR us f (i + 1) (ordU us (m : Int) (lines.drop (k + 1)) (addO o2 K)).2 else ([], 6, (m : Int))) = R) := by
                    have := unhideI HE4
                    rw [unhideI HYE (by omega)] at this
                    exact this
                  clear HE4 HNO HYE HRF HHO OWA WH e0 ubl p5 pbl u1 ubl2 OB10 LS10 BX10 HL10 LSq hKn
                  have hKn : ¬ K < 0 := by omega
                  have hqb := (unhideI OBq).box.2.1 0 _ rfl
                  have hqbl := (unhideI OBq).box.1
                  have hqfz := (unhideI OBq).box.2.2
                  have OIq : Hid (Ints wq (.slice oo2 o2.length oc2) o2) := Lies.owned (unhideI OBq).own
                  obtain ⟨oo', oc', heq, homax2, hoat2⟩ := (unhideI OIq).at
                  injection heq with q1 q2 q3
                  subst q1
                  have HOQ := hideI hoat2
                  clear hoat2 OIq q2 q3
                  unfold maxLen at homax2
                  go_wp2_with fail
                  go_loopg [15, 114] o2.length (fun g b t ws => ∃ (j : Nat), j ≤ o2.length ∧ g = o2.length - j ∧ t = .int .i64 (j : Int) ∧ b = .bool ((o2.take j).any (fun q => q == K)) ∧ ws = wq)
                  case atStart => exact ⟨0, Nat.zero_le _, rfl, rfl, by simp, rfl⟩
                  case round =>
                    obtain ⟨j, hj, hgj, rfl, rfl, rfl⟩ := hrel
                    by_cases hjl : j < o2.length
                    · have hjI : (j : Int) < (o2.length : Int) := by omega
                      obtain ⟨gb2, gof2, rfl, hgb2, hgc2⟩ := (unhideI HOQ) (by intro h; rw [h] at hjl; simp at hjl)
                      have cj := hgc2 j hjl
                      have hany : (o2.take (j + 1)).any (fun q => q == K) = ((o2.take j).any (fun q => q == K) || (o2[j] == K)) := by
                        rw [List.take_add_one, List.getElem?_eq_getElem hjl, Option.toList_some, List.any_append]; simp
                      have HAN := hideI hany
                      clear hgc2 hany
                      generalize o2[j] = q at *
                      cases hb : (o2.take j).any (fun q => q == K) with
                      | true =>
                        rw [hb] at HAN
                        go_wp2_with fail
                        go_roundg (o2.length - (j + 1))
                        case measure => omega
                        case rel => exact ⟨j + 1, by omega, rfl, by go_num, by rw [unhideI HAN]; rfl, rfl⟩
                      | false =>
                        rw [hb] at HAN
                        go_wp2_with fail
                        go_roundg (o2.length - (j + 1))
                        case measure => omega
                        case rel => exact ⟨j + 1, by omega, rfl, by go_num, by rw [unhideI HAN]; rfl, rfl⟩
                    · have hjI : ¬ (j : Int) < (o2.length : Int) := by omega
                      have htk : o2.take j = o2 := List.take_of_length_le (by omega)
                      rw [htk]
                      clear htk
                      cases hb : o2.any (fun q => q == K) with
                      | true =>
                        have HE6 : Hid ((if (ordU us (m : Int) (lines.drop (k + 1)) o2).1 = true then ordR us f (i + 1) (ordU us (m : Int) (lines.drop (k + 1)) o2).2 else ([], 6, (m : Int))) = R) := by
                          have := unhideI HE5
                          unfold addO at this
                          rw [if_pos hb] at this
                          exact this
                        clear HE5
                        go_wp2_with fail
                        go_roundg (lines.length - (k + 1))
                        case measure => omega
                        case rel => exact ⟨k + 1, o2, _, by omega, rfl, by go_num, hio, OBq, HE6⟩
                      | false =>
                        have HE6 : Hid ((if (ordU us (m : Int) (lines.drop (k + 1)) (o2 ++ [K])).1 = true then ordR us f (i + 1) (ordU us (m : Int) (lines.drop (k + 1)) (o2 ++ [K])).2 else ([], 6, (m : Int))) = R) := by
                          have := unhideI HE5
                          rw [show addO o2 K = o2 ++ [K] by unfold addO; rw [if_neg (by simp [hb])]] at this
                          exact this
                        have hod := (unhideI OBq).odr.add hK0 hK1 hb
                        have HOD := hideI hod
                        have hfw := hod.few
                        simp only [List.length_append, List.length_cons, List.length_nil] at hfw
                        have hsz := (unhideI OBq).bel.size
                        have OWQ := hideI (unhideI OBq).own
                        have BQ := hideI (unhideI OBq).box
                        have NEQ := hideI (unhideI OBq).ne
                        have BLQ := hideI (unhideI OBq).bel
                        clear HE5 hod
                        go_wp2_with (at_builtin; refine wpList_append_lies _ rfl (.tmp 127) (.tmp 129) 23 rfl w6.heap.size 3 t0 (.int .i64 0) 1 8 Try.underlying23 hi0 hz0 hz1 hz2 rfl (by decide) _ _ _ rfl ((unhideI OWQ).alloc _) ⟨_, 0, none⟩ 1 1 [.int .i64 K] rfl rfl (one_c1 _ _ _) (one_c2 _ _) (by decide) (by unfold maxLen; omega) (by omega) (by simp; omega) _ rfl ?_; intro g5 cap5 w15 own5 grow5 at5 hgl5; have O5 := hideI (show w15.ownsRow w6.heap.size 3 1 (.slice (some ⟨g5, 0, none⟩) (o2.length + 1) cap5) (o2 ++ [K]).length ((o2 ++ [K]).map int1) by rw [List.map_append, List.length_append]; exact own5); have B5 := hideI (((unhideI BQ).step (below_a _ _)).kpt (Kpt.grown (X := fun c => (Value.slice oo2 o2.length oc2).ownBlock = some c) grow5 (fun _ h => h)) (unhideI NEQ)); have K5 := hideI (below_own ((unhideI BLQ).alloc (by omega) _) (by simp; omega) ((unhideI OWQ).alloc _) grow5); have A5 : Hid ((Value.slice oo2 o2.length oc2).ownBlock = some g5 ∨ g5 = wr.heap.size + 1) := at5.imp id (fun h => h.trans (by simp)); have z0 := (unhideI B5).2.1 0 _ rfl; have z1 := (unhideI B5).2.2; have z2 := (unhideI B5).1; clear own5 grow5 at5)
                        have N5 : (Value.slice (some ⟨g5, 0, none⟩) (o2.length + 1) cap5).ownBlock ≠ some (w6.heap.size + 1) := by
                          intro h
                          have h2 : g5 = w6.heap.size + 1 := Option.some.inj h
                          rcases unhideI A5 with h3 | h3
                          · exact unhideI NEQ (h3.trans (by rw [h2]))
                          · omega
                        have OBn : Hid (OrdAt us w6 (o2 ++ [K]) (.slice (some ⟨g5, 0, none⟩) (o2.length + 1) cap5) (w15.setCell ⟨w6.heap.size + 1, 0, none⟩ (.slice (some ⟨g5, 0, none⟩) (o2.length + 1) cap5))) := ⟨(unhideI B5).set (j := 0) (u := .slice (some ⟨g5, 0, none⟩) (o2.length + 1) cap5) (by simp), ownsRow_setCell_other (unhideI O5) (a := ⟨w6.heap.size + 1, 0, none⟩) N5 _, N5, (unhideI K5).setCell (by simp) _, unhideI HOD⟩
                        go_roundg (lines.length - (k + 1))
                        case measure => omega
                        case rel => exact ⟨k + 1, o2 ++ [K], _, by omega, rfl, by go_num, by simp; omega, OBn, HE6⟩
          · have hkI : ¬ (k : Int) < (lines.length : Int) := by omega
            have hE := unhideI HE4
            rw [List.drop_eq_nil_of_le (by omega)] at hE
            have HE5 : Hid (ordR us (400 - (i + 1)) (i + 1) o2 = R) := by rw [← hE, hfi]; rfl
            clear hE HE4
            go_wp2_with fail
            go_roundg (400 - (i + 1))
            case measure => omega
            case rel => exact ⟨i + 1, o2, _, by omega, rfl, by go_num, OB, HE5⟩
    · have hil : ¬ (i : Int) < (o.length : Int) := by omega
      have hie : o.length ≤ i := by omega
      have hE := unhideI HE
      rw [ordR_end hie] at hE
      have HLK : Hid (LK = (⟨imgW us o (begL us o 0) o (begL us o 0), o, imgS us o (begL us o 0) o (begL us o 0)⟩, 0, 0)) := by
        show LK = _
        rw [unhideI HLK0, ← hE]; rfl
      have BG := hideI (begin5_any us (.slice ao us.length cap) o (.slice oo o.length oc) wr (unhideI LSW).un (unhideI OI) (unhideI OA).odr.rg (unhideI HLE) (by omega))
      have hbl := begL_len us o 0
      have hbin := begL_in (unhideI HLE) (o := o) (by omega)
      have HBI := hideI hbin
      have hrg := hideI (unhideI OA).odr.rg
      generalize hbeq : begL us o 0 = b at *
      have HBQ := hideI hbeq
      have HBL := hideI hbl
      clear hE HE HLK0 hbin hbeq hbl
      go_wp2_with fail
      refine (unhideI BG).mono ?_
      rintro e w11 ⟨vb, rfl, IB, k11⟩
      rw [unhideI HBQ] at IB
      clear HBQ
      have OA11 := hideI ((unhideI OA).step k11)
      have LS11 := hideI ((unhideI LSW).step k11)
      have OI11 := hideI ((unhideI OI).step k11)
      obtain ⟨bo, bcap, rfl, hbmax, hbat⟩ := IB.at
      have IB11 := hideI IB
      have HBA := hideI hbat
      clear k11 BG OA LSW OI e0 ubl ob0 obl hbat IB
      have ob0 := (unhideI OA11).box.2.1 0 _ rfl
      have obl := (unhideI OA11).box.1
      have e0 := (unhideI LS11).bu.2.1 0 _ rfl
      have ubl := (unhideI LS11).bu.1
      have obl2 : w6.heap.size < w11.heap.size := by omega
      have obl3 : w6.heap.size + 1 < w11.heap.size + 1 := by omega
      have IM := hideI (ImgAt.start w11 (.slice oo o.length oc) (.slice bo b.length bcap))
      go_wp2_with fail
      generalize (w11.alloc (.cells #[.slice bo b.length bcap] 23)).alloc (.cells #[.slice none 0 0, .slice oo o.length oc, .slice none 0 0] 26) = w13 at *
      have PLC := hideI (fun (s : ByteArray) (m : Nat) (a : Int) (W : World) (out : List Int) (sp : List (ByteArray × Int)) (vw vs : Value) (im : ImgAt w11 (.slice oo o.length oc) (.slice bo b.length bcap) out sp vw vs W) (hm : m < us.length) (ha : 0 ≤ a ∧ a ≤ 100000000) => place_any us o b (.slice ao us.length cap) (.slice oo o.length oc) (.slice bo b.length bcap) w.heap.size (w6.heap.size + 1) w11.heap.size s m a W ((unhideI LS11).un.step im.bel) ((unhideI OI11).step im.bel) ((unhideI IB11).step im.bel) ((unhideI LS11).bu.step im.bel) ((unhideI OA11).box.step im.bel) im.bb hm ha (unhideI HLE) (unhideI HBL) (unhideI HBI) (unhideI hrg))
      have hof4 : o.length ≤ 400 := by omega
      clear ob0 obl e0 ubl obl2 obl3
      generalize hIW : imgW us o b o b = IW at *
      generalize hIS : imgS us o b o b = IS at *
      have HIW : Hid ([] ++ imgW us o b (o.drop 0) (b.drop 0) = IW) := hIW
      have HIS : Hid ([] ++ imgS us o b (o.drop 0) (b.drop 0) = IS) := hIS
      obtain ⟨oo', oc', heq, homax, hoat⟩ := (unhideI OI11).at
      injection heq with q1 q2 q3
      subst q1
      have HOA := hideI hoat
      clear hIW hIS hoat q2 q3 homax hbmax
      go_loopg [140] o.length (fun g t ws => ∃ (j : Nat) (out : List Int) (sp : List (ByteArray × Int)) (vw vs : Value), j ≤ o.length ∧ g = o.length - j ∧ t = .int .i64 (j : Int) ∧ out.length ≤ 80000 * j ∧ sp.length ≤ 40000 * j ∧ Hid (ImgAt w11 (.slice oo o.length oc) (.slice bo b.length bcap) out sp vw vs ws) ∧ Hid (out ++ imgW us o b (o.drop j) (b.drop j) = IW) ∧ Hid (sp ++ imgS us o b (o.drop j) (b.drop j) = IS))
      case atStart => exact ⟨0, [], [], _, _, Nat.zero_le _, rfl, rfl, by simp, by simp, IM, HIW, HIS⟩
      case round =>
        obtain ⟨j, out, sp, vw, vs, hj, hgj, rfl, hol, hsl, IMJ, HW, HS⟩ := hrel
        clear HIW HIS IM
        by_cases hjl : j < o.length
        · have hjI : (j : Int) < (o.length : Int) := by omega
          have hjb : j < b.length := by have := unhideI HBL; omega
          have hjbI : (j : Int) < (b.length : Int) := by omega
          obtain ⟨gb, gof, rfl, hgb, hgc⟩ := (unhideI HOA) (by intro h; rw [h] at hjl; simp at hjl)
          have co := cell_keep (unhideI IMJ).bel hgb (hgc j hjl)
          obtain ⟨bb, bof, rfl, hbb, hbc⟩ := (unhideI HBA) (by intro h; rw [h] at hjb; simp at hjb)
          have CB := hideI (hbc j hjb)
          have hri := unhideI hrg _ (List.getElem_mem hjl)
          have hbi := unhideI HBI _ (List.getElem_mem hjb)
          have hE := unhideI HW
          have hE2 := unhideI HS
          rw [List.drop_eq_getElem_cons hjl, List.drop_eq_getElem_cons hjb] at hE hE2
          rw [imgW] at hE
          rw [imgS] at hE2
          generalize o[j] = x at *
          generalize b[j] = a at *
          obtain ⟨m, rfl⟩ : ∃ m : Nat, x = m := ⟨x.toNat, by omega⟩
          have hm : m < us.length := by omega
          have hmI : (m : Int) < (us.length : Int) := by omega
          rw [uLn_at hm] at hE hE2
          have HW0 := hideI hE
          have HS0 := hideI hE2
          clear hgc hbc hE hE2 HW HS
          obtain ⟨ub, uof, cap', vl, heq, hmax', hubl, u0, u1, uL⟩ := uns_at (unhideI LS11).un hm
          injection heq with q1 q2 q3
          subst q1
          obtain ⟨lo, lc, rfl, hlmax, hlat⟩ := uL.at
          have HLA := hideI hlat
          replace u1 := cell_keep (unhideI IMJ).bel hubl u1
          have hll := unhideI HLE _ (List.getElem_mem hm)
          clear uL hlat hmax' q2 q3 u0
          generalize (us[m]'hm).lines = lines at *
          have LSJ := hideI ((unhideI LS11).step (unhideI IMJ).bel)
          have e0 := (unhideI LSJ).bu.2.1 0 _ rfl
          have HW1 : Hid (out ++ (wdR us o b (m : Int) a (lines.drop 0) ++ imgW us o b (o.drop (j + 1)) (b.drop (j + 1))) = IW) := HW0
          have HS1 : Hid (sp ++ (spR us o b (m : Int) a (lines.drop 0) ++ imgS us o b (o.drop (j + 1)) (b.drop (j + 1))) = IS) := HS0
          clear HW0 HS0
          go_wp2_with fail
          go_loopg [151] lines.length (fun g t ws => ∃ (k : Nat) (out2 : List Int) (sp2 : List (ByteArray × Int)) (vw2 vs2 : Value), k ≤ lines.length ∧ g = lines.length - k ∧ t = .int .i64 (k : Int) ∧ out2.length ≤ 80000 * j + 2 * k ∧ sp2.length ≤ 40000 * j + k ∧ Hid (ImgAt w11 (.slice (some ⟨gb, gof, none⟩) o.length oc) (.slice (some ⟨bb, bof, none⟩) b.length bcap) out2 sp2 vw2 vs2 ws) ∧ Hid (out2 ++ (wdR us o b (m : Int) a (lines.drop k) ++ imgW us o b (o.drop (j + 1)) (b.drop (j + 1))) = IW) ∧ Hid (sp2 ++ (spR us o b (m : Int) a (lines.drop k) ++ imgS us o b (o.drop (j + 1)) (b.drop (j + 1))) = IS))
          case atStart => exact ⟨0, out, sp, vw, vs, Nat.zero_le _, rfl, rfl, by omega, by omega, IMJ, HW1, HS1⟩
          case round =>
            obtain ⟨k, out2, sp2, vw2, vs2, hk, hgk, rfl, hol2, hsl2, IMK, HW2, HS2⟩ := hrel
            clear HW1 HS1 IMJ LSJ e0 u1 co
            by_cases hkl : k < lines.length
            · have hkI : (k : Int) < (lines.length : Int) := by omega
              obtain ⟨wo, wc, rfl⟩ := own_slice (unhideI IMK).ow
              obtain ⟨so, sc, rfl⟩ := own_slice (unhideI IMK).os
              obtain ⟨b2, off2, rfl, hbw2, hc2⟩ := (unhideI HLA) (by intro h; rw [h] at hkl; simp at hkl)
              obtain ⟨d0, d1, d2, d3, d4, d5⟩ := hc2 k hkl
              replace d0 := cell_keep (unhideI IMK).bel hbw2 d0
              replace d1 := cell_keep (unhideI IMK).bel hbw2 d1
              replace d2 := cell_keep (unhideI IMK).bel hbw2 d2
              replace d3 := cell_keep (unhideI IMK).bel hbw2 d3
              replace d4 := cell_keep (unhideI IMK).bel hbw2 d4
              replace d5 := cell_keep (unhideI IMK).bel hbw2 d5
              have hd := drop_at lines k hkl
              generalize lines[k] = x at *
              obtain ⟨lab, ⟨op, d, sr, mm⟩, ref⟩ := x
              have HD := hideI hd
              clear hc2 hd
              dsimp only at *
              have KA := hideI (below_a wr (.cells #[.string lab, .int .i64 op, .int .i64 d, .int .i64 sr, .int .i64 mm, .string ref] 54))
              have IMA := hideI ((unhideI IMK).step (unhideI KA))
              have BX := hideI (Box.new wr #[.string lab, .int .i64 op, .int .i64 d, .int .i64 sr, .int .i64 mm, .string ref] 54)
              have hws : ∀ c, (Value.slice so sp2.length sc).ownBlock = some c → w11.heap.size + 2 ≤ c ∧ c < wr.heap.size := fun c hc => (unhideI IMK).os.lt c hc
              have HWS := hideI hws
              have hLb : w11.heap.size + 2 ≤ wr.heap.size := (unhideI IMK).sz
              clear hws
              by_cases he : emp lab = true
              · have he' : lab.toList.isEmpty = true := he
                have HS3 : Hid (sp2 ++ (spR us o b (m : Int) a (lines.drop (k + 1)) ++ imgS us o b (o.drop (j + 1)) (b.drop (j + 1))) = IS) := by
                  show _ = IS
                  rw [← unhideI HS2, unhideI HD, spR, if_pos he]; rfl
                have HWE : Hid ((out2 ++ (encA [insR us o b (m : Int) a ⟨lab, ⟨op, d, sr, mm⟩, ref⟩]).1) ++ (wdR us o b (m : Int) a (lines.drop (k + 1)) ++ imgW us o b (o.drop (j + 1)) (b.drop (j + 1))) = IW) := by
                  show _ = IW
                  rw [← unhideI HW2, unhideI HD, wdR, if_pos he]; simp
                clear HW2 HS2 HD he
                have hwn : ∀ c, wr.heap.size ≤ c → (Value.slice wo out2.length wc).ownBlock ≠ some c ∧ (Value.slice so sp2.length sc).ownBlock ≠ some c := fun c hc => ⟨fun h => by have := ((unhideI IMK).ow.lt c h).2; omega, fun h => by have := ((unhideI IMK).os.lt c h).2; omega⟩
                have HWN := hideI hwn
                clear hwn
                have q0 := (unhideI BX).2.1 0 _ rfl
                have q1 := (unhideI BX).2.1 1 _ rfl
                have q2 := (unhideI BX).2.1 2 _ rfl
                have q3 := (unhideI BX).2.1 3 _ rfl
                have q4 := (unhideI BX).2.1 4 _ rfl
                have q5 := (unhideI BX).2.1 5 _ rfl
                have qbl := (unhideI BX).1
                have hsa : (wr.alloc (.cells #[.string lab, .int .i64 op, .int .i64 d, .int .i64 sr, .int .i64 mm, .string ref] 54)).heap.size = wr.heap.size + 1 := by simp
                have bi := Box.new (wr.alloc (.cells #[.string lab, .int .i64 op, .int .i64 d, .int .i64 sr, .int .i64 mm, .string ref] 54)) #[.int .i64 op, .int .i64 d, .int .i64 sr, .int .i64 mm] 52
                have ki := below_a (wr.alloc (.cells #[.string lab, .int .i64 op, .int .i64 d, .int .i64 sr, .int .i64 mm, .string ref] 54)) (.cells #[.int .i64 op, .int .i64 d, .int .i64 sr, .int .i64 mm] 52)
                rw [hsa] at bi
                have IMI := hideI ((unhideI IMA).step ki)
                have BXI := hideI ((unhideI BX).step ki)
                have BI := hideI bi
                clear bi ki hsa KA IMA BX
                by_cases hr : emp ref = true
                · have hr' : ref.toList.isEmpty = true := hr
                  have HW3 : Hid ((out2 ++ (encA [⟨op, d, sr, mm⟩]).1) ++ (wdR us o b (m : Int) a (lines.drop (k + 1)) ++ imgW us o b (o.drop (j + 1)) (b.drop (j + 1))) = IW) := by
                    have := unhideI HWE
                    unfold insR at this
                    rw [if_pos hr] at this
                    exact this
                  clear HWE hr BXI
                  go_upto_region 48 with fail
                  generalize (wr.alloc (.cells #[.string lab, .int .i64 op, .int .i64 d, .int .i64 sr, .int .i64 mm, .string ref] 54)).alloc (.cells #[.int .i64 op, .int .i64 d, .int .i64 sr, .int .i64 mm] 52) = wi at *
                  clear d0 d1 d2 d3 d4 d5 q0 q1 q2 q3 q4 q5 qbl
                  have EN := hideI (fun v w h => rencode_any [⟨op, d, sr, mm⟩] v w h)
                  have hel := enc1_len ⟨op, d, sr, mm⟩
                  have LI := hideI (inss_one wi ⟨op, d, sr, mm⟩ 52 wi.heap.size rfl)
                  generalize encA [⟨op, d, sr, mm⟩] = EE at *
                  obtain ⟨p0, p1, p2, p3⟩ := (unhideI BI).at4
                  have pbl := (unhideI BI).1
                  have ENI := hideI (unhideI EN _ _ (unhideI LI))
                  have KI := hideI (below_a wi (.cells #[.int .i64 op, .int .i64 d, .int .i64 sr, .int .i64 mm] 52))
                  clear EN LI
                  go_wp2_with fail
                  generalize wi.alloc (.cells #[.int .i64 op, .int .i64 d, .int .i64 sr, .int .i64 mm] 52) = wj at *
                  refine (unhideI ENI).mono ?_
                  rintro e w28 ⟨v28, rfl, l28, o28, k28⟩
                  have k9 := below_a w28 (.cells #[.int .i64 EE.2.1, .int .i64 (EE.2.2 : Int)] 29)
                  have L9 := hideI (Lies.step l28 k9)
                  have IM28 := hideI ((unhideI IMI).step (bt (unhideI KI) k28))
                  have IM9 := hideI ((unhideI IM28).step k9)
                  have n0 := (unhideI IM28).box.2.1 0 _ rfl
                  have n1 := (unhideI IM28).box.1
                  have n2 := (unhideI IM28).box.2.2
                  have s9 := (unhideI IM9).sz
                  clear ENI k28 k9 l28 o28 KI IMI p0 p1 p2 p3 pbl BI
                  go_wp2_with (at_builtin; refine append_lies_at rfl (.tmp 202) (.tmp 203) 23 rfl (w11.heap.size + 2) 3 t0 (.int .i64 0) 1 8 Try.underlying23 hi0 hz0 hz1 hz2 rfl (by decide) _ _ _ rfl (unhideI IM9).ow _ EE.1.length (EE.1.map int1) rfl (unhideI L9) (ints_cells _) (by unfold maxLen; omega) (by omega) s9 ?_; intro v9 w9 own9 grow9 at9; obtain ⟨a9, c9, rfl⟩ := own_slice own9; have O9 := hideI (own_ints own9); have KG := hideI (Kpt.grown (X := fun c => (Value.slice wo out2.length wc).ownBlock = some c) grow9 (fun _ h => h)); have NB := (unhideI IM9).box.kpt (unhideI KG) (fun h => by have := ((unhideI IM9).ow.lt _ h).1; omega); have m0 := NB.2.1 0 _ rfl; have m1 := NB.1; have m2 := NB.2.2; clear own9 grow9 at9 NB)
                  have IM10 := hideI ((unhideI IM9).word (l := EE.1) (unhideI KG) (unhideI O9))
                  go_roundg (lines.length - (k + 1))
                  case measure => omega
                  case rel => exact ⟨k + 1, out2 ++ EE.1, sp2, _, _, by omega, rfl, by go_num, by simp only [List.length_append]; omega, by omega, IM10, HW3, HS3⟩
                · replace hr : emp ref = false := by simpa using hr
                  have hr' : ref.toList.isEmpty = false := hr
                  have PL := hideI (fun W out sp vw vs im => unhideI PLC ref m a W out sp vw vs im hm hbi)
                  have HWV : Hid ((out2 ++ (encA [⟨op, d, sr, (plcR us o b ref.toList (m : Int) a).tmod 65536⟩]).1) ++ (wdR us o b (m : Int) a (lines.drop (k + 1)) ++ imgW us o b (o.drop (j + 1)) (b.drop (j + 1))) = IW) := by
                    have := unhideI HWE
                    unfold insR at this
                    rw [if_neg (by simp [hr])] at this
                    exact this
                  generalize plcR us o b ref.toList (m : Int) a = V at *
                  clear HWE hr
                  go_upto_region 47 with fail
                  have kd : Below ((wr.alloc (.cells #[.string lab, .int .i64 op, .int .i64 d, .int .i64 sr, .int .i64 mm, .string ref] 54)).alloc (.cells #[.int .i64 op, .int .i64 d, .int .i64 sr, .int .i64 mm] 52)).heap.size ((wr.alloc (.cells #[.string lab, .int .i64 op, .int .i64 d, .int .i64 sr, .int .i64 mm, .string ref] 54)).alloc (.cells #[.int .i64 op, .int .i64 d, .int .i64 sr, .int .i64 mm] 52)) ((wr.alloc (.cells #[.string lab, .int .i64 op, .int .i64 d, .int .i64 sr, .int .i64 mm, .string ref] 54)).alloc (.cells #[.int .i64 op, .int .i64 d, .int .i64 sr, .int .i64 mm] 52)).drew := (Below.refl _ _).drew
                  have IMD := hideI ((unhideI IMI).step kd)
                  have BXD := hideI ((unhideI BXI).step kd)
                  have BID := hideI ((unhideI BI).step kd)
                  clear kd IMI BXI BI q0 q1 q2 q3 q4 q5 qbl d0 d1 d2 d3 d4 d5
                  refine reg_start (fun W => W.cell? ⟨wr.heap.size, 5, none⟩ = some (.string ref) ∧ W.cell? ⟨w11.heap.size, 0, none⟩ = some (.slice (some ⟨bb, bof, none⟩) b.length bcap) ∧ W.cell? ⟨bb, bof + j, none⟩ = some (.int .i64 a)) (by kernel_rfl) ?_
                  generalize ((wr.alloc (.cells #[.string lab, .int .i64 op, .int .i64 d, .int .i64 sr, .int .i64 mm, .string ref] 54)).alloc (.cells #[.int .i64 op, .int .i64 d, .int .i64 sr, .int .i64 mm] 52)).drew = wd at *
                  have hcl : ∀ W out sp vw vs, ImgAt w11 (.slice (some ⟨gb, gof, none⟩) o.length oc) (.slice (some ⟨bb, bof, none⟩) b.length bcap) out sp vw vs W → Box W wr.heap.size [.string lab, .int .i64 op, .int .i64 d, .int .i64 sr, .int .i64 mm, .string ref] → W.cell? ⟨wr.heap.size, 5, none⟩ = some (.string ref) ∧ W.cell? ⟨w11.heap.size, 0, none⟩ = some (.slice (some ⟨bb, bof, none⟩) b.length bcap) ∧ W.cell? ⟨bb, bof + j, none⟩ = some (.int .i64 a) := fun W _ _ _ _ im bx => ⟨bx.2.1 5 _ rfl, im.bb.2.1 0 _ rfl, cell_keep im.bel hbb (unhideI CB)⟩
                  have HCL := hideI hcl
                  clear hcl
                  refine reg_seg 0 8 4 (by kernel_rfl) (by decide) (by kernel_rfl) (by kernel_rfl) (fun _ _ _ _ _ h => h) ?_
                  simp only [List.take_succ_cons, List.take_zero, List.drop_succ_cons, List.drop_zero]
                  repeat (refine wpSteady_step (fun K hK => ?_); go_simp; first | (refine steady_of ?_ (fun W hW => ?_) (hK _ ?_); rotate_left; (obtain ⟨hcW, hcX, hcY⟩ := hW; go_simp; first | done | rfl); clear hK K) | (refine hK _ ?_; clear hK K))
                  refine wpSteady_nil ?_
                  have hC0 := unhideI HCL wd _ _ _ _ (unhideI IMD) (unhideI BXD)
                  refine reg_one 8 3 (by kernel_rfl) (by kernel_rfl) hC0 ?_
                  simp only [List.take_succ_cons, List.take_zero, List.drop_succ_cons, List.drop_zero]
                  go_wp2_with fail
                  refine (unhideI PL _ _ _ _ _ (unhideI IMD)).mono ?_
                  rintro e w31 ⟨rfl, k31⟩
                  have IM31 := hideI ((unhideI IMD).step k31)
                  have BX31 := hideI ((unhideI BXD).step k31)
                  have BI31 := hideI ((unhideI BID).step k31)
                  have hC1 := unhideI HCL w31 _ _ _ _ (unhideI IM31) (unhideI BX31)
                  clear k31 IMD BXD BID hC0 PL
                  have z0 := (unhideI BI31).2.1 3 _ rfl
                  have z1 := (unhideI BI31).1
                  have z2 := (unhideI BI31).2.2
                  go_wp2_with fail
                  first | refine next_nil ?_ | refine next_go ?_
                  refine reg_seg 9 1 2 (by kernel_rfl) (by decide) (by kernel_rfl) (by kernel_rfl) (fun _ _ _ _ _ h => h) ?_
                  simp only [List.take_succ_cons, List.take_zero, List.drop_succ_cons, List.drop_zero]
                  repeat (refine wpSteady_step (fun K hK => ?_); go_simp; first | (refine steady_of ?_ (fun W hW => ?_) (hK _ ?_); rotate_left; (obtain ⟨hcW, hcX, hcY⟩ := hW; go_simp; first | done | rfl); clear hK K) | (refine hK _ ?_; clear hK K))
                  refine wpSteady_nil ?_
                  generalize V.tmod 65536 = VT at *
                  have HW3 := HWV
                  clear HWV
                  refine reg_seg 10 1 1 (by kernel_rfl) (by decide) (by kernel_rfl) (by kernel_rfl) (fun _ _ _ _ _ h => h) ?_
                  simp only [List.take_succ_cons, List.take_zero, List.drop_succ_cons, List.drop_zero]
                  repeat (refine wpSteady_step (fun K hK => ?_); go_simp; first | (refine steady_of ?_ (fun W hW => ?_) (hK _ ?_); rotate_left; (obtain ⟨hcW, hcX, hcY⟩ := hW; go_simp; first | done | rfl); clear hK K) | (refine hK _ ?_; clear hK K))
                  refine wpSteady_nil ?_
                  refine reg_one 11 0 (by kernel_rfl) (by kernel_rfl) hC1 ?_
                  simp only [List.take_succ_cons, List.take_zero, List.drop_succ_cons, List.drop_zero]
                  go_wp2_with fail
                  first | refine next_nil ?_ | refine next_go ?_
                  have hnw := unhideI HWN (wr.heap.size + 1) (by omega)
                  have IMI := hideI ((unhideI IM31).put (c := wr.heap.size + 1) (j := 3) (.int .i64 VT) (by omega) hnw.1 hnw.2)
                  have BX33 := hideI ((unhideI BX31).other (b' := wr.heap.size + 1) (j := 3) (u := .int .i64 VT) (by omega))
                  have BI : Hid (Box (w31.setCell ⟨wr.heap.size + 1, 3, none⟩ (.int .i64 VT)) (wr.heap.size + 1) [.int .i64 op, .int .i64 d, .int .i64 sr, .int .i64 VT]) := (unhideI BI31).set (j := 3) (u := .int .i64 VT) (by simp)
                  have hC4 := unhideI HCL _ _ _ _ _ (unhideI IMI) (unhideI BX33)
                  refine reg_end (by kernel_rfl) hC4 ?_
                  clear hC1 hC4 z0 z1 z2 IM31 BX31 BI31 BX33 HCL hnw
                  go_upto_region 48 with fail
                  generalize w31.setCell ⟨wr.heap.size + 1, 3, none⟩ (.int .i64 VT) = wi at *
                  have EN := hideI (fun v w h => rencode_any [⟨op, d, sr, VT⟩] v w h)
                  have hel := enc1_len ⟨op, d, sr, VT⟩
                  have LI := hideI (inss_one wi ⟨op, d, sr, VT⟩ 52 wi.heap.size rfl)
                  generalize encA [⟨op, d, sr, VT⟩] = EE at *
                  obtain ⟨p0, p1, p2, p3⟩ := (unhideI BI).at4
                  have pbl := (unhideI BI).1
                  have ENI := hideI (unhideI EN _ _ (unhideI LI))
                  have KI := hideI (below_a wi (.cells #[.int .i64 op, .int .i64 d, .int .i64 sr, .int .i64 VT] 52))
                  clear EN LI
                  go_wp2_with fail
                  generalize wi.alloc (.cells #[.int .i64 op, .int .i64 d, .int .i64 sr, .int .i64 VT] 52) = wj at *
                  refine (unhideI ENI).mono ?_
                  rintro e w28 ⟨v28, rfl, l28, o28, k28⟩
                  have k9 := below_a w28 (.cells #[.int .i64 EE.2.1, .int .i64 (EE.2.2 : Int)] 29)
                  have L9 := hideI (Lies.step l28 k9)
                  have IM28 := hideI ((unhideI IMI).step (bt (unhideI KI) k28))
                  have IM9 := hideI ((unhideI IM28).step k9)
                  have n0 := (unhideI IM28).box.2.1 0 _ rfl
                  have n1 := (unhideI IM28).box.1
                  have n2 := (unhideI IM28).box.2.2
                  have s9 := (unhideI IM9).sz
                  clear ENI k28 k9 l28 o28 KI IMI p0 p1 p2 p3 pbl BI
                  go_wp2_with (at_builtin; refine append_lies_at rfl (.tmp 202) (.tmp 203) 23 rfl (w11.heap.size + 2) 3 t0 (.int .i64 0) 1 8 Try.underlying23 hi0 hz0 hz1 hz2 rfl (by decide) _ _ _ rfl (unhideI IM9).ow _ EE.1.length (EE.1.map int1) rfl (unhideI L9) (ints_cells _) (by unfold maxLen; omega) (by omega) s9 ?_; intro v9 w9 own9 grow9 at9; obtain ⟨a9, c9, rfl⟩ := own_slice own9; have O9 := hideI (own_ints own9); have KG := hideI (Kpt.grown (X := fun c => (Value.slice wo out2.length wc).ownBlock = some c) grow9 (fun _ h => h)); have NB := (unhideI IM9).box.kpt (unhideI KG) (fun h => by have := ((unhideI IM9).ow.lt _ h).1; omega); have m0 := NB.2.1 0 _ rfl; have m1 := NB.1; have m2 := NB.2.2; clear own9 grow9 at9 NB)
                  have IM10 := hideI ((unhideI IM9).word (l := EE.1) (unhideI KG) (unhideI O9))
                  go_roundg (lines.length - (k + 1))
                  case measure => omega
                  case rel => exact ⟨k + 1, out2 ++ EE.1, sp2, _, _, by omega, rfl, by go_num, by simp only [List.length_append]; omega, by omega, IM10, HW3, HS3⟩
              · replace he : emp lab = false := by simpa using he
                have he' : lab.toList.isEmpty = false := he
                have HW3 : Hid (out2 ++ (wdR us o b (m : Int) a (lines.drop (k + 1)) ++ imgW us o b (o.drop (j + 1)) (b.drop (j + 1))) = IW) := by
                  show _ = IW
                  rw [← unhideI HW2, unhideI HD, wdR, if_neg (by simp [he])]; rfl
                have OWA := hideI (fun W => own5_any lab W)
                by_cases how : ownK lab.toList = true
                · rw [how] at OWA
                  have HS3 : Hid (sp2 ++ (spR us o b (m : Int) a (lines.drop (k + 1)) ++ imgS us o b (o.drop (j + 1)) (b.drop (j + 1))) = IS) := by
                    show _ = IS
                    rw [← unhideI HS2, unhideI HD, spR, if_neg (by simp [he]), if_pos how]; rfl
                  clear HW2 HS2 HD he
                  have p0 := (unhideI BX).2.1 0 _ rfl
                  go_wp2_with fail
                  refine (unhideI OWA _).mono ?_
                  rintro e w20 ⟨rfl, hw20⟩
                  subst w20
                  go_wp2_with fail
                  go_roundg (lines.length - (k + 1))
                  case measure => omega
                  case rel => exact ⟨k + 1, out2, sp2, _, _, by omega, rfl, by go_num, by omega, by omega, IMA, HW3, HS3⟩
                · replace how : ownK lab.toList = false := by simpa using how
                  rw [how] at OWA
                  have HS3 : Hid ((sp2 ++ [(lab, plcR us o b lab.toList (m : Int) a)]) ++ (spR us o b (m : Int) a (lines.drop (k + 1)) ++ imgS us o b (o.drop (j + 1)) (b.drop (j + 1))) = IS) := by
                    show _ = IS
                    rw [← unhideI HS2, unhideI HD, spR, if_neg (by simp [he]), if_neg (by simp [how])]; simp
                  have PL := hideI (fun W out sp vw vs im => unhideI PLC lab m a W out sp vw vs im hm hbi)
                  generalize plcR us o b lab.toList (m : Int) a = V at *
                  clear HW2 HS2 HD he
                  have p0 := (unhideI BX).2.1 0 _ rfl
                  go_wp2_with fail
                  refine (unhideI OWA _).mono ?_
                  rintro e w20 ⟨rfl, hw20⟩
                  subst w20
                  clear d0 d1 d2 d3 d4 d5 OWA p0
                  go_upto_region 44 with fail
                  have kd : Below (wr.alloc (.cells #[.string lab, .int .i64 op, .int .i64 d, .int .i64 sr, .int .i64 mm, .string ref] 54)).heap.size (wr.alloc (.cells #[.string lab, .int .i64 op, .int .i64 d, .int .i64 sr, .int .i64 mm, .string ref] 54)) (wr.alloc (.cells #[.string lab, .int .i64 op, .int .i64 d, .int .i64 sr, .int .i64 mm, .string ref] 54)).drew := (Below.refl _ _).drew
                  have IMD := hideI ((unhideI IMA).step kd)
                  have BXD := hideI ((unhideI BX).step kd)
                  clear kd KA IMA BX
                  refine reg_start (fun W => W.cell? ⟨wr.heap.size, 0, none⟩ = some (.string lab) ∧ W.cell? ⟨w11.heap.size, 0, none⟩ = some (.slice (some ⟨bb, bof, none⟩) b.length bcap) ∧ W.cell? ⟨bb, bof + j, none⟩ = some (.int .i64 a)) (by kernel_rfl) ?_
                  generalize (wr.alloc (.cells #[.string lab, .int .i64 op, .int .i64 d, .int .i64 sr, .int .i64 mm, .string ref] 54)).drew = wd at *
                  have hcl : ∀ W out sp vw vs, ImgAt w11 (.slice (some ⟨gb, gof, none⟩) o.length oc) (.slice (some ⟨bb, bof, none⟩) b.length bcap) out sp vw vs W → Box W wr.heap.size [.string lab, .int .i64 op, .int .i64 d, .int .i64 sr, .int .i64 mm, .string ref] → W.cell? ⟨wr.heap.size, 0, none⟩ = some (.string lab) ∧ W.cell? ⟨w11.heap.size, 0, none⟩ = some (.slice (some ⟨bb, bof, none⟩) b.length bcap) ∧ W.cell? ⟨bb, bof + j, none⟩ = some (.int .i64 a) := fun W _ _ _ _ im bx => ⟨bx.2.1 0 _ rfl, im.bb.2.1 0 _ rfl, cell_keep im.bel hbb (unhideI CB)⟩
                  have HCL := hideI hcl
                  clear hcl
                  have n0 := (unhideI IMD).box.2.1 2 _ rfl
                  have n1 := (unhideI IMD).box.1
                  have n2 := (unhideI IMD).box.2.2
                  refine reg_seg 0 1 17 (by kernel_rfl) (by decide) (by kernel_rfl) (by kernel_rfl) (fun _ _ _ _ _ h => h) ?_
                  simp only [List.take_succ_cons, List.take_zero, List.drop_succ_cons, List.drop_zero]
                  repeat (refine wpSteady_step (fun K hK => ?_); go_simp; first | (refine steady_of ?_ (fun W hW => ?_) (hK _ ?_); rotate_left; (obtain ⟨hcW, hcX, hcY⟩ := hW; go_simp; first | done | rfl); clear hK K) | (refine hK _ ?_; clear hK K))
                  refine wpSteady_nil ?_
                  refine reg_seg 2 10 7 (by kernel_rfl) (by decide) (by kernel_rfl) (by kernel_rfl) (fun _ _ _ _ _ h => h) ?_
                  simp only [List.take_succ_cons, List.take_zero, List.drop_succ_cons, List.drop_zero]
                  repeat (refine wpSteady_step (fun K hK => ?_); go_simp; first | (refine steady_of ?_ (fun W hW => ?_) (hK _ ?_); rotate_left; (obtain ⟨hcW, hcX, hcY⟩ := hW; go_simp; first | done | rfl); clear hK K) | (refine hK _ ?_; clear hK K))
                  refine wpSteady_nil ?_
                  have hC0 := unhideI HCL wd _ _ _ _ (unhideI IMD) (unhideI BXD)
                  refine reg_two 1 12 6 (by kernel_rfl) (by kernel_rfl) hC0 ?_ ?_
                  ·
                    simp only [List.take_succ_cons, List.take_zero, List.drop_succ_cons, List.drop_zero]
                    go_wp2_with fail
                    first | refine next_nil ?_ | refine next_go ?_
                    refine reg_one 12 5 (by kernel_rfl) (by kernel_rfl) hC0 ?_
                    simp only [List.take_succ_cons, List.take_zero, List.drop_succ_cons, List.drop_zero]
                    go_wp2_with fail
                    refine (unhideI PL _ _ _ _ _ (unhideI IMD)).mono ?_
                    rintro e w21 ⟨rfl, k21⟩
                    have IM21 := hideI ((unhideI IMD).step k21)
                    have BX21 := hideI ((unhideI BXD).step k21)
                    clear k21 n0 n1 n2
                    have n0 := (unhideI IM21).box.2.1 2 _ rfl
                    have n1 := (unhideI IM21).box.1
                    have n2 := (unhideI IM21).box.2.2
                    have hC1 := unhideI HCL w21 _ _ _ _ (unhideI IM21) (unhideI BX21)
                    have hbbw : bb < w21.heap.size := Nat.lt_of_lt_of_le hbb (unhideI IM21).bel.size
                    have hlbw := (unhideI BX21).1
                    go_wp2_with fail
                    first | refine next_nil ?_ | refine next_go ?_
                    refine reg_seg 13 1 4 (by kernel_rfl) (by decide) (by kernel_rfl) (by kernel_rfl) (fun _ _ _ _ _ h => h) ?_
                    simp only [List.take_succ_cons, List.take_zero, List.drop_succ_cons, List.drop_zero]
                    repeat (refine wpSteady_step (fun K hK => ?_); go_simp; first | (refine steady_of ?_ (fun W hW => ?_) (hK _ ?_); rotate_left; (obtain ⟨hcW, hcX, hcY⟩ := hW; go_simp; first | done | rfl); clear hK K) | (refine hK _ ?_; clear hK K))
                    refine wpSteady_nil ?_
                    refine reg_one 14 3 (by kernel_rfl) (by kernel_rfl) hC1 ?_
                    simp only [List.take_succ_cons, List.take_zero, List.drop_succ_cons, List.drop_zero]
                    go_wp2_with fail
                    first | refine next_nil ?_ | refine next_go ?_
                    have hC2 := unhideI HCL _ _ _ _ _ ((unhideI IM21).step (below_a w21 (.cells #[.string lab, .int .i64 V] 59))) ((unhideI BX21).step (below_a _ _))
                    refine reg_one 15 2 (by kernel_rfl) (by kernel_rfl) hC2 ?_
                    simp only [List.take_succ_cons, List.take_zero, List.drop_succ_cons, List.drop_zero]
                    refine wpList_append_lies _ rfl (.tmp 163) (.tmp 176) 24 rfl (w11.heap.size + 2) 59 s0 (.agg #[.string ⟨#[]⟩, .int .i64 0]) 2 24 Try.underlying24 hs0 hs1 hs2 hs3 rfl (by decide) _ _ _ rfl ((unhideI IM21).os.alloc _) ⟨_, 0, none⟩ 1 1 (cellsS (lab, V)) rfl rfl (cells_c1 _ (cellsS (lab, V)) _ _ rfl) (cellsS_one _) (by decide) (by unfold maxLen; omega) (by omega) (by simp; omega) _ rfl ?_
                    intro g5 cap5 w25 own5 grow5 hloc hgl
                    have KG : Kpt (fun c => (Value.slice so sp2.length sc).ownBlock = some c) w21 w25 := (Kpt.of (X := fun _ => False) (below_a w21 (.cells #[.string lab, .int .i64 V] 59))).trans (Kpt.grown (X := fun c => (Value.slice so sp2.length sc).ownBlock = some c) grow5 (fun _ h => h)) (fun _ h => h.elim) (fun _ h _ => h)
                    have hw2 := unhideI HWS
                    have BX25 := (unhideI BX21).kpt KG (fun h => by have := hw2 _ h; omega)
                    have hC3 : w25.cell? ⟨wr.heap.size, 0, none⟩ = some (.string lab) ∧ w25.cell? ⟨w11.heap.size, 0, none⟩ = some (.slice (some ⟨bb, bof, none⟩) b.length bcap) ∧ w25.cell? ⟨bb, bof + j, none⟩ = some (.int .i64 a) := ⟨BX25.2.1 0 _ rfl, ((unhideI IM21).bb.kpt KG (fun h => by have := hw2 _ h; omega)).2.1 0 _ rfl, by rw [KG.cell hbbw (fun h => by have := hw2 _ h; omega)]; exact hC1.2.2⟩
                    have IM5 := hideI ((unhideI IM21).spot (z := (lab, V)) KG (own_spot own5 rfl rfl))
                    have BX5 := hideI (BX25.other (b' := w11.heap.size + 1) (j := 2) (u := .slice (some ⟨g5, 0, none⟩) (sp2.length + 1) cap5) (by omega))
                    have NB := (unhideI IM21).box.kpt KG (fun h => by have := hw2 _ h; omega)
                    clear n0 n1 n2
                    have n0 := NB.2.1 2 _ rfl
                    have n1 := NB.1
                    have n2 := NB.2.2
                    clear own5 grow5 hloc hgl KG hw2 BX25 NB
                    go_wp2_with fail
                    first | refine next_nil ?_ | refine next_go ?_
                    refine reg_seg 16 1 1 (by kernel_rfl) (by decide) (by kernel_rfl) (by kernel_rfl) (fun _ _ _ _ _ h => h) ?_
                    simp only [List.take_succ_cons, List.take_zero, List.drop_succ_cons, List.drop_zero]
                    repeat (refine wpSteady_step (fun K hK => ?_); go_simp; first | (refine steady_of ?_ (fun W hW => ?_) (hK _ ?_); rotate_left; (obtain ⟨hcW, hcX, hcY⟩ := hW; go_simp; first | done | rfl); clear hK K) | (refine hK _ ?_; clear hK K))
                    refine wpSteady_nil ?_
                    refine reg_one 17 0 (by kernel_rfl) (by kernel_rfl) hC3 ?_
                    simp only [List.take_succ_cons, List.take_zero, List.drop_succ_cons, List.drop_zero]
                    go_wp2_with fail
                    first | refine next_nil ?_ | refine next_go ?_
                    have hC4 := unhideI HCL _ _ _ _ _ (unhideI IM5) (unhideI BX5)
                    refine reg_end (by kernel_rfl) hC4 ?_
                    clear hC1 hC2 hC3 hC4 n0 n1 n2 IM21 BX21
                    go_wp2_with fail
                    go_roundg (lines.length - (k + 1))
                    case measure => omega
                    case rel => exact ⟨k + 1, out2, sp2 ++ [(lab, V)], _, _, by omega, rfl, by go_num, by omega, by simp; omega, IM5, HW3, HS3⟩
                  ·
                    simp only [List.take_succ_cons, List.take_zero, List.drop_succ_cons, List.drop_zero]
                    go_wp2_with fail
                    refine (unhideI PL _ _ _ _ _ (unhideI IMD)).mono ?_
                    rintro e w21 ⟨rfl, k21⟩
                    have IM21 := hideI ((unhideI IMD).step k21)
                    have BX21 := hideI ((unhideI BXD).step k21)
                    clear k21 n0 n1 n2
                    have n0 := (unhideI IM21).box.2.1 2 _ rfl
                    have n1 := (unhideI IM21).box.1
                    have n2 := (unhideI IM21).box.2.2
                    have hC1 := unhideI HCL w21 _ _ _ _ (unhideI IM21) (unhideI BX21)
                    have hbbw : bb < w21.heap.size := Nat.lt_of_lt_of_le hbb (unhideI IM21).bel.size
                    have hlbw := (unhideI BX21).1
                    go_wp2_with fail
                    first | refine next_nil ?_ | refine next_go ?_
                    refine reg_seg 13 1 5 (by kernel_rfl) (by decide) (by kernel_rfl) (by kernel_rfl) (fun _ _ _ _ _ h => h) ?_
                    simp only [List.take_succ_cons, List.take_zero, List.drop_succ_cons, List.drop_zero]
                    repeat (refine wpSteady_step (fun K hK => ?_); go_simp; first | (refine steady_of ?_ (fun W hW => ?_) (hK _ ?_); rotate_left; (obtain ⟨hcW, hcX, hcY⟩ := hW; go_simp; first | done | rfl); clear hK K) | (refine hK _ ?_; clear hK K))
                    refine wpSteady_nil ?_
                    refine reg_two 1 14 4 (by kernel_rfl) (by kernel_rfl) hC1 ?_ ?_
                    ·
                      simp only [List.take_succ_cons, List.take_zero, List.drop_succ_cons, List.drop_zero]
                      go_wp2_with fail
                      first | refine next_nil ?_ | refine next_go ?_
                      refine reg_one 14 3 (by kernel_rfl) (by kernel_rfl) hC1 ?_
                      simp only [List.take_succ_cons, List.take_zero, List.drop_succ_cons, List.drop_zero]
                      go_wp2_with fail
                      first | refine next_nil ?_ | refine next_go ?_
                      have hC2 := unhideI HCL _ _ _ _ _ ((unhideI IM21).step (below_a w21 (.cells #[.string lab, .int .i64 V] 59))) ((unhideI BX21).step (below_a _ _))
                      refine reg_one 15 2 (by kernel_rfl) (by kernel_rfl) hC2 ?_
                      simp only [List.take_succ_cons, List.take_zero, List.drop_succ_cons, List.drop_zero]
                      refine wpList_append_lies _ rfl (.tmp 163) (.tmp 176) 24 rfl (w11.heap.size + 2) 59 s0 (.agg #[.string ⟨#[]⟩, .int .i64 0]) 2 24 Try.underlying24 hs0 hs1 hs2 hs3 rfl (by decide) _ _ _ rfl ((unhideI IM21).os.alloc _) ⟨_, 0, none⟩ 1 1 (cellsS (lab, V)) rfl rfl (cells_c1 _ (cellsS (lab, V)) _ _ rfl) (cellsS_one _) (by decide) (by unfold maxLen; omega) (by omega) (by simp; omega) _ rfl ?_
                      intro g5 cap5 w25 own5 grow5 hloc hgl
                      have KG : Kpt (fun c => (Value.slice so sp2.length sc).ownBlock = some c) w21 w25 := (Kpt.of (X := fun _ => False) (below_a w21 (.cells #[.string lab, .int .i64 V] 59))).trans (Kpt.grown (X := fun c => (Value.slice so sp2.length sc).ownBlock = some c) grow5 (fun _ h => h)) (fun _ h => h.elim) (fun _ h _ => h)
                      have hw2 := unhideI HWS
                      have BX25 := (unhideI BX21).kpt KG (fun h => by have := hw2 _ h; omega)
                      have hC3 : w25.cell? ⟨wr.heap.size, 0, none⟩ = some (.string lab) ∧ w25.cell? ⟨w11.heap.size, 0, none⟩ = some (.slice (some ⟨bb, bof, none⟩) b.length bcap) ∧ w25.cell? ⟨bb, bof + j, none⟩ = some (.int .i64 a) := ⟨BX25.2.1 0 _ rfl, ((unhideI IM21).bb.kpt KG (fun h => by have := hw2 _ h; omega)).2.1 0 _ rfl, by rw [KG.cell hbbw (fun h => by have := hw2 _ h; omega)]; exact hC1.2.2⟩
                      have IM5 := hideI ((unhideI IM21).spot (z := (lab, V)) KG (own_spot own5 rfl rfl))
                      have BX5 := hideI (BX25.other (b' := w11.heap.size + 1) (j := 2) (u := .slice (some ⟨g5, 0, none⟩) (sp2.length + 1) cap5) (by omega))
                      have NB := (unhideI IM21).box.kpt KG (fun h => by have := hw2 _ h; omega)
                      clear n0 n1 n2
                      have n0 := NB.2.1 2 _ rfl
                      have n1 := NB.1
                      have n2 := NB.2.2
                      clear own5 grow5 hloc hgl KG hw2 BX25 NB
                      go_wp2_with fail
                      first | refine next_nil ?_ | refine next_go ?_
                      refine reg_seg 16 1 1 (by kernel_rfl) (by decide) (by kernel_rfl) (by kernel_rfl) (fun _ _ _ _ _ h => h) ?_
                      simp only [List.take_succ_cons, List.take_zero, List.drop_succ_cons, List.drop_zero]
                      repeat (refine wpSteady_step (fun K hK => ?_); go_simp; first | (refine steady_of ?_ (fun W hW => ?_) (hK _ ?_); rotate_left; (obtain ⟨hcW, hcX, hcY⟩ := hW; go_simp; first | done | rfl); clear hK K) | (refine hK _ ?_; clear hK K))
                      refine wpSteady_nil ?_
                      refine reg_one 17 0 (by kernel_rfl) (by kernel_rfl) hC3 ?_
                      simp only [List.take_succ_cons, List.take_zero, List.drop_succ_cons, List.drop_zero]
                      go_wp2_with fail
                      first | refine next_nil ?_ | refine next_go ?_
                      have hC4 := unhideI HCL _ _ _ _ _ (unhideI IM5) (unhideI BX5)
                      refine reg_end (by kernel_rfl) hC4 ?_
                      clear hC1 hC2 hC3 hC4 n0 n1 n2 IM21 BX21
                      go_wp2_with fail
                      go_roundg (lines.length - (k + 1))
                      case measure => omega
                      case rel => exact ⟨k + 1, out2, sp2 ++ [(lab, V)], _, _, by omega, rfl, by go_num, by omega, by simp; omega, IM5, HW3, HS3⟩
                    ·
                      simp only [List.take_succ_cons, List.take_zero, List.drop_succ_cons, List.drop_zero]
                      go_wp2_with fail
                      first | refine next_nil ?_ | refine next_go ?_
                      have hCx := unhideI HCL _ _ _ _ _ ((unhideI IM21).step (below_a w21 (.cells #[.string lab, .int .i64 V] 59))) ((unhideI BX21).step (below_a _ _))
                      refine reg_one 1 3 (by kernel_rfl) (by kernel_rfl) hCx ?_
                      simp only [List.take_succ_cons, List.take_zero, List.drop_succ_cons, List.drop_zero]
                      go_wp2_with fail
                      first | refine next_nil ?_ | refine next_go ?_
                      have hC2 := unhideI HCL _ _ _ _ _ ((unhideI IM21).step (below_a w21 (.cells #[.string lab, .int .i64 V] 59))) ((unhideI BX21).step (below_a _ _))
                      refine reg_one 15 2 (by kernel_rfl) (by kernel_rfl) hC2 ?_
                      simp only [List.take_succ_cons, List.take_zero, List.drop_succ_cons, List.drop_zero]
                      refine wpList_append_lies _ rfl (.tmp 163) (.tmp 176) 24 rfl (w11.heap.size + 2) 59 s0 (.agg #[.string ⟨#[]⟩, .int .i64 0]) 2 24 Try.underlying24 hs0 hs1 hs2 hs3 rfl (by decide) _ _ _ rfl ((unhideI IM21).os.alloc _) ⟨_, 0, none⟩ 1 1 (cellsS (lab, V)) rfl rfl (cells_c1 _ (cellsS (lab, V)) _ _ rfl) (cellsS_one _) (by decide) (by unfold maxLen; omega) (by omega) (by simp; omega) _ rfl ?_
                      intro g5 cap5 w25 own5 grow5 hloc hgl
                      have KG : Kpt (fun c => (Value.slice so sp2.length sc).ownBlock = some c) w21 w25 := (Kpt.of (X := fun _ => False) (below_a w21 (.cells #[.string lab, .int .i64 V] 59))).trans (Kpt.grown (X := fun c => (Value.slice so sp2.length sc).ownBlock = some c) grow5 (fun _ h => h)) (fun _ h => h.elim) (fun _ h _ => h)
                      have hw2 := unhideI HWS
                      have BX25 := (unhideI BX21).kpt KG (fun h => by have := hw2 _ h; omega)
                      have hC3 : w25.cell? ⟨wr.heap.size, 0, none⟩ = some (.string lab) ∧ w25.cell? ⟨w11.heap.size, 0, none⟩ = some (.slice (some ⟨bb, bof, none⟩) b.length bcap) ∧ w25.cell? ⟨bb, bof + j, none⟩ = some (.int .i64 a) := ⟨BX25.2.1 0 _ rfl, ((unhideI IM21).bb.kpt KG (fun h => by have := hw2 _ h; omega)).2.1 0 _ rfl, by rw [KG.cell hbbw (fun h => by have := hw2 _ h; omega)]; exact hC1.2.2⟩
                      have IM5 := hideI ((unhideI IM21).spot (z := (lab, V)) KG (own_spot own5 rfl rfl))
                      have BX5 := hideI (BX25.other (b' := w11.heap.size + 1) (j := 2) (u := .slice (some ⟨g5, 0, none⟩) (sp2.length + 1) cap5) (by omega))
                      have NB := (unhideI IM21).box.kpt KG (fun h => by have := hw2 _ h; omega)
                      clear n0 n1 n2
                      have n0 := NB.2.1 2 _ rfl
                      have n1 := NB.1
                      have n2 := NB.2.2
                      clear own5 grow5 hloc hgl KG hw2 BX25 NB
                      go_wp2_with fail
                      first | refine next_nil ?_ | refine next_go ?_
                      refine reg_seg 16 1 1 (by kernel_rfl) (by decide) (by kernel_rfl) (by kernel_rfl) (fun _ _ _ _ _ h => h) ?_
                      simp only [List.take_succ_cons, List.take_zero, List.drop_succ_cons, List.drop_zero]
                      repeat (refine wpSteady_step (fun K hK => ?_); go_simp; first | (refine steady_of ?_ (fun W hW => ?_) (hK _ ?_); rotate_left; (obtain ⟨hcW, hcX, hcY⟩ := hW; go_simp; first | done | rfl); clear hK K) | (refine hK _ ?_; clear hK K))
                      refine wpSteady_nil ?_
                      refine reg_one 17 0 (by kernel_rfl) (by kernel_rfl) hC3 ?_
                      simp only [List.take_succ_cons, List.take_zero, List.drop_succ_cons, List.drop_zero]
                      go_wp2_with fail
                      first | refine next_nil ?_ | refine next_go ?_
                      have hC4 := unhideI HCL _ _ _ _ _ (unhideI IM5) (unhideI BX5)
                      refine reg_end (by kernel_rfl) hC4 ?_
                      clear hC1 hC2 hC3 hC4 n0 n1 n2 IM21 BX21
                      go_wp2_with fail
                      go_roundg (lines.length - (k + 1))
                      case measure => omega
                      case rel => exact ⟨k + 1, out2, sp2 ++ [(lab, V)], _, _, by omega, rfl, by go_num, by omega, by simp; omega, IM5, HW3, HS3⟩
            · have hkI : ¬ (k : Int) < (lines.length : Int) := by omega
              have hd : lines.drop k = [] := List.drop_eq_nil_of_le (by omega)
              have HW3 : Hid (out2 ++ imgW us o b (o.drop (j + 1)) (b.drop (j + 1)) = IW) := by
                show _ = IW
                rw [← unhideI HW2, hd]; rfl
              have HS3 : Hid (sp2 ++ imgS us o b (o.drop (j + 1)) (b.drop (j + 1)) = IS) := by
                show _ = IS
                rw [← unhideI HS2, hd]; rfl
              clear HW2 HS2 hd
              go_wp2_with fail
              go_roundg (o.length - (j + 1))
              case measure => omega
              case rel => exact ⟨j + 1, out2, sp2, vw2, vs2, by omega, rfl, by go_num, by omega, by omega, IMK, HW3, HS3⟩
        · have hjI : ¬ (j : Int) < (o.length : Int) := by omega
          have hd : o.drop j = [] := List.drop_eq_nil_of_le (by omega)
          have hIW : IW = out := by rw [← unhideI HW, hd]; simp [imgW]
          have hIS : IS = sp := by rw [← unhideI HS, hd]; simp [imgS]
          subst hIW
          subst hIS
          obtain ⟨wo, wc, rfl⟩ := own_slice (unhideI IMJ).ow
          obtain ⟨so, sc, rfl⟩ := own_slice (unhideI IMJ).os
          have LSE := hideI ((unhideI LS11).step (unhideI IMJ).bel)
          have n0 := (unhideI IMJ).box.2.1 0 _ rfl
          have n1 := (unhideI IMJ).box.2.1 1 _ rfl
          have n2 := (unhideI IMJ).box.2.1 2 _ rfl
          have n3 := (unhideI IMJ).box.1
          have sz1 := (unhideI LS11).sz
          have sz2 := (unhideI LS).sz
          have i1 : Ints wr (.slice wo IW.length wc) IW := Lies.owned (unhideI IMJ).ow
          have i2 : Ints wr (.slice oo o.length oc) o := (unhideI OI11).step (unhideI IMJ).bel
          have i3 : Spts wr (.slice so IS.length sc) IS := Lies.owned (unhideI IMJ).os
          have I1 := hideI (Lies.keep i1 (n0 := w.heap.size + 1) (fun k hk => by have := ((unhideI IMJ).ow.lt k hk).1; omega) (.slice wo IW.length wc) (.slice oo o.length oc) (.slice so IS.length sc) (.int .i64 0) (.int .i64 0))
          have I2 := hideI (Lies.keep i2 (n0 := w.heap.size + 1) (fun k hk => by have := ((unhideI OA11).own.lt k hk).1; omega) (.slice wo IW.length wc) (.slice oo o.length oc) (.slice so IS.length sc) (.int .i64 0) (.int .i64 0))
          have I3 := hideI (Lies.keep i3 (n0 := w.heap.size + 1) (fun k hk => by have := ((unhideI IMJ).os.lt k hk).1; omega) (.slice wo IW.length wc) (.slice oo o.length oc) (.slice so IS.length sc) (.int .i64 0) (.int .i64 0))
          obtain ⟨WF, hWF, BIb, BFb, KF⟩ := (unhideI LSE).ret2 (.slice wo IW.length wc) (.slice oo o.length oc) (.slice so IS.length sc) 0 0
          rw [← hWF] at I1 I2 I3
          have HWF := hideI hWF
          have BI0 := hideI BIb
          have BF0 := hideI BFb
          have KF0 := hideI KF
          have LS := LSE
          clear hWF BIb BFb KF i1 i2 i3 HW HS hd
          have HB1 := (unhideI LS).bu
          have HB2 := (unhideI LS).bi
          have HB3 := (unhideI LS).bf
          have i0 := HB2.2.1 0 _ rfl
          have i1 := HB2.2.1 1 _ rfl
          have i2 := HB2.2.1 2 _ rfl
          have ifz := HB2.2.2
          have ibl := HB2.1
          have f0 := HB3.2.1 0 _ rfl
          have f1 := HB3.2.1 1 _ rfl
          have ffz := HB3.2.2
          have fbl := HB3.1
          clear HB1 HB2 HB3
          go_wp2_with fail
          rw [← unhideI HWF]
          clear HWF
          have r0 := (unhideI BI0).2.1 0 _ rfl
          have r1 := (unhideI BI0).2.1 1 _ rfl
          have r2 := (unhideI BI0).2.1 2 _ rfl
          have r3 := (unhideI BF0).2.1 0 _ rfl
          have r4 := (unhideI BF0).2.1 1 _ rfl
          have r5 := (unhideI BI0).1
          have r6 := (unhideI BF0).1
          exact bodyPost_ret (v := .tuple #[.agg #[.slice wo IW.length wc, .slice oo o.length oc, .slice so IS.length sc], .agg #[.int .i64 0, .int .i64 0]]) (by simp [results, Try.results5, go_sem, r0, r1, r2, r3, r4, r5, r6]) rfl (by rw [unhideI HLK]; exact ⟨_, _, _, rfl, unhideI I1, unhideI I2, unhideI I3, unhideI KF0⟩)
end Go.Proofs.Yteoifpkbknkpjaa
