/-
  pairlegalref5.Own, Holder.
-/
import Derived.Test.YteoifpkbknkpjaaLkN
namespace Go.Proofs.Yteoifpkbknkpjaa
open Go.RowKit Go.Maps
set_option linter.unusedSimpArgs false
set_option linter.unusedVariables false

theorem own5_any (s : ByteArray) (w : World) : Calls Try.prog 13 #[.string s] w fun e w' => e = .returned (.bool (ownK s.toList)) ∧ w' = w := by
  by_cases h : s.toList = []
  · have hz : s.size = 0 := by
      have := congrArg List.length h
      rw [ByteArray.toList_eq] at this
      simpa using this
    rw [h]
    go_enter Try.func13, Try.ntmps13
    go_wp2_with fail
    go_ret
    exact ⟨by simp [ownK, hz], rfl⟩
  · have hz : 0 < s.size := by
      rcases Nat.eq_zero_or_pos s.size with h0 | h0
      · obtain rfl : s = ByteArray.empty := by simpa using h0
        rw [ByteArray.toList_eq] at h; exact absurd rfl h
      · exact h0
    have e : ownK s.toList = ((byt s 0) == 46) := by
      have h1 := faL_own h
      rw [← fa_list] at h1
      unfold fa emp at h1
      rw [show s.toList.isEmpty = false by simpa using h] at h1
      simp [bne] at h1
      exact h1.symm
    rw [e, byt_at hz]
    have hz2 : (0 : Int) < (s.size : Int) := by omega
    go_enter Try.func13, Try.ntmps13
    go_wp2_with fail
    go_ret
    exact ⟨by simp, rfl⟩
set_option maxRecDepth 100000 in
set_option maxHeartbeats 4000000 in
theorem holder_any (us : List Un) (v : Value) (s : ByteArray) (w : World) (hU : Uns w v us) : Calls Try.prog 11 #[v, .string s] w fun e w' => e = .returned (.int .i64 (holdU us 0 s.toList)) ∧ Below w.heap.size w w' := by
  obtain ⟨ao, cap, rfl, hmax, hat⟩ := hU
  unfold maxLen at hmax
  have HA := hideI hat
  have OA := fun w => own5_any s w
  generalize hR : holdU us 0 s.toList = R
  have HR : Hid (holdU (us.drop 0) 0 s.toList = R) := hR
  clear hR hat
  go_enter Try.func11, Try.ntmps11
  go_wp2_with fail
  go_loopg [11] us.length (fun g ii wr => ∃ (i : Nat), i ≤ us.length ∧ g = us.length - i ∧ ii = .int .i64 i ∧ Hid (Below w.heap.size w wr) ∧ Hid (holdU (us.drop i) i s.toList = R))
  case atStart => exact ⟨0, Nat.zero_le _, rfl, rfl, Below.refl _ _, HR⟩
  case round =>
    obtain ⟨i, hi, hg, rfl, HB, HE⟩ := hrel
    clear HR
    by_cases hlt : i < us.length
    · obtain ⟨ub, uof, uf, rfl, hubl, hucell⟩ := (unhideI HA) (by intro h; rw [h] at hlt; simp at hlt)
      obtain ⟨u0, u1, uL⟩ := hucell i hlt
      obtain ⟨lo, lc, hul2, hlmax, hlat⟩ := uL.at
      unfold maxLen at hlmax
      rw [hul2] at u1
      replace u0 := cell_keep (unhideI HB) hubl u0
      replace u1 := cell_keep (unhideI HB) hubl u1
      have HLA := hideI hlat
      have hd := hideI (drop_at us i hlt)
      generalize (us[i]'hlt) = u at *
      obtain ⟨nam, lines⟩ := u
      dsimp only at *
      clear hucell hlat uL
      have HB1 := hideI (bt (unhideI HB) (below_a wr (.cells #[.string nam, .slice lo lines.length lc] 50)))
      have HE2 : Hid (∀ k, k = 0 → (if (lines.drop k).any (fun x => x.lab.toList == s.toList) = true ∧ ownK s.toList = false then (i : Int) else holdU (us.drop (i + 1)) (i + 1) s.toList) = R) := by
        intro k hk
        subst hk
        rw [← unhideI HE, unhideI hd]
        rfl
      replace HE2 := hideI ((unhideI HE2) 0 rfl)
      go_wp2_with fail
      go_loopg [19] lines.length (fun g ii ws => ∃ (k : Nat), k ≤ lines.length ∧ g = lines.length - k ∧ ii = .int .i64 k ∧ Hid (Below w.heap.size w ws) ∧ Hid ((if (lines.drop k).any (fun x => x.lab.toList == s.toList) = true ∧ ownK s.toList = false then (i : Int) else holdU (us.drop (i + 1)) (i + 1) s.toList) = R))
      case atStart => exact ⟨0, Nat.zero_le _, rfl, rfl, HB1, HE2⟩
      case round =>
        obtain ⟨k, hk, hgk, rfl, HB2, HE3⟩ := hrel
        clear HE2 HB HB1 u0 u1 HE
        by_cases hkl : k < lines.length
        · obtain ⟨b2, off2, rfl, hbw2, hc2⟩ := (unhideI HLA) (by intro h; rw [h] at hkl; simp at hkl)
          obtain ⟨d0, d1, d2, d3, d4, d5⟩ := hc2 k hkl
          replace d0 := cell_keep (unhideI HB2) hbw2 d0
          replace d1 := cell_keep (unhideI HB2) hbw2 d1
          replace d2 := cell_keep (unhideI HB2) hbw2 d2
          replace d3 := cell_keep (unhideI HB2) hbw2 d3
          replace d4 := cell_keep (unhideI HB2) hbw2 d4
          replace d5 := cell_keep (unhideI HB2) hbw2 d5
          have hd2 := hideI (drop_at lines k hkl)
          generalize lines[k] = x at *
          obtain ⟨lab, ⟨o, d, sr, mm⟩, ref⟩ := x
          clear hc2
          dsimp only at *
          have KB := hideI (bt (unhideI HB2) (below_a wr (.cells #[.string lab, .int .i64 o, .int .i64 d, .int .i64 sr, .int .i64 mm, .string ref] 54)))
          have BX := hideI (Box.new wr #[.string lab, .int .i64 o, .int .i64 d, .int .i64 sr, .int .i64 mm, .string ref] 54)
          have p0 := (unhideI BX).2.1 0 _ rfl
          by_cases heq : (lab.toList == s.toList) = true
          · by_cases how : ownK s.toList = true
            · have HE4 : Hid ((if (lines.drop (k + 1)).any (fun x => x.lab.toList == s.toList) = true ∧ ownK s.toList = false then (i : Int) else holdU (us.drop (i + 1)) (i + 1) s.toList) = R) := by
                show _ = R
                rw [← unhideI HE3, if_neg (by simp [how]), if_neg (by simp [how])]
              rw [how] at OA
              clear HE3 hd2
              go_wp2_with fail
              refine (OA _).mono ?_
              rintro e w1 ⟨rfl, hw⟩
              subst w1
              go_wp2_with fail
              go_roundg (lines.length - (k + 1))
              case measure => omega
              case rel => exact ⟨k + 1, by omega, rfl, by go_num, KB, HE4⟩
            · replace how : ownK s.toList = false := by simpa using how
              have hRi : R = (i : Int) := by rw [← unhideI HE3, if_pos ⟨by rw [unhideI hd2]; simp only [List.any_cons]; rw [heq]; rfl, how⟩]
              subst hRi
              rw [how] at OA
              clear HE3 hd2
              go_wp2_with fail
              refine (OA _).mono ?_
              rintro e w1 ⟨rfl, hw⟩
              subst w1
              go_wp2_with fail
              go_ret
              exact ⟨rfl, unhideI KB⟩
          · replace heq : (lab.toList == s.toList) = false := by simpa using heq
            have HE4 : Hid ((if (lines.drop (k + 1)).any (fun x => x.lab.toList == s.toList) = true ∧ ownK s.toList = false then (i : Int) else holdU (us.drop (i + 1)) (i + 1) s.toList) = R) := by
              show _ = R
              have ha : (lines.drop k).any (fun x => x.lab.toList == s.toList) = (lines.drop (k + 1)).any (fun x => x.lab.toList == s.toList) := by rw [unhideI hd2, List.any_cons, heq, Bool.false_or]
              rw [← unhideI HE3, ha]
            clear HE3 hd2
            go_wp2_with fail
            go_roundg (lines.length - (k + 1))
            case measure => omega
            case rel => exact ⟨k + 1, by omega, rfl, by go_num, KB, HE4⟩
        · have hkl2 : k = lines.length := by omega
          subst hkl2
          have HE4 : Hid (holdU (us.drop (i + 1)) (i + 1) s.toList = R) := by
            show _ = R
            rw [← unhideI HE3, List.drop_length, if_neg (by simp)]
          clear HE3
          go_wp2_with fail
          go_roundg (us.length - (i + 1))
          case measure => omega
          case rel => exact ⟨i + 1, by omega, rfl, by go_num, HB2, HE4⟩
    · have hil : i = us.length := by omega
      have hRs : R = -1 := by rw [← unhideI HE, hil, List.drop_length]; rfl
      subst hRs
      clear HE
      go_wp2_with fail
      go_ret
      exact ⟨rfl, unhideI HB⟩
end Go.Proofs.Yteoifpkbknkpjaa
