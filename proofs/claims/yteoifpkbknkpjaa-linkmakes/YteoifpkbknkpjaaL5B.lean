/-
  The document's linker: Check.
-/
import Derived.Test.YteoifpkbknkpjaaLkH
import Derived.Test.YteoifpkbknkpjaaT4E
namespace Go.Proofs.Yteoifpkbknkpjaa
open Go.RowKit
set_option linter.unusedSimpArgs false
set_option linter.unusedVariables false

/-- A label of all that another unit has. -/
def badU (all : List Un) (i : Nat) (y : Ln) : Bool := !emp y.lab && !ownK y.lab.toList && (holdU all 0 y.lab.toList != (i : Int))
/-- What is wrong with units, the first one first. -/
def chkU (all : List Un) : List Un → Nat → Int × Int
  | [], _ => (0, 0)
  | u :: r, i => if 40000 < u.lines.length then (5, i) else if (plc u.lines 0 [] 0).2.2.1 = 0 then (if u.lines.any (badU all i) = true then (7, i) else chkU all r (i + 1)) else ((plc u.lines 0 [] 0).2.2.1, i)
set_option maxRecDepth 100000 in
set_option maxHeartbeats 4000000 in
theorem check5_any (us : List Un) (v : Value) (w : World) (hU : Uns w v us) : Calls Try.prog 10 #[v] w fun e w' => e = .returned (.agg #[.int .i64 (if 400 < us.length then ((5 : Int), (0 : Int)) else chkU us us 0).1, .int .i64 (if 400 < us.length then ((5 : Int), (0 : Int)) else chkU us us 0).2]) ∧ Below w.heap.size w w' := by
  have HU := hideI hU
  obtain ⟨ao, cap, rfl, hmax, hat⟩ := hU
  have HA := hideI hat
  clear hat
  unfold maxLen at hmax
  generalize hR : (if 400 < us.length then ((5 : Int), (0 : Int)) else chkU us us 0) = R
  have B0 := hideI (Box.new w #[.int .i64 0, .int .i64 0] 29)
  have K0 := hideI (below_a w (.cells #[.int .i64 0, .int .i64 0] 29))
  have hs0 : (w.alloc (.cells #[.int .i64 0, .int .i64 0] 29)).heap.size = w.heap.size + 1 := by simp
  have HS0 := hideI hs0
  clear hs0
  by_cases h4 : 400 < us.length
  · rw [if_pos h4] at hR
    subst hR
    have b4 : (400 : Int) < (us.length : Int) := by omega
    go_enter Try.func10, Try.ntmps10
    go_wp2_with fail
    exact bodyPost_ret (v := .agg #[.int .i64 5, .int .i64 0]) (by simp [results, Try.results10, go_sem]) rfl ⟨rfl, below_a _ _⟩
  · rw [if_neg h4] at hR
    have HR : Hid (chkU us (us.drop 0) 0 = R) := hR
    have b4 : ¬ (400 : Int) < (us.length : Int) := by omega
    clear hR
    go_enter Try.func10, Try.ntmps10
    go_wp2_with fail
    generalize w.alloc (.cells #[.int .i64 0, .int .i64 0] 29) = w1 at *
    go_loopg [15] us.length (fun g t wr => ∃ i : Nat, i ≤ us.length ∧ g = us.length - i ∧ t = .int .i64 (i : Int) ∧ Hid (chkU us (us.drop i) i = R) ∧ Hid (Below w1.heap.size w1 wr))
    case atStart => exact ⟨0, by omega, rfl, rfl, HR, hideI (Below.refl _ _)⟩
    case round =>
      obtain ⟨i, hi, hg, rfl, HE, hK⟩ := hrel
      clear HR
      have BW := (unhideI B0).step (unhideI hK)
      have y0 := BW.2.1 0 _ rfl
      have y1 := BW.2.1 1 _ rfl
      have y2 := BW.2.2
      have y4 := BW.1
      have KW := hideI ((unhideI K0).trans ((unhideI hK).mono (by have := unhideI HS0; omega)))
      clear BW
      by_cases hlt : i < us.length
      · obtain ⟨ub, uof, uf, rfl, hubl, hucell⟩ := (unhideI HA) (by intro h; rw [h] at hlt; simp at hlt)
        obtain ⟨u0, u1, uL⟩ := hucell i hlt
        have UL := hideI (fun W (k : Below w.heap.size w W) => uL.step k)
        obtain ⟨lo, lc, hul2, hlmax, hlat⟩ := uL.at
        unfold maxLen at hlmax
        rw [hul2] at u1 UL
        replace u0 := cell_keep (unhideI KW) hubl u0
        replace u1 := cell_keep (unhideI KW) hubl u1
        have HLA := hideI hlat
        have hE := unhideI HE
        rw [drop_at us i hlt, chkU] at hE
        have HE2 := hideI hE
        generalize (us[i]'hlt) = u at *
        obtain ⟨nam, lines⟩ := u
        dsimp only at *
        have hil : (i : Int) < (us.length : Int) := by omega
        clear hucell hlat uL hE HE hul2
        have HB1 := hideI (below_a wr (.cells #[.string nam, .slice lo lines.length lc] 50))
        have BU := hideI (Box.new wr #[.string nam, .slice lo lines.length lc] 50)
        by_cases h5 : 40000 < lines.length
        · have hRv : R = (5, (i : Int)) := by rw [← unhideI HE2, if_pos h5]
          subst hRv
          have b5 : (40000 : Int) < (lines.length : Int) := by omega
          clear HE2
          go_wp2_with fail
          exact bodyPost_ret (v := .agg #[.int .i64 5, .int .i64 (i : Int)]) (by simp [results, Try.results10, go_sem, y0, y1, y2, y4]) rfl ⟨rfl, (by repeat (first | exact unhideI KW | refine Below.setCell ?_ (by first | exact Nat.le_refl _ | (simp; done) | omega | (simp; omega)) _ | refine Below.alloc ?_ (by first | (simp; done) | omega | (simp; omega)) _))⟩
        · have hE := unhideI HE2
          rw [if_neg h5] at hE
          have HE := hideI hE
          have b5 : ¬ (40000 : Int) < (lines.length : Int) := by omega
          have CK := hideI (fun W h => check4_any lines (.slice lo lines.length lc) 0 W h (by omega) (by omega) (by omega))
          generalize hP : plc lines 0 [] 0 = P at *
          clear hE HE2 hP
          go_wp2_with fail
          generalize wr.alloc (.cells #[.string nam, .slice lo lines.length lc] 50) = wa at *
          have KA := hideI (bt (unhideI KW) (unhideI HB1))
          refine (unhideI CK wa (unhideI UL _ (unhideI KA))).mono ?_
          rintro e w3 ⟨rfl, k3⟩
          have K3 := hideI (bt (unhideI KA) k3)
          have K13 := hideI ((unhideI hK).trans (((unhideI HB1).trans (k3.mono (unhideI HB1).size)).mono (unhideI hK).size))
          have BU3 := hideI ((unhideI BU).step k3)
          have BW3 := (unhideI B0).step (unhideI K13)
          clear y0 y1 y2 y4 u0 u1 k3 CK BU HB1
          have y0 := BW3.2.1 0 _ rfl
          have y1 := BW3.2.1 1 _ rfl
          have y2 := BW3.2.2
          have y4 := BW3.1
          have p0 := (unhideI BU3).2.1 0 _ rfl
          have p1 := (unhideI BU3).2.1 1 _ rfl
          have p4 := (unhideI BU3).1
          clear BW3 BU3
          by_cases hz : P.2.2.1 = 0
          · have hE := unhideI HE
            rw [if_pos hz] at hE
            have HE2 : Hid ((if (lines.drop 0).any (badU us i) = true then ((7 : Int), (i : Int)) else chkU us (us.drop (i + 1)) (i + 1)) = R) := hE
            rw [hz]
            clear hE HE hz
            have KF := hideI (below_a w3 (.cells #[.int .i64 0, .int .i64 (P.2.2.2 : Int)] 29))
            go_wp2_with fail
            generalize w3.alloc (.cells #[.int .i64 0, .int .i64 (P.2.2.2 : Int)] 29) = w5 at *
            have K5 := hideI (bt (unhideI K3) (unhideI KF))
            have K15 := hideI ((unhideI K13).trans ((unhideI KF).mono (unhideI K13).size))
            clear K3 K13 KF y0 y1 y2 y4 p0 p1 p4 KA KW hK
            go_loopg [42] lines.length (fun g ii ws => ∃ (k : Nat), k ≤ lines.length ∧ g = lines.length - k ∧ ii = .int .i64 k ∧ Hid (Below w.heap.size w ws) ∧ Hid (Below w1.heap.size w1 ws) ∧ Hid ((if (lines.drop k).any (badU us i) = true then ((7 : Int), (i : Int)) else chkU us (us.drop (i + 1)) (i + 1)) = R))
            case atStart => exact ⟨0, Nat.zero_le _, rfl, rfl, K5, K15, HE2⟩
            case round =>
              obtain ⟨k, hk, hgk, rfl, hKw, hK1, HE3⟩ := hrel
              clear HE2 K5 K15
              by_cases hkl : k < lines.length
              · obtain ⟨b2, off2, rfl, hbw2, hc2⟩ := (unhideI HLA) (by intro h; rw [h] at hkl; simp at hkl)
                obtain ⟨d0, d1, d2, d3, d4, d5⟩ := hc2 k hkl
                replace d0 := cell_keep (unhideI hKw) hbw2 d0
                replace d1 := cell_keep (unhideI hKw) hbw2 d1
                replace d2 := cell_keep (unhideI hKw) hbw2 d2
                replace d3 := cell_keep (unhideI hKw) hbw2 d3
                replace d4 := cell_keep (unhideI hKw) hbw2 d4
                replace d5 := cell_keep (unhideI hKw) hbw2 d5
                have hE := unhideI HE3
                rw [drop_at lines k hkl, List.any_cons] at hE
                have HE4 := hideI hE
                generalize lines[k] = x at *
                obtain ⟨lab, ⟨o, d, sr, mm⟩, ref⟩ := x
                have OA := hideI (fun W => own5_any lab W)
                have HO := hideI (fun W h => holder_any us (.slice (some ⟨ub, uof, none⟩) us.length cap) lab W h)
                have HUW := hideI (fun W (k : Below w.heap.size w W) => (unhideI HU).step k)
                unfold badU at hE
                clear hc2 hE HE3 HA HLA UL
                dsimp only at *
                have KB := hideI (bt (unhideI hKw) (below_a wr (.cells #[.string lab, .int .i64 o, .int .i64 d, .int .i64 sr, .int .i64 mm, .string ref] 54)))
                have KB1 := hideI ((unhideI hK1).trans ((below_a wr (.cells #[.string lab, .int .i64 o, .int .i64 d, .int .i64 sr, .int .i64 mm, .string ref] 54)).mono (unhideI hK1).size))
                have BX := hideI (Box.new wr #[.string lab, .int .i64 o, .int .i64 d, .int .i64 sr, .int .i64 mm, .string ref] 54)
                have p0 := (unhideI BX).2.1 0 _ rfl
                by_cases he : emp lab = true
                · have he' : lab.toList.isEmpty = true := he
                  have hb : badU us i ⟨lab, ⟨o, d, sr, mm⟩, ref⟩ = false := by unfold badU; simp [he]
                  have hE := unhideI HE4
                  rw [hb, Bool.false_or] at hE
                  have HE5 := hideI hE
                  clear hE hb he HE4 OA HO HUW
                  go_wp2_with fail
                  go_roundg (lines.length - (k + 1))
                  case measure => omega
                  case rel => exact ⟨k + 1, by omega, rfl, by go_num, KB, KB1, HE5⟩
                · replace he : emp lab = false := by simpa using he
                  have he' : lab.toList.isEmpty = false := he
                  by_cases ho : ownK lab.toList = true
                  · have hb : badU us i ⟨lab, ⟨o, d, sr, mm⟩, ref⟩ = false := by unfold badU; simp [ho]
                    have hE := unhideI HE4
                    rw [hb, Bool.false_or] at hE
                    have HE5 := hideI hE
                    rw [ho] at OA
                    clear hE hb he HE4 HO HUW
                    go_wp2_with fail
                    refine (unhideI OA _).mono ?_
                    rintro e w6 ⟨rfl, hw⟩
                    subst w6
                    go_wp2_with fail
                    go_roundg (lines.length - (k + 1))
                    case measure => omega
                    case rel => exact ⟨k + 1, by omega, rfl, by go_num, KB, KB1, HE5⟩
                  · replace ho : ownK lab.toList = false := by simpa using ho
                    rw [ho] at OA
                    generalize hH : holdU us 0 lab.toList = H at *
                    have hb : badU us i ⟨lab, ⟨o, d, sr, mm⟩, ref⟩ = (H != (i : Int)) := by unfold badU; simp [ho, he, hH]
                    have hE := unhideI HE4
                    rw [hb] at hE
                    have HE5 := hideI hE
                    clear hE hb he HE4 hH
                    go_wp2_with fail
                    refine (unhideI OA _).mono ?_
                    rintro e w6 ⟨rfl, hw⟩
                    subst w6
                    go_wp2_with fail
                    refine (unhideI HO _ (unhideI HUW _ (unhideI KB))).mono ?_
                    rintro e w7 ⟨rfl, k7⟩
                    have K7 := hideI (bt (unhideI KB) k7)
                    have K17 := hideI ((unhideI KB1).trans (k7.mono (unhideI KB1).size))
                    have BW7 := (unhideI B0).step (unhideI K17)
                    have y0 := BW7.2.1 0 _ rfl
                    have y1 := BW7.2.1 1 _ rfl
                    have y2 := BW7.2.2
                    have y4 := BW7.1
                    clear k7 BW7 HUW HO OA p0 BX KB KB1 d0 d1 d2 d3 d4 d5
                    by_cases hh : H = (i : Int)
                    · subst hh
                      have hE := unhideI HE5
                      rw [bne_self_eq_false, Bool.false_or] at hE
                      have HE6 := hideI hE
                      clear hE HE5
                      go_wp2_with fail
                      go_roundg (lines.length - (k + 1))
                      case measure => omega
                      case rel => exact ⟨k + 1, by omega, rfl, by go_num, K7, K17, HE6⟩
                    · have hn : (H != (i : Int)) = true := by simpa using hh
                      have hRv : R = (7, (i : Int)) := by rw [← unhideI HE5, hn]; rfl
                      subst hRv
                      clear HE5 hh
                      go_wp2_with fail
                      exact bodyPost_ret (v := .agg #[.int .i64 7, .int .i64 (i : Int)]) (by simp [results, Try.results10, go_sem, y0, y1, y2, y4]) rfl ⟨rfl, (by repeat (first | exact unhideI K7 | refine Below.setCell ?_ (by first | exact Nat.le_refl _ | (simp; done) | omega | (simp; omega)) _ | refine Below.alloc ?_ (by first | (simp; done) | omega | (simp; omega)) _))⟩
              · have hkI : ¬ (k : Int) < (lines.length : Int) := by omega
                have hE := unhideI HE3
                rw [List.drop_eq_nil_of_le (by omega), if_neg (by simp)] at hE
                have HE4 := hideI hE
                clear hE HE3
                go_wp2_with fail
                go_roundg (us.length - (i + 1))
                case measure => omega
                case rel => exact ⟨i + 1, by omega, rfl, by go_num, HE4, hK1⟩
          · have hRv : R = (P.2.2.1, (i : Int)) := by rw [← unhideI HE, if_neg hz]
            generalize P.2.2.1 = er at *
            subst hRv
            have hw0 : (er != 0) = true := by simpa using hz
            clear HE hz
            go_wp2_with fail
            exact bodyPost_ret (v := .agg #[.int .i64 er, .int .i64 (i : Int)]) (by simp [results, Try.results10, go_sem, y0, y1, y2, y4]) rfl ⟨rfl, (by repeat (first | exact unhideI K3 | refine Below.setCell ?_ (by first | exact Nat.le_refl _ | (simp; done) | omega | (simp; omega)) _ | refine Below.alloc ?_ (by first | (simp; done) | omega | (simp; omega)) _))⟩
      · have hil : ¬ (i : Int) < (us.length : Int) := by omega
        have hRv : R = (0, 0) := by rw [← unhideI HE, List.drop_eq_nil_of_le (by omega)]; rfl
        subst hRv
        clear HE
        go_wp2_with fail
        exact bodyPost_ret (v := .agg #[.int .i64 0, .int .i64 0]) (by simp [results, Try.results10, go_sem, y0, y1, y2, y4]) rfl ⟨rfl, (by repeat (first | exact unhideI KW | refine Below.setCell ?_ (by first | exact Nat.le_refl _ | (simp; done) | omega | (simp; omega)) _ | refine Below.alloc ?_ (by first | (simp; done) | omega | (simp; omega)) _))⟩
end Go.Proofs.Yteoifpkbknkpjaa
