/-
  Texts: the token that a text begins with.
-/
import Derived.Test.YtonekpoblgigpaaDoorSoE
import Derived.Laws.Rows
namespace Go.Proofs.YtonekpoblgigpaaDoor
open Go.RowKit
set_option linter.unusedSimpArgs false
set_option linter.unusedVariables false

def sgn1 (l : List UInt8) : Int × Tk × Nat := match sgP.find? (fun p => Lib.hasPrefix l p) with | some p => (0, ⟨3, p, 0, 0, false, 0⟩, p.length) | none => (2, tk0, 0)
/-- The token that a text begins with: what is wrong, the token, and how many bytes. -/
def tok1 (l : List UInt8) : Int × Tk × Nat := match l with | [] => (2, tk0, 0) | x :: _ => if ltr (ch x) = true then (0, ⟨1, l.take (wlen l), 0, 0, false, 0⟩, wlen l) else if dgt (ch x) = true then num1 l else sgn1 l
theorem tok1_cons (x : UInt8) (r : List UInt8) : tok1 (x :: r) = if ltr (ch x) = true then (0, ⟨1, (x :: r).take (wlen (x :: r)), 0, 0, false, 0⟩, wlen (x :: r)) else if dgt (ch x) = true then num1 (x :: r) else sgn1 (x :: r) := rfl
theorem Tryd.sizeSG : (Tryd.prog.info? 53).map (·.size) = some 29 := by kernel_rfl
theorem Tryd.sizeStr1 : (Tryd.prog.info? 9).map (·.size) = some 1 := by kernel_rfl
theorem index_sg (AR : Array Value) (k : Nat) (hk : k < 29) (s : ByteArray) (h : AR[k]? = some (.string s)) (w : World) : (Instr.index 53 (.agg AR) (.int .i64 (k : Int))).run Tryd.prog w = .ok (.string s) w := by
  have h1 : 0 ≤ (k : Int) ∧ (k : Int) < 29 := by omega
  obtain ⟨i, hi, hs⟩ : ∃ i, Tryd.prog.info? 9 = some i ∧ i.size = 1 := by
    have := Tryd.sizeStr1
    cases e : Tryd.prog.info? 9 with
    | none => rw [e] at this; cases this
    | some i => rw [e] at this; exact ⟨i, rfl, by simpa using this⟩
  simp [Instr.index, run_underlying Tryd.underlying53, asIntOf, hk, part, sizeOf, typeInfo, hi, hs, h, go_sem]
set_option maxRecDepth 100000 in
set_option maxHeartbeats 4000000 in
theorem tokenOf_any (x : UInt8) (r : List UInt8) (w : World) (hl : (x :: r).length ≤ 65536) (hG : Gs w) :
    Calls Tryd.prog 17 #[.string (ba (x :: r))] w fun e w' => e = .returned (.tuple #[.agg (cT (tok1 (x :: r)).2.1).toArray, .int .i64 ((tok1 (x :: r)).2.2 : Int), .int .i64 (tok1 (x :: r)).1]) ∧ Below w.heap.size w w' := by
  have hz : 0 < (ba (x :: r)).size := by rw [ba_size]; simp
  have hzI : (0 : Int) < ((ba (x :: r)).size : Int) := by omega
  have e0 : (ba (x :: r))[0]'hz = x := by rw [ba_at]; rfl
  have LA := hideI (fun W => isLetter_any (((ba (x :: r))[0].toNat : Nat) : Int) W)
  have DA := hideI (fun W => isDigit_any (((ba (x :: r))[0].toNat : Nat) : Int) W)
  have hcx : (((ba (x :: r))[0].toNat : Nat) : Int) = ch x := by rw [e0]; rfl
  have B0 := hideI (Box.new w #[.int .i64 0, .string ⟨#[]⟩, .int .u64 0, .int .i64 0, .bool false, .int .i64 0] 33)
  have K0 := hideI (below_a w (.cells #[.int .i64 0, .string ⟨#[]⟩, .int .u64 0, .int .i64 0, .bool false, .int .i64 0] 33))
  have HG := hideI (hG.step (unhideI K0))
  clear hG e0
  by_cases h1 : ltr (ch x) = true
  · have ht : tok1 (x :: r) = (0, ⟨1, (x :: r).take (wlen (x :: r)), 0, 0, false, 0⟩, wlen (x :: r)) := by rw [tok1_cons, if_pos h1]
    rw [ht]
    rw [hcx, h1] at LA
    have hwl := wlen_le (x :: r)
    have WA := hideI (fun W => wordLength_any (x :: r) W (by omega))
    have KP := hideI (fun W => kept_any ((x :: r).take (wlen (x :: r))) W (by rw [List.length_take]; omega))
    have HT1 := hideI (show (ba (x :: r)).extract 0 (wlen (x :: r)) = ba ((x :: r).take (wlen (x :: r))) by rw [ba_extract]; simp)
    have hw2 : ((wlen (x :: r) : Nat) : Int) ≤ ((ba (x :: r)).size : Int) := by rw [ba_size]; omega
    generalize (x :: r).take (wlen (x :: r)) = T at *
    generalize wlen (x :: r) = D at *
    clear ht DA h1 hcx hwl
    go_enter Tryd.func17, Tryd.ntmps17
    go_wp2_with fail
    generalize w.alloc (.cells #[.int .i64 0, .string ⟨#[]⟩, .int .u64 0, .int .i64 0, .bool false, .int .i64 0] 33) = w1 at *
    refine (unhideI LA _).mono ?_
    rintro e w2 ⟨rfl, hw⟩
    subst w2
    go_wp2_with fail
    refine (unhideI WA _).mono ?_
    rintro e w2 ⟨rfl, hw⟩
    subst w2
    go_wp2_with fail
    rw [unhideI HT1]
    refine (unhideI KP _).mono ?_
    rintro e w3 ⟨rfl, k3⟩
    have KT := hideI (bt (unhideI K0) k3)
    have BT := hideI ((unhideI B0).step k3)
    clear k3
    have y0 := (unhideI BT).2.1 0 _ rfl
    have y1 := (unhideI BT).2.1 1 _ rfl
    have y2 := (unhideI BT).2.1 2 _ rfl
    have y3 := (unhideI BT).2.1 3 _ rfl
    have y4 := (unhideI BT).2.1 4 _ rfl
    have y5 := (unhideI BT).2.1 5 _ rfl
    have y6 := (unhideI BT).1
    have y7 := (unhideI BT).2.2
    obtain ⟨WF, hWF, bw, kw⟩ := (unhideI BT).six rfl (.int .i64 1) (.string (ba T)) (.int .u64 0) (.int .i64 0) (.bool false) (.int .i64 0)
    have HWF := hideI hWF
    have BW := hideI bw
    have KW := hideI (kw w.heap.size w (unhideI KT) (Nat.le_refl _))
    clear hWF bw kw
    go_wp2_with fail
    rw [← unhideI HWF]
    have r0 := (unhideI BW).2.1 0 _ rfl
    have r1 := (unhideI BW).2.1 1 _ rfl
    have r2 := (unhideI BW).2.1 2 _ rfl
    have r3 := (unhideI BW).2.1 3 _ rfl
    have r4 := (unhideI BW).2.1 4 _ rfl
    have r5 := (unhideI BW).2.1 5 _ rfl
    have r6 := (unhideI BW).1
    exact bodyPost_ret (v := .tuple #[.agg (cT ⟨1, T, 0, 0, false, 0⟩).toArray, .int .i64 (D : Int), .int .i64 0]) (by simp [results, Tryd.results17, go_sem, r0, r1, r2, r3, r4, r5, r6, cT]) rfl ⟨rfl, unhideI KW⟩
  · replace h1 : ltr (ch x) = false := by simpa using h1
    rw [hcx, h1] at LA
    by_cases h2 : dgt (ch x) = true
    · have ht : tok1 (x :: r) = num1 (x :: r) := by rw [tok1_cons, if_neg (by simp [h1]), if_pos h2]
      rw [ht]
      rw [hcx, h2] at DA
      have NA := hideI (fun W g => numberOf_any (x :: r) W hl (by rw [dlen, if_pos h2]; omega) g)
      generalize num1 (x :: r) = NM at *
      obtain ⟨ne, ⟨tk, tt, tn, tb, tg, ta⟩, nl⟩ := NM
      dsimp only [cT] at *
      clear ht h1 h2 hcx
      go_enter Tryd.func17, Tryd.ntmps17
      go_wp2_with fail
      generalize w.alloc (.cells #[.int .i64 0, .string ⟨#[]⟩, .int .u64 0, .int .i64 0, .bool false, .int .i64 0] 33) = w1 at *
      refine (unhideI LA _).mono ?_
      rintro e w2 ⟨rfl, hw⟩
      subst w2
      go_wp2_with fail
      refine (unhideI DA _).mono ?_
      rintro e w2 ⟨rfl, hw⟩
      subst w2
      go_wp2_with fail
      refine (unhideI NA _ (unhideI HG)).mono ?_
      rintro e w3 ⟨rfl, k3⟩
      have KT := hideI (bt (unhideI K0) k3)
      have BT := hideI ((unhideI B0).step k3)
      clear k3
      have y0 := (unhideI BT).2.1 0 _ rfl
      have y1 := (unhideI BT).2.1 1 _ rfl
      have y2 := (unhideI BT).2.1 2 _ rfl
      have y3 := (unhideI BT).2.1 3 _ rfl
      have y4 := (unhideI BT).2.1 4 _ rfl
      have y5 := (unhideI BT).2.1 5 _ rfl
      have y6 := (unhideI BT).1
      have y7 := (unhideI BT).2.2
      obtain ⟨WF, hWF, bw, kw⟩ := (unhideI BT).six rfl (.int .i64 tk) (.string (ba tt)) (.int .u64 tn) (.int .i64 tb) (.bool tg) (.int .i64 ta)
      have HWF := hideI hWF
      have BW := hideI bw
      have KW := hideI (kw w.heap.size w (unhideI KT) (Nat.le_refl _))
      clear hWF bw kw
      go_wp2_with fail
      rw [← unhideI HWF]
      have r0 := (unhideI BW).2.1 0 _ rfl
      have r1 := (unhideI BW).2.1 1 _ rfl
      have r2 := (unhideI BW).2.1 2 _ rfl
      have r3 := (unhideI BW).2.1 3 _ rfl
      have r4 := (unhideI BW).2.1 4 _ rfl
      have r5 := (unhideI BW).2.1 5 _ rfl
      have r6 := (unhideI BW).1
      exact bodyPost_ret (v := .tuple #[.agg #[.int .i64 tk, .string (ba tt), .int .u64 tn, .int .i64 tb, .bool tg, .int .i64 ta], .int .i64 (nl : Int), .int .i64 ne]) (by simp [results, Tryd.results17, go_sem, r0, r1, r2, r3, r4, r5, r6]) rfl ⟨rfl, unhideI KW⟩
    · replace h2 : dgt (ch x) = false := by simpa using h2
      have ht : tok1 (x :: r) = sgn1 (x :: r) := by rw [tok1_cons, if_neg (by simp [h1]), if_neg (by simp [h2])]
      rw [ht]
      rw [hcx, h2] at DA
      clear ht h1 h2 hcx
      generalize hR : sgn1 (x :: r) = R
      have HR : Hid ((match (sgP.drop 0).find? (fun p => Lib.hasPrefix (x :: r) p) with | some p => ((0 : Int), (⟨3, p, 0, 0, false, 0⟩ : Tk), p.length) | none => (2, tk0, 0)) = R) := hR
      clear hR
      have HPX := hideI (fun p W => Tryd.strings_HasPrefix (ba (x :: r)) (ba p) W)
      obtain ⟨tsg, fr, hk⟩ := (unhideI HG).sg
      have hAz : (sgP.map fun l => Value.string (ba l)).toArray.size = 29 := by decide
      have hAt : Hid (∀ k (h : k < 29), (sgP.map fun l => Value.string (ba l)).toArray[k]? = some (.string (ba (sgP[k]'h)))) := fun k h => by
        have h' : k < sgP.length := h
        rw [List.getElem?_toArray, List.getElem?_map, List.getElem?_eq_getElem h']; rfl
      have HSZ : (Tryd.prog.info? 53).map (·.size) = some (sgP.map fun l => Value.string (ba l)).toArray.size := by rw [hAz]; exact Tryd.sizeSG
      generalize (sgP.map fun l => Value.string (ba l)).toArray = AR at *
      have HSP : Hid (∀ k (h : k < 29), (sgP[k]'h).length ≤ 2) := fun k h => by
        have : ∀ p ∈ sgP, p.length ≤ 2 := by decide
        exact this _ (List.getElem_mem _)
      go_enter Tryd.func17, Tryd.ntmps17
      go_wp2_with fail
      generalize w.alloc (.cells #[.int .i64 0, .string ⟨#[]⟩, .int .u64 0, .int .i64 0, .bool false, .int .i64 0] 33) = w1 at *
      refine (unhideI LA _).mono ?_
      rintro e w2 ⟨rfl, hw⟩
      subst w2
      go_wp2_with fail
      refine (unhideI DA _).mono ?_
      rintro e w2 ⟨rfl, hw⟩
      subst w2
      go_wp2_with (refine wpList_load_row rfl 53 (.global 0) rfl 0 rfl _ AR fr _ hk Tryd.underlying53 rfl HSZ ?_)
      have KT := K0
      have BT := B0
      clear hk HSZ hAz
      go_loopg [30] 29 (fun g t wr => ∃ (k : Nat), k ≤ 29 ∧ g = 29 - k ∧ t = .int .i64 (k : Int) ∧ wr = w1 ∧ Hid ((match (sgP.drop k).find? (fun p => Lib.hasPrefix (x :: r) p) with | some p => ((0 : Int), (⟨3, p, 0, 0, false, 0⟩ : Tk), p.length) | none => (2, tk0, 0)) = R))
      case atStart => exact ⟨0, Nat.zero_le _, rfl, rfl, rfl, HR⟩
      case round =>
        obtain ⟨k, hk, hg2, rfl, hwr, HE⟩ := hrel
        subst hwr
        clear HR
        have y0 := (unhideI BT).2.1 0 _ rfl
        have y1 := (unhideI BT).2.1 1 _ rfl
        have y2 := (unhideI BT).2.1 2 _ rfl
        have y3 := (unhideI BT).2.1 3 _ rfl
        have y4 := (unhideI BT).2.1 4 _ rfl
        have y5 := (unhideI BT).2.1 5 _ rfl
        have y6 := (unhideI BT).1
        have y7 := (unhideI BT).2.2
        by_cases hlt : k < 29
        · have hkI : (k : Int) < 29 := by omega
          have hak := (unhideI hAt) k hlt
          have hsp := unhideI HSP k hlt
          have hE := unhideI HE
          have hlt' : k < sgP.length := hlt
          rw [List.drop_eq_getElem_cons hlt', List.find?_cons] at hE
          have HE2 := hideI hE
          have PX := hideI (fun W => unhideI HPX (sgP[k]'hlt) W)
          rw [ba_data, ba_data] at PX
          clear hE HE HPX
          generalize (sgP[k]'hlt') = p at *
          have hix := fun W => index_sg AR k hlt (ba p) hak W
          cases hp : Lib.hasPrefix (x :: r) p with
          | true =>
            rw [hp] at PX HE2
            have hR : R = ((0 : Int), (⟨3, p, 0, 0, false, 0⟩ : Tk), p.length) := (unhideI HE2).symm
            subst hR
            obtain ⟨WF, hWF, bw, kw⟩ := (unhideI BT).six rfl (.int .i64 3) (.string (ba p)) (.int .u64 0) (.int .i64 0) (.bool false) (.int .i64 0)
            have HWF := hideI hWF
            have BW := hideI bw
            have KW := hideI (kw w.heap.size w (unhideI KT) (Nat.le_refl _))
            clear hWF bw kw
            clear HE2
            go_wp2_with fail
            refine (unhideI PX _).mono ?_
            rintro e w2 ⟨rfl, hw⟩
            subst w2
            go_wp2_with fail
            rw [← unhideI HWF]
            have r0 := (unhideI BW).2.1 0 _ rfl
            have r1 := (unhideI BW).2.1 1 _ rfl
            have r2 := (unhideI BW).2.1 2 _ rfl
            have r3 := (unhideI BW).2.1 3 _ rfl
            have r4 := (unhideI BW).2.1 4 _ rfl
            have r5 := (unhideI BW).2.1 5 _ rfl
            have r6 := (unhideI BW).1
            exact bodyPost_ret (v := .tuple #[.agg (cT ⟨3, p, 0, 0, false, 0⟩).toArray, .int .i64 (p.length : Int), .int .i64 0]) (by simp [results, Tryd.results17, go_sem, r0, r1, r2, r3, r4, r5, r6, cT, ba_size]) rfl ⟨rfl, unhideI KW⟩
          | false =>
            rw [hp] at PX HE2
            have HE3 := HE2
            clear HE2
            go_wp2_with fail
            refine (unhideI PX _).mono ?_
            rintro e w2 ⟨rfl, hw⟩
            subst w2
            go_wp2_with fail
            go_roundg (29 - (k + 1))
            case measure => omega
            case rel => exact ⟨k + 1, by omega, rfl, by go_num, rfl, HE3⟩
        · have hkI : ¬ (k : Int) < 29 := by omega
          have hE := unhideI HE
          rw [List.drop_eq_nil_of_le (by show sgP.length ≤ k; have : sgP.length = 29 := rfl; omega)] at hE
          have hR : R = ((2 : Int), tk0, 0) := hE.symm
          subst hR
          obtain ⟨WF, hWF, bw, kw⟩ := (unhideI BT).six rfl (.int .i64 0) (.string ⟨#[]⟩) (.int .u64 0) (.int .i64 0) (.bool false) (.int .i64 0)
          have HWF := hideI hWF
          have BW := hideI bw
          have KW := hideI (kw w.heap.size w (unhideI KT) (Nat.le_refl _))
          clear hWF bw kw
          clear hE HE
          go_wp2_with fail
          rw [← unhideI HWF]
          have r0 := (unhideI BW).2.1 0 _ rfl
          have r1 := (unhideI BW).2.1 1 _ rfl
          have r2 := (unhideI BW).2.1 2 _ rfl
          have r3 := (unhideI BW).2.1 3 _ rfl
          have r4 := (unhideI BW).2.1 4 _ rfl
          have r5 := (unhideI BW).2.1 5 _ rfl
          have r6 := (unhideI BW).1
          exact bodyPost_ret (v := .tuple #[.agg (cT tk0).toArray, .int .i64 0, .int .i64 2]) (by simp [results, Tryd.results17, go_sem, r0, r1, r2, r3, r4, r5, r6, cT, tk0, ba]) rfl ⟨rfl, unhideI KW⟩
end Go.Proofs.YtonekpoblgigpaaDoor
