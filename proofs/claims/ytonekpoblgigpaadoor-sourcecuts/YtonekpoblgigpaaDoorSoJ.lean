/-
  Texts: the document's Tokens.
-/
import Derived.Test.YtonekpoblgigpaaDoorSoJ1
import Derived.Test.YtonekpoblgigpaaDoorSoJ2
import Derived.Test.YtonekpoblgigpaaDoorSoJ3
namespace Go.Proofs.YtonekpoblgigpaaDoor
open Go.RowKit
set_option linter.unusedSimpArgs false
set_option linter.unusedVariables false

set_option maxRecDepth 100000 in
set_option maxHeartbeats 8000000 in
theorem tokens8_any (l : List UInt8) (w : World) (hl : l.length ≤ maxLen) : Calls Tryd.prog 9 #[.string (ba l)] w fun e w' => TokRet w (tksA l) e w' := by
  obtain ⟨i0, tq1, tq2, tq3, tq4⟩ := info_parts Tryd.infoTok
  have BF := hideI (Box.new w #[.int .i64 0, .int .i64 0] 26)
  have K0 := hideI (below_a w (.cells #[.int .i64 0, .int .i64 0] 26))
  unfold maxLen at hl
  unfold tksA
  by_cases h6 : 65536 < l.length
  · rw [if_pos h6]
    have h6' : (65536 : Int) < ((ba l).size : Int) := by rw [ba_size]; omega
    go_enter Tryd.func9, Tryd.ntmps9
    go_wp2_with fail
    exact bodyPost_ret (v := .tuple #[.slice none 0 0, .agg #[.int .i64 4, .int .i64 0]]) (by simp [results, Tryd.results9, go_sem]) rfl ⟨_, rfl, Lies.nil _ _, below_a _ _⟩
  · rw [if_neg h6]
    have h6' : ¬ (65536 : Int) < ((ba l).size : Int) := by rw [ba_size]; omega
    have hl6 : l.length ≤ 65536 := by omega
    generalize hR : tks l.length l 0 [] = R
    have HR : Hid (tks l.length (l.drop 0) 0 [] = R) := hR
    have HEX := hideI (fun i j => ba_extract l i j)
    clear hR h6
    go_enter Tryd.func9, Tryd.ntmps9
    go_wp2_with fail
    rename_i Q' K1 a1
    have HQ : Hid (∀ e a v, bodyPost Tryd.prog Tryd.f9 (fun e w' => TokRet w R e w') e a v → Q' e a v) := fun _ _ _ h => h
    clear_value Q'
    have s0 : (w.alloc (.cells #[.int .i64 0, .int .i64 0] 26)).heap.size = w.heap.size + 1 := by simp
    have S0 := hideI s0
    clear s0
    generalize w.alloc (.cells #[.int .i64 0, .int .i64 0] 26) = w1 at *
    go_loopg [4, 5] l.length (fun g vo t wr => ∃ (i f : Nat) (acc : List Tk), i ≤ l.length ∧ g = l.length - i ∧ t = .int .i64 (i : Int) ∧ l.length - i ≤ f ∧ acc.length ≤ i ∧ Hid (wr.ownsRow w1.heap.size 33 6 vo acc.length (acc.flatMap cT)) ∧ Hid (Below w1.heap.size w1 wr) ∧ Hid (tks f (l.drop i) i acc = R))
    case atStart => exact ⟨0, l.length, [], Nat.zero_le _, rfl, rfl, by omega, by simp, World.ownsRow_nil _ _ _ _, Below.refl _ _, HR⟩
    case round =>
      rename_i J K hJ hK
      obtain ⟨i, f, acc, hi, hg, rfl, hf, hac, HO, HB, HE⟩ := hrel
      clear HR
      generalize wr = W0 at *
      replace BF := hideI ((unhideI BF).step (unhideI HB))
      have KW := hideI (bt (unhideI K0) (unhideI HB))
      by_cases hlt : i < l.length
      · have hz : i < (ba l).size := hlt
        have hiI : (i : Int) < ((ba l).size : Int) := by rw [ba_size]; omega
        obtain ⟨f', rfl⟩ : ∃ f', f = f' + 1 := ⟨f - 1, by omega⟩
        have hd := List.drop_eq_getElem_cons hlt
        have ea := ba_at l i hz
        have hch : ch (l[i]'hlt) = (((ba l)[i].toNat : Nat) : Int) := by unfold ch; rw [← ea]
        have hbe : blk (l[i]'hlt) = ((((((ba l)[i].toNat : Nat) : Int) == 32) || ((((ba l)[i].toNat : Nat) : Int) == 9)) || ((((ba l)[i].toNat : Nat) : Int) == 10)) := by unfold blk; rw [hch]
        clear ea
        by_cases h1 : ((((ba l)[i].toNat : Nat) : Int) == 32) = true
        · have hbk : blk (l[i]'hlt) = true := by rw [hbe, h1]; rfl
          clear hbe hch
          have HE2 : Hid (tks f' (l.drop (i + 1)) (i + 1) acc = R) := by
            have := unhideI HE
            rw [hd, tks, if_pos hbk] at this
            exact this
          clear HE hd hbk
          go_wp2_with fail
          go_roundg (l.length - (i + 1))
          case measure => omega
          case rel => exact ⟨i + 1, f', acc, by omega, rfl, by go_num, by omega, by omega, HO, HB, HE2⟩
        · replace h1 : ((((ba l)[i].toNat : Nat) : Int) == 32) = false := by simpa using h1
          by_cases h2 : ((((ba l)[i].toNat : Nat) : Int) == 9) = true
          · have hbk : blk (l[i]'hlt) = true := by rw [hbe, h1, h2]; rfl
            clear hbe hch
            have HE2 : Hid (tks f' (l.drop (i + 1)) (i + 1) acc = R) := by
              have := unhideI HE
              rw [hd, tks, if_pos hbk] at this
              exact this
            clear HE hd hbk
            go_wp2_with fail
            go_roundg (l.length - (i + 1))
            case measure => omega
            case rel => exact ⟨i + 1, f', acc, by omega, rfl, by go_num, by omega, by omega, HO, HB, HE2⟩
          · replace h2 : ((((ba l)[i].toNat : Nat) : Int) == 9) = false := by simpa using h2
            by_cases h3 : ((((ba l)[i].toNat : Nat) : Int) == 10) = true
            · have hbk : blk (l[i]'hlt) = true := by rw [hbe, h1, h2, h3]; rfl
              clear hbe hch
              have HE2 : Hid (tks f' (l.drop (i + 1)) (i + 1) acc = R) := by
                have := unhideI HE
                rw [hd, tks, if_pos hbk] at this
                exact this
              clear HE hd hbk
              go_wp2_with fail
              go_roundg (l.length - (i + 1))
              case measure => omega
              case rel => exact ⟨i + 1, f', acc, by omega, rfl, by go_num, by omega, by omega, HO, HB, HE2⟩
            · replace h3 : ((((ba l)[i].toNat : Nat) : Int) == 10) = false := by simpa using h3
              have hbk : blk (l[i]'hlt) = false := by rw [hbe, h1, h2, h3]; rfl
              clear hbe
              by_cases h4 : ((((ba l)[i].toNat : Nat) : Int) == 47) = true
              · have hx47 : (l[i]'hlt) = 47 := by
                  have : ch (l[i]'hlt) = 47 := by rw [hch]; simpa using h4
                  unfold ch at this
                  exact UInt8.toNat_inj.1 (by have e : (47 : UInt8).toNat = 47 := rfl; omega)
                have hxl : ltr (ch (l[i]'hlt)) = false := by rw [hx47]; rfl
                have hxd : dgt (ch (l[i]'hlt)) = false := by rw [hx47]; rfl
                have hnl : ltr (((ba l)[i].toNat : Nat) : Int) = false := by rw [← hch]; exact hxl
                have hnd : dgt (((ba l)[i].toNat : Nat) : Int) = false := by rw [← hch]; exact hxd
                by_cases hlt2 : i + 1 < l.length
                · have hz2 : i + 1 < (ba l).size := hlt2
                  have hiI2 : (i : Int) + 1 < ((ba l).size : Int) := by rw [ba_size]; omega
                  have hd2 := List.drop_eq_getElem_cons hlt2
                  have ea2 := ba_at l (i + 1) hz2
                  have hch2 : ch (l[i + 1]'hlt2) = (((ba l)[i + 1].toNat : Nat) : Int) := by unfold ch; rw [← ea2]
                  have hisR : isR (l.drop i) = ((((ba l)[i + 1].toNat : Nat) : Int) == 47) := by
                    rw [hd, hd2, ← hch2]
                    unfold isR
                    rw [hx47]
                    have := u8_eq (l[i + 1]'hlt2) 47
                    rw [show ch 47 = 47 from rfl] at this
                    rw [this]; rfl
                  clear ea2 hd2 hch2
                  by_cases h5 : ((((ba l)[i + 1].toNat : Nat) : Int) == 47) = true
                  · exact tok_rem tq1 tq2 tq3 tq4 hl6 (Int.not_lt.2 h6') HQ S0 hJ hK hi hg hf hac HE HO HB BF KW hlt hz hiI hch h1 h2 h3 hbk h4 hlt2 hz2 hiI2 hisR h5
                  · replace h5 : ((((ba l)[i + 1].toNat : Nat) : Int) == 47) = false := by simpa using h5
                    have hnr : isR ((l[i]'hlt) :: l.drop (i + 1)) = false := by rw [← hd, hisR]; exact h5
                    clear hisR hx47
                    exact tok_sga tq1 tq2 tq3 tq4 hl6 (Int.not_lt.2 h6') HQ S0 hJ hK hi hg hf hac HE HO HB BF KW hlt hz hiI hch h1 h2 h3 hbk h4 hiI2 hz2 h5 hnr hxl hxd hnl hnd
                · have hiI2 : ¬ (i : Int) + 1 < ((ba l).size : Int) := by rw [ba_size]; omega
                  have hnr : isR ((l[i]'hlt) :: l.drop (i + 1)) = false := by rw [List.drop_eq_nil_of_le (by omega)]; rfl
                  clear hx47
                  exact tok_sgb tq1 tq2 tq3 tq4 hl6 (Int.not_lt.2 h6') HQ S0 hJ hK hi hg hf hac HE HO HB BF KW hlt hz hiI hch h1 h2 h3 hbk h4 hiI2 hnr hxl hxd hnl hnd
              · replace h4 : ((((ba l)[i].toNat : Nat) : Int) == 47) = false := by simpa using h4
                have hx47 : (l[i]'hlt) ≠ 47 := fun e => by
                  have : (((ba l)[i].toNat : Nat) : Int) = 47 := by rw [← hch, e]; rfl
                  rw [this] at h4; cases h4
                have hnr : isR ((l[i]'hlt) :: l.drop (i + 1)) = false := by
                  unfold isR
                  split
                  · rename_i x y r e
                    injection e with e1 e2
                    rw [← e1, beq_eq_false_iff_ne.2 hx47]; rfl
                  · rfl
                clear hx47
                by_cases hxl : ltr (ch (l[i]'hlt)) = true
                · exact tok_word tq1 tq2 tq3 tq4 hl6 (Int.not_lt.2 h6') HQ S0 hJ hK hi hg hf hac HE HO HB BF KW hlt hz hiI hch h1 h2 h3 hbk h4 hnr hxl
                · replace hxl : ltr (ch (l[i]'hlt)) = false := by simpa using hxl
                  have hnl : ltr (((ba l)[i].toNat : Nat) : Int) = false := by rw [← hch]; exact hxl
                  by_cases hxd : dgt (ch (l[i]'hlt)) = true
                  · exact tok_num tq1 tq2 tq3 tq4 hl6 (Int.not_lt.2 h6') HQ S0 hJ hK hi hg hf hac HE HO HB BF KW hlt hz hiI hch h1 h2 h3 hbk h4 hnr hxl hnl hxd
                  · replace hxd : dgt (ch (l[i]'hlt)) = false := by simpa using hxd
                    have hnd : dgt (((ba l)[i].toNat : Nat) : Int) = false := by rw [← hch]; exact hxd
                    exact tok_sgc tq1 tq2 tq3 tq4 hl6 (Int.not_lt.2 h6') HQ S0 hJ hK hi hg hf hac HE HO HB BF KW hlt hz hiI hch h1 h2 h3 hbk h4 hnr hxl hxd hnl hnd
      · have hiI : ¬ (i : Int) < ((ba l).size : Int) := by rw [ba_size]; omega
        have hR : R = (acc, 0, 0) := by
          rw [← unhideI HE, List.drop_eq_nil_of_le (by omega)]
          cases f <;> rfl
        subst hR
        have y0 := (unhideI BF).2.1 0 _ rfl
        have y1 := (unhideI BF).2.1 1 _ rfl
        have y2 := (unhideI BF).2.2
        have y4 := (unhideI BF).1
        have TO : Hid (Tks W0 u4 acc) := Lies.owned (unhideI HO)
        clear HE
        obtain ⟨oa, oc, rfl⟩ := own_slice5 (unhideI HO)
        have hob : ∀ k, (Value.slice oa acc.length oc).ownBlock = some k → k ≠ w.heap.size := fun k hk => by
          have h1 := ((unhideI HO).lt k hk).1
          have h2 := unhideI S0
          omega
        have TF := hideI (Lies.other (Lies.other (unhideI TO) (b := w.heap.size) (j := 0) (u := .int .i64 0) hob) (b := w.heap.size) (j := 1) (u := .int .i64 0) hob)
        go_wp2_with fail
        exact unhideI HQ _ _ _ (bodyPost_ret (v := .tuple #[.slice oa acc.length oc, .agg #[.int .i64 0, .int .i64 0]]) (by simp [results, Tryd.results9, go_sem, y0, y1, y2, y4]) rfl ⟨_, rfl, unhideI TF, (by repeat (first | exact unhideI KW | refine Below.setCell ?_ (by first | exact Nat.le_refl _ | (simp; done) | omega | (simp; omega)) _ | refine Below.alloc ?_ (by first | (simp; done) | omega | (simp; omega)) _))⟩)
end Go.Proofs.YtonekpoblgigpaaDoor
