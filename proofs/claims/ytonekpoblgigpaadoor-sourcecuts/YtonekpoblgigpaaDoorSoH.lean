/-
  Texts: source.Tokens.
-/
import Derived.Test.YtonekpoblgigpaaDoorSoG
namespace Go.Proofs.YtonekpoblgigpaaDoor
open Go.RowKit
set_option linter.unusedSimpArgs false
set_option linter.unusedVariables false

theorem own_slice5 {w : World} {B e s n : Nat} {v : Value} {cs : List Value} (h : w.ownsRow B e s v n cs) : ∃ ao cap, v = .slice ao n cap := by
  rcases h.2 with ⟨rfl, hn⟩ | ⟨g, cap, cur, rfl, _⟩
  · exact ⟨none, 0, by rw [hn]⟩
  · exact ⟨_, _, rfl⟩
theorem cells_c1 (u : World) (l : List Value) (T : TypeId) (B : Nat) (hB : B = u.heap.size) : ∀ j x, l[j]? = some x → (u.alloc (.cells l.toArray T)).cell? ((⟨B, 0, none⟩ : Addr).add j) = some x := by
  intro j x hx
  subst hB
  have e : ((⟨u.heap.size, 0, none⟩ : Addr).add j) = ⟨u.heap.size, j, none⟩ := by unfold Addr.add; split <;> simp_all
  rw [e]
  exact (Box.new u l.toArray T).2.1 j x (by simpa using hx)
set_option maxRecDepth 100000 in
set_option maxHeartbeats 4000000 in
theorem tokens_any (l : List UInt8) (w : World) (hG : Gs w) (hl : l.length ≤ maxLen) : Calls Tryd.prog 8 #[.string (ba l)] w fun e w' => TokRet w (tksA l) e w' := by
  obtain ⟨i0, hi0, hz0, hz1, hz2⟩ := info_parts Tryd.infoTok
  have BF := hideI (Box.new w #[.int .i64 0, .int .i64 0] 26)
  have K0 := hideI (below_a w (.cells #[.int .i64 0, .int .i64 0] 26))
  unfold maxLen at hl
  unfold tksA
  by_cases h6 : 65536 < l.length
  · rw [if_pos h6]
    have h6' : (65536 : Int) < ((ba l).size : Int) := by rw [ba_size]; omega
    go_enter Tryd.func8, Tryd.ntmps8
    go_wp2_with fail
    exact bodyPost_ret (v := .tuple #[.slice none 0 0, .agg #[.int .i64 4, .int .i64 0]]) (by simp [results, Tryd.results8, go_sem]) rfl ⟨_, rfl, Lies.nil _ _, below_a _ _⟩
  · rw [if_neg h6]
    have h6' : ¬ (65536 : Int) < ((ba l).size : Int) := by rw [ba_size]; omega
    have hl6 : l.length ≤ 65536 := by omega
    have SK := hideI (fun (a : Nat) (ha : a ≤ l.length) W => skipped_any l a W hl6 ha)
    have SK0 := hideI (fun W => unhideI SK 0 (Nat.zero_le _) W)
    have hs0 := skp_le l.length l
    generalize hR : tks l.length l 0 [] = R
    rw [tks_skip l.length l 0 [] l.length (Nat.le_refl _) (Nat.le_refl _), Nat.zero_add] at hR
    have HR := hideI hR
    have HST := hideI (skp_stp l.length l (Nat.le_refl _))
    have HG := hideI (hG.step (unhideI K0))
    rw [List.drop_zero, Nat.zero_add] at SK0
    generalize skp l.length l = a0 at *
    clear hR hG h6
    go_enter Tryd.func8, Tryd.ntmps8
    go_wp2_with fail
    have s0 : (w.alloc (.cells #[.int .i64 0, .int .i64 0] 26)).heap.size = w.heap.size + 1 := by simp
    have S0 := hideI s0
    clear s0
    generalize w.alloc (.cells #[.int .i64 0, .int .i64 0] 26) = w1 at *
    refine (unhideI SK0 _).mono ?_
    rintro e w2 ⟨rfl, hw⟩
    subst w2
    go_wp2_with fail
    go_loopg [4, 5] (l.length - a0) (fun g vo t wr => ∃ (i f : Nat) (acc : List Tk), i ≤ l.length ∧ g = l.length - i ∧ t = .int .i64 (i : Int) ∧ l.length - i ≤ f ∧ acc.length ≤ i ∧ Hid (wr.ownsRow w1.heap.size 33 6 vo acc.length (acc.flatMap cT)) ∧ Hid (Below w1.heap.size w1 wr) ∧ Hid (stp (l.drop i)) ∧ Hid (tks f (l.drop i) i acc = R))
    case atStart => exact ⟨a0, l.length, [], hs0, rfl, rfl, by omega, by simp, World.ownsRow_nil _ _ _ _, Below.refl _ _, HST, HR⟩
    case round =>
      obtain ⟨i, f, acc, hi, hg, rfl, hf, hac, HO, HB, HS, HE⟩ := hrel
      clear HR HST
      replace BF := hideI ((unhideI BF).step (unhideI HB))
      have KW := hideI (bt (unhideI K0) (unhideI HB))
      by_cases hlt : i < l.length
      · have hiI : (i : Int) < ((ba l).size : Int) := by rw [ba_size]; omega
        have hiI2 : (i : Int) ≤ ((ba l).size : Int) := by omega
        obtain ⟨f', rfl⟩ : ∃ f', f = f' + 1 := ⟨f - 1, by omega⟩
        have hd := List.drop_eq_getElem_cons hlt
        have hE := unhideI HE
        have hS := unhideI HS
        rw [hd] at hE hS
        rw [tks, if_neg (by rw [hS.1]; decide), if_neg (by rw [hS.2]; decide)] at hE
        have hlr : (l[i] :: l.drop (i + 1)).length ≤ l.length - i := by rw [← hd, List.length_drop]; exact Nat.le_refl _
        have TA := hideI (fun W g => tokenOf_any (l[i]'hlt) (l.drop (i + 1)) W (by omega) g)
        have TL := hideI (tok1_len (x := l[i]'hlt) (r := l.drop (i + 1)))
        have HD1 := hideI (show (ba l).extract i (ba l).size = ba (l[i] :: l.drop (i + 1)) by rw [ba_drop, hd])
        have HDR := hideI hd
        have HE2 := hideI hE
        clear hE hS HS HE hd
        generalize tok1 (l[i] :: l.drop (i + 1)) = TT at *
        obtain ⟨te, ⟨tk, tt, tn, tb, tg, ta⟩, tl⟩ := TT
        dsimp only [cT] at *
        go_wp2_with fail
        rw [unhideI HD1]
        refine (unhideI TA _ ((unhideI HG).step (unhideI HB))).mono ?_
        rintro e w3 ⟨rfl, k3⟩
        have O3 := hideI (own_step (unhideI HO) k3)
        have K3 := hideI ((unhideI HB).trans (k3.mono (unhideI HB).size))
        replace BF := hideI ((unhideI BF).step k3)
        replace KW := hideI (bt (unhideI KW) k3)
        clear k3 TA HD1
        by_cases hz : te = 0
        · subst hz
          have hE := unhideI HE2
          rw [if_pos rfl] at hE
          obtain ⟨tl1, tl2⟩ := unhideI TL rfl
          have htl : i + tl ≤ l.length := by omega
          rw [← unhideI HDR, List.drop_drop] at hE
          have hlen : (l.drop (i + tl)).length ≤ l.length := by rw [List.length_drop]; omega
          rw [tks_skip l.length (l.drop (i + tl)) (i + tl) _ f' hlen (by rw [List.length_drop]; omega), List.drop_drop] at hE
          have SK2 := hideI (fun W => unhideI SK (i + tl) htl W)
          have hsl := skp_le l.length (l.drop (i + tl))
          rw [List.length_drop] at hsl
          have hst := skp_stp l.length (l.drop (i + tl)) hlen
          rw [List.drop_drop] at hst
          generalize skp l.length (l.drop (i + tl)) = S at *
          have HE3 := hideI hE
          have HS3 := hideI hst
          have hi6 : i ≤ 65536 := by omega
          clear hE hst HE2 HDR TL
          have k4 := below_a w3 (.cells #[.int .i64 tk, .string (ba tt), .int .u64 tn, .int .i64 tb, .bool tg, .int .i64 (i : Int)] 33)
          have O4 := hideI (own_step (unhideI O3) k4)
          have K4 := hideI ((unhideI K3).trans (k4.mono (unhideI K3).size))
          have s4 := (unhideI K4).size
          clear k4
          go_wp2_with (at_builtin; refine wpList_append_own _ rfl (.tmp 34) (.tmp 36) 23 rfl w1.heap.size 33 i0 (.agg #[.int .i64 0, .string ⟨#[]⟩, .int .u64 0, .int .i64 0, .bool false, .int .i64 0]) 6 56 Tryd.underlying23 hi0 hz0 hz1 hz2 rfl (by decide) _ _ _ rfl ((unhideI O4).alloc _) ⟨_, 0, none⟩ 1 1 (cT ⟨tk, tt, tn, tb, tg, (i : Int)⟩) rfl rfl (cells_c1 _ (cT ⟨tk, tt, tn, tb, tg, (i : Int)⟩) _ _ (by simp)) (cT_one _) (by unfold maxLen; omega) (by omega) (by simp at s4 ⊢; omega) ?_; intro v5 w5 own5 grow5 _; have O5 := hideI (own_tok (P := acc) (p := ⟨tk, tt, tn, tb, tg, (i : Int)⟩) own5 rfl rfl); have K5 := hideI (below_own ((unhideI K4).alloc (by simp at s4 ⊢; omega) _) (by simp at s4 ⊢; omega) ((unhideI O4).alloc _) grow5); clear own5 grow5)
          refine (unhideI SK2 _).mono ?_
          rintro e w6 ⟨rfl, hw⟩
          subst w6
          go_wp2_with fail
          go_roundg (l.length - (i + tl + S))
          case measure => omega
          case rel => exact ⟨i + tl + S, f', acc ++ [⟨tk, tt, tn, tb, tg, (i : Int)⟩], by omega, rfl, by go_num, by omega, by simp; omega, O5, K5, HS3, HE3⟩
        · have hzb : (te != 0) = true := by simpa using hz
          have hR : R = ([], te, (i : Int)) := by rw [← unhideI HE2, if_neg hz]
          subst hR
          clear HE2 HDR TL
          have y0 := (unhideI BF).2.1 0 _ rfl
          have y1 := (unhideI BF).2.1 1 _ rfl
          have y2 := (unhideI BF).2.2
          have y4 := (unhideI BF).1
          go_wp2_with fail
          exact bodyPost_ret (v := .tuple #[.slice none 0 0, .agg #[.int .i64 te, .int .i64 (i : Int)]]) (by simp [results, Tryd.results8, go_sem, y0, y1, y2, y4]) rfl ⟨_, rfl, Lies.nil _ _, (by repeat (first | exact unhideI KW | refine Below.setCell ?_ (by first | exact Nat.le_refl _ | (simp; done) | omega | (simp; omega)) _ | refine Below.alloc ?_ (by first | (simp; done) | omega | (simp; omega)) _))⟩
      · have hiI : ¬ (i : Int) < ((ba l).size : Int) := by rw [ba_size]; omega
        have hR : R = (acc, 0, 0) := by
          rw [← unhideI HE, List.drop_eq_nil_of_le (by omega)]
          cases f <;> rfl
        subst hR
        have y0 := (unhideI BF).2.1 0 _ rfl
        have y1 := (unhideI BF).2.1 1 _ rfl
        have y2 := (unhideI BF).2.2
        have y4 := (unhideI BF).1
        have TO : Hid (Tks wr u4 acc) := Lies.owned (unhideI HO)
        clear HE HS
        obtain ⟨oa, oc, rfl⟩ := own_slice5 (unhideI HO)
        have hob : ∀ k, (Value.slice oa acc.length oc).ownBlock = some k → k ≠ w.heap.size := fun k hk => by
          have h1 := ((unhideI HO).lt k hk).1
          have h2 := unhideI S0
          omega
        have TF := hideI (Lies.other (Lies.other (unhideI TO) (b := w.heap.size) (j := 0) (u := .int .i64 0) hob) (b := w.heap.size) (j := 1) (u := .int .i64 0) hob)
        go_wp2_with fail
        exact bodyPost_ret (v := .tuple #[.slice oa acc.length oc, .agg #[.int .i64 0, .int .i64 0]]) (by simp [results, Tryd.results8, go_sem, y0, y1, y2, y4]) rfl ⟨_, rfl, unhideI TF, (by repeat (first | exact unhideI KW | refine Below.setCell ?_ (by first | exact Nat.le_refl _ | (simp; done) | omega | (simp; omega)) _ | refine Below.alloc ?_ (by first | (simp; done) | omega | (simp; omega)) _))⟩
end Go.Proofs.YtonekpoblgigpaaDoor
