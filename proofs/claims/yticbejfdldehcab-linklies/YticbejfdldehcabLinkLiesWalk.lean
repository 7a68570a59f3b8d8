/-
  LinkLies, walked.
-/
import Derived.Test.YticbejfdldehcabAlive5
import Derived.Test.YticbejfdldehcabLkH
import Derived.Test.YticbejfdldehcabLkV3
import Derived.Test.YticbejfdldehcabLkU
import Derived.Test.YticbejfdldehcabRefI
namespace Go.Proofs.Yticbejfdldehcab
open Go.RowKit Go.Maps
set_option linter.unusedSimpArgs false
set_option linter.unusedVariables false

theorem lies_lt {w : World} {s n b : Nat} {v : Value} {cs : List Value} (h : Lies w s v n cs) (hb : v.ownBlock = some b) (hn : n ≠ 0) : b < w.heap.size := by
  obtain ⟨-, ao, cap, rfl, -, -, -, h5⟩ := h
  obtain ⟨b', off, rfl, h1, -⟩ := h5 hn
  obtain rfl : b' = b := Option.some.inj hb
  exact h1
theorem dec_lies {us : List Un} {R : Im} {O : Nmd} {P : List (Pt × Nat)} (h : LiesF us R O P) : decA R.words = ((R.units.flatMap fun m => insL O P m.toNat (uLn us m)).map bare, 0, 0) := by
  unfold decA
  rw [if_pos h.short, h.words, dec_flat _ _ 0 [] h.right (Nat.le_refl _)]
  simp
theorem spM_snoc (l : List (ByteArray × Int)) (k : Nat) (h : k < l.length) : spM (l.take (k + 1)) = spM (l.take k) ++ [((l[k]'h).1.toList, (l[k]'h).2)] := by
  unfold spM; rw [List.take_add_one, List.getElem?_eq_getElem h, Option.toList_some, List.map_append]; rfl
theorem spM_new {l : List (ByteArray × Int)} (hp : (spM l).Pairwise (fun a b => a.1 ≠ b.1)) (k : Nat) (h : k < l.length) : hasA (spM (l.take k)) (l[k]'h).1.toList = false := by
  cases e : hasA (spM (l.take k)) (l[k]'h).1.toList with
  | false => rfl
  | true =>
    have hm := atA_mem e
    unfold spM at hp hm
    rw [List.pairwise_map] at hp
    obtain ⟨z, hz, hze⟩ := List.mem_map.1 hm
    obtain ⟨i, hi, hzi⟩ := List.getElem_of_mem hz
    rw [List.length_take] at hi
    rw [List.getElem_take] at hzi
    have := List.pairwise_iff_getElem.1 hp i k (by omega) h (by omega)
    rw [hzi] at this
    exact absurd (Prod.mk.inj hze).1 this
theorem wl_le : ∀ l : List Ln, 0 ≤ wl l ∧ wl l ≤ 2 * (l.length : Int)
  | [] => by simp [wl]
  | x :: l => by
    have := wl_le l
    have := lng_in x.i.o
    rw [wl, List.length_cons]
    split <;> omega
theorem insL_append (O : Nmd) (P : List (Pt × Nat)) (m : Nat) (a b : List Ln) : insL O P m (a ++ b) = insL O P m a ++ insL O P m b := by unfold insL; rw [List.filter_append, List.map_append]
/-- The instruction of a line, where it stands among all. -/
theorem ins_at {us : List Un} {O : Nmd} {P : List (Pt × Nat)} {os : List Int} (j : Nat) (hj : j < os.length) (q : Nat) (hq : q < (uLn us (os[j]'hj)).length) (he : emp ((uLn us (os[j]'hj))[q]'hq).lab = true) : (os.flatMap fun m => insL O P m.toNat (uLn us m))[((os.take j).flatMap fun m => insL O P m.toNat (uLn us m)).length + (insL O P (os[j]'hj).toNat ((uLn us (os[j]'hj)).take q)).length]? = some (insX O P (os[j]'hj).toNat ((uLn us (os[j]'hj))[q]'hq)) := by
  have e1 : os = os.take j ++ (os[j]'hj :: os.drop (j + 1)) := by rw [← List.drop_eq_getElem_cons hj, List.take_append_drop]
  have e2 : uLn us (os[j]'hj) = (uLn us (os[j]'hj)).take q ++ ((uLn us (os[j]'hj))[q]'hq :: (uLn us (os[j]'hj)).drop (q + 1)) := by rw [← List.drop_eq_getElem_cons hq, List.take_append_drop]
  conv => lhs; arg 1; rw [e1]
  rw [List.flatMap_append, List.flatMap_cons, List.getElem?_append_right (by omega)]
  rw [Nat.add_sub_cancel_left]
  conv => lhs; arg 1; arg 1; rw [e2]
  rw [insL_append, insL_ins he, List.append_assoc, List.getElem?_append_right (Nat.le_refl _), Nat.sub_self]
  rfl
theorem insL_take (O : Nmd) (P : List (Pt × Nat)) (m : Nat) (l : List Ln) (q : Nat) (hq : q < l.length) : (insL O P m (l.take (q + 1))).length = (insL O P m (l.take q)).length + (if emp (l[q]'hq).lab = true then 1 else 0) := by
  rw [List.take_add_one, List.getElem?_eq_getElem hq, Option.toList_some, insL_append, List.length_append]
  congr 1
  split
  · rename_i h; rw [insL_ins h]; rfl
  · rename_i h; rw [insL_lab (by simpa using h)]; rfl

set_option maxRecDepth 100000 in
set_option maxHeartbeats 8000000 in
theorem walk_linkLies (us : List Un) (s : ByteArray) (v : Value) (w : World) (hU : Uns w v us) (_ : ∀ u ∈ us, UnOk u) (hs : s.size ≤ maxLen) :
    Calls Try.prog 5 #[v, .string s] w fun e w' => e = .returned (.bool true) ∧ Below w.heap.size w w' := by
  have HU := hideI hU
  obtain ⟨ao, cap, rfl, humax, huat⟩ := hU
  have HUA := hideI huat
  have LA := fun w h => link_any us (.slice ao us.length cap) s w h hs
  unfold LinkRet at LA
  have LL := fun h => link_lies (us := us) (e := s.toList) h
  generalize linkL us s.toList = R at *
  obtain ⟨⟨zs, os, sp⟩, er, ef⟩ := R
  dsimp only at LA LL
  clear huat
  have hmm := @run_makeMap Try.prog
  have W0 : World := w
  have W0 : World := w
  by_cases her : er = 0
  · subst her
    obtain ⟨O, P, LF⟩ := LL rfl
    have HF := hideI LF
    have DA := fun v w h => decode_any zs v w h
    have dl := dec_lies LF
    dsimp only at dl
    rw [dl] at DA
    clear LL LF dl
    generalize hIL : (os.flatMap fun m => insL O P m.toNat (uLn us m)) = IL at *
    have HIL := hideI hIL
    clear hIL
    go_enter Try.func5, Try.ntmps5
    go_wp2_with fail
    refine (alive5 _).mono ?_
    rintro e w1 ⟨rfl, k1⟩
    go_wp2_with fail
    refine (LA _ ((unhideI HU).step k1)).mono ?_
    rintro e w3 ⟨vw, vu, vs, rfl, i1, i2, i3, k3⟩
    have I1 := hideI i1
    have I2 := hideI i2
    have I3 := hideI i3
    obtain ⟨b1, o1, rfl, m1, -⟩ := i1.at
    obtain ⟨b2, o2, rfl, m2, -⟩ := i2.at
    obtain ⟨-, sa, sc, rfl, -⟩ := i3
    have K3 := hideI (bt k1 k3)
    clear k1 k3 i1 i2 LA
    have KA4 := bt (below_a w3 (.cells #[.slice b1 zs.length o1, .slice b2 os.length o2, .slice sa sp.length sc] 26)) (below_a _ (.cells #[.int .i64 0, .int .i64 ef] 29))
    have BI4 := hideI ((Box.new w3 #[.slice b1 zs.length o1, .slice b2 os.length o2, .slice sa sp.length sc] 26).step (below_a _ (.cells #[.int .i64 0, .int .i64 ef] 29)))
    have BF4 := hideI (Box.new (w3.alloc (.cells #[.slice b1 zs.length o1, .slice b2 os.length o2, .slice sa sp.length sc] 26)) #[.int .i64 0, .int .i64 ef] 29)
    simp only [World.size_alloc] at BF4
    have K4 := hideI (bt (unhideI K3) KA4)
    have J1 := hideI (Lies.step (unhideI I1) KA4)
    have K34 := hideI KA4
    clear KA4
    have D4 := DA _ _ (unhideI J1)
    go_wp2_with fail
    generalize (w3.alloc (.cells #[.slice b1 zs.length o1, .slice b2 os.length o2, .slice sa sp.length sc] 26)).alloc (.cells #[.int .i64 0, .int .i64 ef] 29) = w4 at *
    refine D4.mono ?_
    rintro e w5 ⟨vd, rfl, i5, o5, k5⟩
    have I5 := hideI i5
    obtain ⟨b5, c5, rfl, m5, -⟩ := i5.at
    rw [List.length_map] at m5
    have BI5 := hideI ((unhideI BI4).step k5)
    have BF5 := hideI ((unhideI BF4).step k5)
    have K5 := hideI (bt (unhideI K4) k5)
    obtain ⟨f0, f1⟩ := (unhideI BF5).at2
    have f2 := (unhideI BF5).2.2
    have s3 := (unhideI K3).size
    have s5 := (unhideI BF5).1
    have KS : Kpt (fun k => k = w3.heap.size + 1) w5 ((w5.setCell ⟨w3.heap.size + 1, 0, none⟩ (.int .i64 0)).setCell ⟨w3.heap.size + 1, 1, none⟩ (.int .i64 0)) := Kpt.set2 _ _ _ _
    have BI6 := hideI ((unhideI BI5).kpt KS (by omega))
    have BF6 := hideI (((unhideI BF5).set (j := 0) (u := .int .i64 0) (by simp)).set (j := 1) (u := .int .i64 0) (by simp))
    have K6 := hideI ((unhideI K5).trans (KS.below (by omega) (fun k hk => by omega)))
    have I6 := hideI (lies_kpt i5 KS (fun b hb hn e => by have := o5 b hb; have := (unhideI BF4).1; omega))
    have KM := below_a ((w5.setCell ⟨w3.heap.size + 1, 0, none⟩ (.int .i64 0)).setCell ⟨w3.heap.size + 1, 1, none⟩ (.int .i64 0)) (.map #[] 0)
    have s6 : ((w5.setCell ⟨w3.heap.size + 1, 0, none⟩ (.int .i64 0)).setCell ⟨w3.heap.size + 1, 1, none⟩ (.int .i64 0)).heap.size = w5.heap.size := by simp
    have M7 := hideI (Mp.made ((w5.setCell ⟨w3.heap.size + 1, 0, none⟩ (.int .i64 0)).setCell ⟨w3.heap.size + 1, 1, none⟩ (.int .i64 0)))
    rw [s6] at M7
    have BI7 := hideI ((unhideI BI6).step KM)
    have K7 := hideI (bt (unhideI K6) KM)
    have I7 := hideI (Lies.step (unhideI I6) KM)
    have K37 := hideI (((unhideI K34).trans (k5.mono (unhideI K34).size)).trans ((KS.below (B := w3.heap.size) (by omega) (fun k hk => by omega)).trans (KM.mono (by rw [s6]; omega))))
    have J2 := hideI (Lies.step (unhideI I2) (unhideI K37))
    have J3 := hideI (Lies.step (unhideI I3) (unhideI K37))
    have s7 : (((w5.setCell ⟨w3.heap.size + 1, 0, none⟩ (.int .i64 0)).setCell ⟨w3.heap.size + 1, 1, none⟩ (.int .i64 0)).alloc (.map #[] 0)).heap.size = w5.heap.size + 1 := by simp
    obtain ⟨q0, q1, q2⟩ := (unhideI BI7).at3
    have ls3 := fun b hb hn => lies_lt (b := b) (unhideI I3) hb hn
    have ls2 := fun b hb hn => lies_lt (b := b) (unhideI I2) hb hn
    have hl5 : w3.heap.size + 1 < w5.heap.size := s5
    have HLS3 := hideI ls3
    have HLS2 := hideI ls2
    have HLI := hideI (fun b hb hn => lies_lt (b := b) (unhideI I5) hb hn)
    clear KS KM D4 k5 ls3 ls2 s6
    go_wp2_with fail
    clear q0 q1 q2 f0 f1 f2 hmm W0
    generalize ((w5.setCell ⟨w3.heap.size + 1, 0, none⟩ (.int .i64 0)).setCell ⟨w3.heap.size + 1, 1, none⟩ (.int .i64 0)).alloc (.map #[] 0) = w7 at *
    generalize w5.heap.size = mb at *
    go_loopg [46] sp.length (fun g ii wr => ∃ (i : Nat), i ≤ sp.length ∧ g = sp.length - i ∧ ii = .int .i64 i ∧ Hid (Mp wr mb (spM (sp.take i))) ∧ Hid (Kpt (fun k => k = mb) w7 wr))
    case atStart => exact ⟨0, Nat.zero_le _, rfl, rfl, M7, Kpt.refl _ _⟩
    case round =>
      obtain ⟨i, hi, hg, rfl, HM, HK⟩ := hrel
      clear M7
      by_cases hlt : i < sp.length
      · have J3r := lies_kpt (unhideI J3) (unhideI HK) (fun b hb hn e => by have := (unhideI HLS3) b hb hn; omega)
        obtain ⟨a', c', e', hspm, hat⟩ := Spts.at J3r
        injection e' with e1 e2 e3
        subst e1
        unfold maxLen at hspm
        obtain ⟨pb, po, rfl, hpl, hpc⟩ := hat (by intro h; rw [h] at hlt; simp at hlt)
        obtain ⟨z0, z1⟩ := hpc i hlt
        have hz := (unhideI HF).spot (sp[i]'hlt) (List.getElem_mem hlt)
        have hnew := spM_new (unhideI HF).once i hlt
        have hsn := hideI (spM_snoc sp i hlt)
        dsimp only at hnew
        generalize (sp[i]'hlt) = z at *
        obtain ⟨zn, za⟩ := z
        dsimp only at *
        have BZ := hideI (Box.new wr #[.string zn, .int .i64 za] 49)
        have KZ := below_a wr (.cells #[.string zn, .int .i64 za] 49)
        have MZ := hideI ((unhideI HM).step KZ)
        have HK2 := hideI ((unhideI HK).trans (Kpt.of (X := fun _ => False) KZ) (Z := fun k => k = mb) (fun _ h => h) (fun _ h _ => h.elim))
        obtain ⟨y0, y1⟩ := (unhideI BZ).at2
        have hzs : zn.size ≤ maxLen := by unfold maxLen; omega
        have hAl : (spM (sp.take i)).length < maxLen := by unfold spM maxLen; rw [List.length_map, List.length_take]; omega
        clear KZ J3r hat hpc e2 e3
        go_wp2_with (at_mapUpdate; refine wpList_put rfl (.tmp 50) (.tmp 52) (.tmp 54) rfl mb (spM (sp.take i)) rfl (unhideI MZ) hAl zn rfl hzs za rfl (WalkArith.wf_i64 (by omega)) hnew ?_; intro w8 m8 r8; have M8 := hideI m8; have R8 := hideI r8; clear m8 r8 y0 y1)
        rw [← unhideI hsn] at M8
        have HK3 := hideI ((unhideI HK2).trans (Kpt.grown (X := fun k => k = mb) (unhideI R8) (fun k hk => by cases hk; rfl)) (Z := fun k => k = mb) (fun _ h => h) (fun _ h _ => h))
        go_roundg (sp.length - (i + 1))
        case measure => omega
        case rel => exact ⟨i + 1, by omega, rfl, by go_num, M8, HK3⟩
      · have hil : i = sp.length := by omega
        subst hil
        rw [List.take_length] at HM
        have hw7 : mb + 1 ≤ wr.heap.size := by have := (unhideI HK).size; omega
        have hww3 : w.heap.size ≤ w3.heap.size := (unhideI K3).size
        have BI8 := hideI ((unhideI BI7).kpt (unhideI HK) (by omega))
        have J28 := hideI (lies_kpt (unhideI J2) (unhideI HK) (fun b hb hn e => by have := (unhideI HLS2) b hb hn; omega))
        have I8 := hideI (lies_kpt (unhideI I7) (unhideI HK) (fun b hb hn e => by have := (unhideI HLI) b hb hn; omega))
        have K8 := hideI ((unhideI K7).trans ((unhideI HK).below (B := w.heap.size) (by omega) (fun k hk => by omega)))
        have hmbl := (unhideI HM).lt
        obtain ⟨q0, q1, q2⟩ := (unhideI BI8).at3
        clear HK BI7 J2 J3 I7 K7 K37 HLS3 HLS2 HLI s7
        generalize wr = w8 at *
        go_wp2_with fail
        clear q1 q2
        go_loopg [11, 12, 59] os.length (fun g vk va ii wr => ∃ (j kk : Nat) (aa : Int), j ≤ os.length ∧ g = os.length - j ∧ ii = .int .i64 j ∧ vk = .int .i64 kk ∧ va = .int .i64 aa ∧ Hid (kk = ((os.take j).flatMap fun m => insL O P m.toNat (uLn us m)).length) ∧ Hid (aa = sumN P (os.take j)) ∧ Hid (Below w8.heap.size w8 wr))
        case atStart => exact ⟨0, 0, 0, Nat.zero_le _, rfl, rfl, rfl, rfl, by show _ = _; simp, by show _ = _; simp [sumN], Below.refl _ _⟩
        case round =>
          obtain ⟨j, kk, aa, hj, hg, rfl, rfl, rfl, HKK, HAA, HB⟩ := hrel
          have hkk := unhideI HKK
          have haa := unhideI HAA
          by_cases hlt : j < os.length
          · obtain ⟨a', c', e', hosm, hoat⟩ := (Ints.at (unhideI J28))
            unfold maxLen at hosm
            injection e' with e1 e2 e3
            subst e1
            obtain ⟨ob, oof, rfl, hobl, hocell⟩ := hoat (by intro h; rw [h] at hlt; simp at hlt)
            have co := cell_keep (unhideI HB) hobl (hocell j hlt)
            have hom := (unhideI HF).inU _ (List.getElem_mem hlt)
            have LAB := (unhideI HF).lab j hlt
            have REF := (unhideI HF).ref j hlt
            have RT := (unhideI HF).lines _ (List.getElem_mem hlt)
            have FEW := (unhideI HF).few _ (List.getElem_mem hlt)
            have SUM := (unhideI HF).sum j hlt
            have BEG := (unhideI HF).beg j hj
            have INS := fun q hq he => ins_at (us := us) (O := O) (P := P) j hlt q hq he
            have KLN : ((os.take (j + 1)).flatMap fun m => insL O P m.toNat (uLn us m)).length = ((os.take j).flatMap fun m => insL O P m.toNat (uLn us m)).length + (insL O P (os[j]'hlt).toNat (uLn us (os[j]'hlt))).length := by
              rw [List.take_add_one, List.getElem?_eq_getElem hlt, Option.toList_some, List.flatMap_append, List.length_append]; simp
            rw [unhideI HIL] at INS
            dsimp only at LAB REF RT FEW SUM BEG hom
            rw [← hkk] at INS KLN
            rw [← haa] at LAB REF SUM BEG
            obtain ⟨m, hm⟩ : ∃ m : Nat, (os[j]'hlt) = m := ⟨(os[j]'hlt).toNat, by omega⟩
            rw [hm] at co hom
            have hmU : m < us.length := by omega
            obtain ⟨ub, uof, uf, rfl, hubl, hucell⟩ := (unhideI HUA) (by intro h; rw [h] at hmU; simp at hmU)
            obtain ⟨-, u1, uL⟩ := hucell m hmU
            have hln : (us[m]'hmU).lines = uLn us (os[j]'hlt) := by rw [hm, uLn_at hmU]
            rw [hln] at uL
            have hmt : (os[j]'hlt).toNat = m := by rw [hm]; rfl
            rw [hmt] at REF INS KLN
            generalize uLn us (os[j]'hlt) = LN at *
            obtain ⟨lo, lc, hul2, hlmax, hlat⟩ := uL.at
            rw [hul2] at u1 uL
            have KW := hideI (bt (unhideI K8) (unhideI HB))
            have HU1 := hideI u1
            replace u1 := cell_keep (unhideI KW) hubl u1
            have HLA := hideI hlat
            have HLN := hideI uL
            have HLAB := hideI LAB
            have HREF := hideI REF
            have HRT := hideI RT
            have HINS := hideI INS
            have HKLN := hideI KLN
            have HSUM := hideI SUM
            have hmi : (m : Int) < (us.length : Int) := by omega
            clear LAB REF RT INS hucell hlat uL hoat hocell e2 e3 SUM KLN hkk haa hmt hln
            go_wp2_with fail
            go_loopg [11, 12, 70] LN.length (fun g vk va ii wr => ∃ (q k2 : Nat) (a2 : Int), q ≤ LN.length ∧ g = LN.length - q ∧ ii = .int .i64 q ∧ vk = .int .i64 k2 ∧ va = .int .i64 a2 ∧ Hid (k2 = kk + (insL O P m (LN.take q)).length) ∧ Hid (a2 = aa + wl (LN.take q)) ∧ Hid (Below w8.heap.size w8 wr))
            case atStart => exact ⟨0, kk, aa, Nat.zero_le _, rfl, rfl, rfl, rfl, by show _ = _; simp [insL], by show _ = _; simp [wl], HB⟩
            case round =>
              obtain ⟨q, k2, a2, hq, hgq, rfl, rfl, rfl, HK2, HA2, HB2⟩ := hrel
              have hk2 := unhideI HK2
              have ha2 := unhideI HA2
              clear HB co u1 KW
              have KW2 := hideI (bt (unhideI K8) (unhideI HB2))
              by_cases hql : q < LN.length
              · obtain ⟨lb, lof, rfl, hlbw, hlc⟩ := (unhideI HLA) (by intro h; rw [h] at hql; simp at hql)
                obtain ⟨d0, d1, d2, d3, d4, d5⟩ := hlc q hql
                replace d0 := cell_keep (unhideI KW2) hlbw d0
                replace d1 := cell_keep (unhideI KW2) hlbw d1
                replace d2 := cell_keep (unhideI KW2) hlbw d2
                replace d3 := cell_keep (unhideI KW2) hlbw d3
                replace d4 := cell_keep (unhideI KW2) hlbw d4
                replace d5 := cell_keep (unhideI KW2) hlbw d5
                have XL := (unhideI HLAB) q hql
                have XR := (unhideI HREF) _ (List.getElem_mem hql)
                have XW := (unhideI HRT) _ (List.getElem_mem hql)
                have XI := (unhideI HINS) q hql
                have XK := insL_take O P m LN q hql
                have XT := wl_take LN q hql
                have XB := wl_le (LN.take q)
                have hlt2 : (LN.take q).length ≤ q := by rw [List.length_take]; omega
                rw [← hk2] at XI
                rw [← ha2] at XL
                have LG := fun w => long4_any (LN[q]'hql) w
                have lx := lngX_in (LN[q]'hql)
                have hlx : lngX (LN[q]'hql) = if emp (LN[q]'hql).lab = true then lng (LN[q]'hql).i.o else 0 := rfl
                rw [← hlx] at XT
                generalize lngX (LN[q]'hql) = lgx at *
                generalize (LN[q]'hql) = x at *
                have XO := fun he => insX_ok (O := O) (P := P) (m := m) XW he
                have hn1 : (insL O P m (LN.take (q + 1))).length = (insL O P m (LN.take q)).length + (if emp x.lab = true then 1 else 0) := XK
                obtain ⟨lab, ⟨o, d, sr, mm⟩, ref⟩ := x
                unfold aggL at LG
                dsimp only at *
                clear hlc
                have KA := below_a wr (.cells #[.string lab, .int .i64 o, .int .i64 d, .int .i64 sr, .int .i64 mm, .string ref] 43)
                have KB := hideI (bt (unhideI HB2) KA)
                have BX := hideI (Box.new wr #[.string lab, .int .i64 o, .int .i64 d, .int .i64 sr, .int .i64 mm, .string ref] 43)
                have p0 := (unhideI BX).2.1 0 _ rfl
                have p1 := (unhideI BX).2.1 1 _ rfl
                have p2 := (unhideI BX).2.1 2 _ rfl
                have p3 := (unhideI BX).2.1 3 _ rfl
                have p4 := (unhideI BX).2.1 4 _ rfl
                have p5 := (unhideI BX).2.1 5 _ rfl
                have M9 := hideI (((unhideI HM).step (unhideI HB2)).step KA)
                clear KA
                by_cases hel : emp lab = true
                · have hel2 : lab.toList.isEmpty = true := hel
                  obtain ⟨XO1, XO2, XO3⟩ := XO hel
                  have XI2 := XI hel
                  have hk2l : k2 < IL.length := (List.getElem?_eq_some_iff.1 XI2).1
                  rw [if_pos hel] at hn1 hlx
                  obtain ⟨ia, ic, ie, -, hIat⟩ := Inss.at (unhideI I8)
                  injection ie with ie1 ie2 ie3
                  subst ie1
                  obtain ⟨ib, io, rfl, hibl, hicell⟩ := hIat (by intro h; have := congrArg List.length h; rw [List.length_map] at this; simp at this; rw [this] at hk2l; simp at hk2l)
                  obtain ⟨c0, -, -, c3⟩ := hicell k2 (by rw [List.length_map]; exact hk2l)
                  have hIk : (IL.map bare)[k2]'(by rw [List.length_map]; exact hk2l) = bare (insX O P m ⟨lab, ⟨o, d, sr, mm⟩, ref⟩) := by rw [List.getElem_map, (List.getElem?_eq_some_iff.1 XI2).2]
                  rw [hIk] at c0 c3
                  rw [bare_o, XO2] at c0
                  replace c0 := cell_keep (unhideI KB) hibl c0
                  replace c3 := cell_keep (unhideI KB) hibl c3
                  have hkI : (k2 : Int) < (IL.length : Int) := by omega
                  have R2 : Hid (k2 + 1 = kk + (insL O P m (LN.take (q + 1))).length) := by show _ = _; omega
                  have R3 : Hid (a2 + lgx = aa + wl (LN.take (q + 1))) := by show _ = _; omega
                  have hab : 0 ≤ a2 ∧ a2 ≤ 200000000 := by omega
                  have hil2 := m5
                  unfold maxLen at hil2
                  have hoo : (o != o) = false := by simp
                  have PLP := (unhideI HF).pos ref.toList m
                  clear hk2 ha2 hn1 hlx XK XT XL XI XI2 XO XO1 XO2 hIk hIat hicell ie2 ie3
                  by_cases hre : ref.toList.isEmpty = true
                  · clear XR XO3 c3 PLP
                    go_wp2_with fail
                    go_quiet (fail)
                    go_wp2_with fail
                    refine (LG _).mono ?_
                    rintro e w9 ⟨rfl, k9⟩
                    have KC := hideI (bt (bdr (unhideI KB) nq) k9)
                    clear k9
                    go_wp2_with fail
                    go_roundg (LN.length - (q + 1))
                    case measure => omega
                    case rel => exact ⟨q + 1, k2 + 1, a2 + lgx, by omega, rfl, by go_num, by go_num, by go_num, R2, R3, KC⟩
                  · replace hre : ref.toList.isEmpty = false := by simpa using hre
                    have hem : emp ref = false := hre
                    rw [XO3 hem] at c3
                    obtain ⟨XR1, XR2⟩ := XR hel hem
                    have hszr : ref.size ≤ maxLen := by
                      rcases (wrgL_ins XW hel).2 with h | ⟨h, -⟩
                      · dsimp only at h; rw [hem] at h; cases h
                      · exact Nat.le_trans (nm_size h).1 (by unfold maxLen; omega)
                    have OWR := fun w => own5_any ref w
                    generalize plcP O P m ref.toList = pv at *
                    have hpp : (pv % 65536 != pv % 65536) = false := by simp
                    clear XO3 XR
                    by_cases how : ownK ref.toList = true
                    · rw [how] at OWR
                      have XW2 := XR2 how
                      clear XR1 XR2
                      have WH := fun U h => where_any LN (.slice (some ⟨lb, lof, none⟩) LN.length lc) ref aa U h FEW BEG.1 BEG.2
                      rw [XW2] at WH
                      generalize atA (spM sp) ref.toList = pv2 at *
                      generalize hasA (spM sp) ref.toList = hv2 at *
                      go_wp2_with fail
                      go_quiet (fail)
                      have M10 := hideI ((unhideI M9).drewN nq)
                      go_wp2_with (at_lookup; refine wpList_look_ok rfl (.tmp 116) (.tmp 118) rfl mb (spM sp) rfl (unhideI M10) ref rfl hszr ?_)
                      refine (OWR _).mono ?_
                      rintro e w9 ⟨rfl, hw⟩
                      subst w9
                      have D9 : Below (wr.alloc (.cells #[.string lab, .int .i64 o, .int .i64 d, .int .i64 sr, .int .i64 mm, .string ref] 43)).heap.size (wr.alloc (.cells #[.string lab, .int .i64 o, .int .i64 d, .int .i64 sr, .int .i64 mm, .string ref] 43)) ((wr.alloc (.cells #[.string lab, .int .i64 o, .int .i64 d, .int .i64 sr, .int .i64 mm, .string ref] 43)).drewN nq) := ⟨rfl, rfl, rfl, Nat.le_refl _, fun _ _ => rfl⟩
                      have KB9 := hideI (bt (unhideI KB) D9)
                      have KW9 := hideI (bt (unhideI K8) (unhideI KB9))
                      have BX9 := hideI ((unhideI BX).step D9)
                      have hib9 : ib < ((wr.alloc (.cells #[.string lab, .int .i64 o, .int .i64 d, .int .i64 sr, .int .i64 mm, .string ref] 43)).drewN nq).heap.size := Nat.lt_of_lt_of_le hibl (unhideI KB9).size
                      have c39 := cell_keep D9 (Nat.lt_of_lt_of_le hibl (unhideI KB).size) c3
                      have u19 := cell_keep (unhideI KW9) hubl (unhideI HU1)
                      have HLW := hideI (Lies.step (unhideI HLN) (unhideI KW9))
                      have r5 := (unhideI BX9).2.1 5 _ rfl
                      have hl9 := (unhideI BX9).1
                      have hub9 := Nat.lt_of_lt_of_le hubl (unhideI KW9).size
                      clear D9 p0 p1 p2 p3 p4 p5 c0 c3 d0 d1 d2 d3 d4 d5 M9 M10 KB KW2
                      go_wp2_with fail
                      generalize (wr.alloc (.cells #[.string lab, .int .i64 o, .int .i64 d, .int .i64 sr, .int .i64 mm, .string ref] 43)).drewN nq = W9 at *
                      refine wp_region_later (by kernel_rfl) (by kernel_rfl) ?_
                      intro L hne lt hlc hlf hlm
                      repeat (go_big_quiet_step ((go_at_call 15; exact later_call hlm (WH _ (Lies.step (unhideI HLW) (hlm.1 _))))))
                      refine wpQuiet_nil ?_
                      intro wq kq
                      clear hlm hlf hlc lt hne L
                      obtain ⟨hqc, hqf⟩ := below_cells kq
                      have KBq := hideI (bt (unhideI KB9) kq)
                      have BXq := hideI ((unhideI BX9).step kq)
                      have c3q := cell_keep kq hib9 c39
                      have p0 := (unhideI BXq).2.1 0 _ rfl
                      have p1 := (unhideI BXq).2.1 1 _ rfl
                      have p2 := (unhideI BXq).2.1 2 _ rfl
                      have p3 := (unhideI BXq).2.1 3 _ rfl
                      have p4 := (unhideI BXq).2.1 4 _ rfl
                      have p5 := (unhideI BXq).2.1 5 _ rfl
                      clear hqc hqf kq c39 u19 r5
                      go_wp2_with fail
                      refine (LG _).mono ?_
                      rintro e w9 ⟨rfl, k9⟩
                      have KC := hideI (bt (unhideI KBq) k9)
                      clear k9
                      go_wp2_with fail
                      go_roundg (LN.length - (q + 1))
                      case measure => omega
                      case rel => exact ⟨q + 1, k2 + 1, a2 + lgx, by omega, rfl, by go_num, by go_num, by go_num, R2, R3, KC⟩
                    · replace how : ownK ref.toList = false := by simpa using how
                      rw [how] at OWR
                      obtain ⟨x1, x2⟩ := XR1 how
                      clear XR1 XR2
                      go_wp2_with fail
                      go_quiet (fail)
                      have M10 := hideI ((unhideI M9).drewN nq)
                      go_wp2_with (at_lookup; refine wpList_look_ok rfl (.tmp 116) (.tmp 118) rfl mb (spM sp) rfl (unhideI M10) ref rfl hszr ?_; rw [x1, x2])
                      refine (OWR _).mono ?_
                      rintro e w9 ⟨rfl, hw⟩
                      subst w9
                      go_wp2_with fail
                      refine (LG _).mono ?_
                      rintro e w9 ⟨rfl, k9⟩
                      have KC := hideI (bt (bdr (unhideI KB) nq) k9)
                      clear k9
                      go_wp2_with fail
                      go_roundg (LN.length - (q + 1))
                      case measure => omega
                      case rel => exact ⟨q + 1, k2 + 1, a2 + lgx, by omega, rfl, by go_num, by go_num, by go_num, R2, R3, KC⟩
                · replace hel : emp lab = false := by simpa using hel
                  have hel2 : lab.toList.isEmpty = false := hel
                  rw [if_neg (by simp [hel])] at hn1 hlx
                  have hsz : lab.size ≤ maxLen := Nat.le_trans (nm_size (wrgL_lab XW hel).1).1 (by unfold maxLen; omega)
                  have OW := fun w => own5_any lab w
                  have R2 : Hid (k2 = kk + (insL O P m (LN.take (q + 1))).length) := by show _ = _; omega
                  have R3 : Hid (a2 = aa + wl (LN.take (q + 1))) := by show _ = _; omega
                  clear hk2 ha2 hn1 hlx XK XT
                  by_cases how : ownK lab.toList = true
                  · rw [how] at OW
                    clear XL XR XI XO LG
                    generalize atA (spM sp) lab.toList = pv at *
                    generalize hasA (spM sp) lab.toList = hv at *
                    go_wp2_with (at_lookup; refine wpList_look_ok rfl (.tmp 78) (.tmp 80) rfl mb (spM sp) rfl (unhideI M9) lab rfl hsz ?_)
                    refine (OW _).mono ?_
                    rintro e w9 ⟨rfl, hw⟩
                    subst w9
                    go_wp2_with fail
                    go_roundg (LN.length - (q + 1))
                    case measure => omega
                    case rel => exact ⟨q + 1, k2, a2, by omega, rfl, by go_num, rfl, rfl, R2, R3, KB⟩
                  · replace how : ownK lab.toList = false := by simpa using how
                    rw [how] at OW
                    have hfa : fa lab = true := fa_of rfl (emp_ne hel) how
                    obtain ⟨x1, x2⟩ := XL hfa
                    clear XL XR XI XO LG
                    go_wp2_with (at_lookup; refine wpList_look_ok rfl (.tmp 78) (.tmp 80) rfl mb (spM sp) rfl (unhideI M9) lab rfl hsz ?_; rw [x1, x2])
                    refine (OW _).mono ?_
                    rintro e w9 ⟨rfl, hw⟩
                    subst w9
                    go_wp2_with fail
                    go_roundg (LN.length - (q + 1))
                    case measure => omega
                    case rel => exact ⟨q + 1, k2, a2, by omega, rfl, by go_num, rfl, rfl, R2, R3, KB⟩
              · have hqe : q = LN.length := by omega
                subst hqe
                rw [List.take_length] at hk2 ha2
                have R2 : Hid (k2 = ((os.take (j + 1)).flatMap fun m => insL O P m.toNat (uLn us m)).length) := by show _ = _; rw [unhideI HKLN]; exact hk2
                have R3 : Hid (a2 = sumN P (os.take (j + 1))) := by show _ = _; rw [unhideI HSUM]; exact ha2
                clear HKLN HSUM hk2 ha2
                go_wp2_with fail
                go_roundg (os.length - (j + 1))
                case measure => omega
                case rel => exact ⟨j + 1, k2, a2, by omega, rfl, by go_num, rfl, rfl, R2, R3, HB2⟩
          · have hje : j = os.length := by omega
            subst hje
            rw [List.take_length] at hkk haa
            have hkI : kk = IL.length := by rw [hkk, unhideI HIL]
            have haz : aa = (zs.length : Int) := by rw [haa]; exact (unhideI HF).all
            clear hkk haa HKK HAA
            subst hkI haz
            have z0 := cell_keep (unhideI HB) (unhideI BI8).1 q0
            have KW := hideI (bt (unhideI K8) (unhideI HB))
            have e1 : ((IL.length : Int) == (IL.length : Int)) = true := by simp
            have e2 : ((zs.length : Int) == (zs.length : Int)) = true := by simp
            go_wp2_with fail
            go_ret
            exact ⟨by simp, unhideI KW⟩
  · have her2 : (er != 0) = true := by simpa using her
    clear LL hmm
    go_enter Try.func5, Try.ntmps5
    go_wp2_with fail
    refine (alive5 _).mono ?_
    rintro e w1 ⟨rfl, k1⟩
    go_wp2_with fail
    refine (LA _ ((unhideI HU).step k1)).mono ?_
    rintro e w3 ⟨vw, vu, vs, rfl, i1, i2, i3, k3⟩
    obtain ⟨b1, o1, rfl, m1, -⟩ := i1.at
    obtain ⟨b2, o2, rfl, m2, -⟩ := i2.at
    obtain ⟨-, sa, sc, rfl, -⟩ := i3
    have K3 := hideI (bt k1 k3)
    have s3 := (unhideI K3).size
    clear k1 k3 i1 i2 LA
    go_wp2_with fail
    go_ret
    exact ⟨rfl, (by repeat (first | exact unhideI K3 | refine Below.setCell ?_ (by first | exact Nat.le_refl _ | (simp; done) | omega | (simp; omega)) _ | refine Below.alloc ?_ (by first | (simp; done) | omega | (simp; omega)) _))⟩
end Go.Proofs.Yticbejfdldehcab
