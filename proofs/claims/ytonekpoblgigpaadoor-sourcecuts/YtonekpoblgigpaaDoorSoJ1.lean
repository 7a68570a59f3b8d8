/-
  Texts: the document's Tokens: a round, by what stands there.
-/
import Derived.Test.YtonekpoblgigpaaDoorSoJ0
namespace Go.Proofs.YtonekpoblgigpaaDoor
open Go.RowKit
set_option linter.unusedSimpArgs false
set_option linter.unusedVariables false

set_option maxRecDepth 100000 in
set_option maxHeartbeats 8000000 in
theorem tok_num {l : List UInt8} {w w1 W0 : World} {i0 : TypeInfo} {R : List Tk × Int × Int} {Q' : Exit → Act → World → Prop} {K1 K : Act → World → Prop} {J : Nat → Act → World → Prop} {gk i f' : Nat} {acc : List Tk} {u2 u4 u6 u7 u8 u9 u10 u11 u12 u13 u14 u19 u20 u21 u22 u23 u24 u25 u26 u27 u28 u29 u30 u31 u32 u33 u34 u35 u36 u37 u38 u39 u40 u41 u42 u43 u44 u45 u46 u47 u48 u49 u50 u51 u52 u53 u54 u55 u56 u57 u58 u59 u60 u61 u62 u63 u64 u65 u66 u67 u68 u69 u70 u71 u72 u73 u74 u75 u76 u77 u78 u79 u80 u81 u82 u83 u84 u85 u86 u87 u88 u89 u90 u91 u92 u93 u94 u95 u96 u97 u98 u99 u100 u101 u102 u103 u104 u105 u106 u107 u108 u109 u110 u111 u112 u113 u114 u115 u116 u117 u118 u119 u120 u121 u122 u123 u124 u125 u126 u127 u128 u129 u130 u131 u132 u133 u134 u135 u136 u137 u138 u139 u140 u141 u142 u143 u144 u145 u146 u147 u148 u149 u150 u151 u152 u153 u154 u155 u156 u157 u158 u159 u160 u161 u162 u163 u164 u165 u166 u167 u168 u169 u170 u171 u172 u173 u174 u175 u176 u177 u178 u179 u180 u181 u182 u183 u184 u185 : Value}
    (tq1 : Tryd.prog.info? 33 = some i0) (tq2 : i0.zero = some (.agg #[.int .i64 0, .string ⟨#[]⟩, .int .u64 0, .int .i64 0, .bool false, .int .i64 0])) (tq3 : i0.size = 6) (tq4 : i0.bytes = 56)
    (hl6 : l.length ≤ 65536) (h6' : ¬ (65536 : Int) < ((ba l).size : Int))
    (HQ : Hid (∀ e a v, bodyPost Tryd.prog Tryd.f9 (fun e w' => TokRet w R e w') e a v → Q' e a v))
    (S0 : Hid (w1.heap.size = w.heap.size + 1))
    (hJ : ∀ (k : Nat) (a' : Act) (w' : World), (∃ u2 u4 u5 u6 u7 u8 u9 u10 u11 u12 u13 u14 u19 u20 u21 u22 u23 u24 u25 u26 u27 u28 u29 u30 u31 u32 u33 u34 u35 u36 u37 u38 u39 u40 u41 u42 u43 u44 u45 u46 u47 u48 u49 u50 u51 u52 u53 u54 u55 u56 u57 u58 u59 u60 u61 u62 u63 u64 u65 u66 u67 u68 u69 u70 u71 u72 u73 u74 u75 u76 u77 u78 u79 u80 u81 u82 u83 u84 u85 u86 u87 u88 u89 u90 u91 u92 u93 u94 u95 u96 u97 u98 u99 u100 u101 u102 u103 u104 u105 u106 u107 u108 u109 u110 u111 u112 u113 u114 u115 u116 u117 u118 u119 u120 u121 u122 u123 u124 u125 u126 u127 u128 u129 u130 u131 u132 u133 u134 u135 u136 u137 u138 u139 u140 u141 u142 u143 u144 u145 u146 u147 u148 u149 u150 u151 u152 u153 u154 u155 u156 u157 u158 u159 u160 u161 u162 u163 u164 u165 u166 u167 u168 u169 u170 u171 u172 u173 u174 u175 u176 u177 u178 u179 u180 u181 u182 u183 u184 u185 : Value, (∃ (i f : Nat) (acc : List Tk), i ≤ l.length ∧ k = l.length - i ∧ u5 = .int .i64 (i : Int) ∧ l.length - i ≤ f ∧ acc.length ≤ i ∧ Hid (w'.ownsRow w1.heap.size 33 6 u4 acc.length (acc.flatMap cT)) ∧ Hid (Below w1.heap.size w1 w') ∧ Hid (tks f (l.drop i) i acc = R)) ∧ a' = ⟨#[.string (ba l), undef, u2, .pointer (some ⟨w.heap.size, 0, none⟩), u4, u5, u6, u7, u8, u9, u10, u11, u12, u13, u14, .string (ba l), .int .i64 ((ba l).size : Int), .bool false, undef, u19, u20, u21, u22, u23, u24, u25, u26, u27, u28, u29, u30, u31, u32, u33, u34, u35, u36, u37, u38, u39, u40, u41, u42, u43, u44, u45, u46, u47, u48, u49, u50, u51, u52, u53, u54, u55, u56, u57, u58, u59, u60, u61, u62, u63, u64, u65, u66, u67, u68, u69, u70, u71, u72, u73, u74, u75, u76, u77, u78, u79, u80, u81, u82, u83, u84, u85, u86, u87, u88, u89, u90, u91, u92, u93, u94, u95, u96, u97, u98, u99, u100, u101, u102, u103, u104, u105, u106, u107, u108, u109, u110, u111, u112, u113, u114, u115, u116, u117, u118, u119, u120, u121, u122, u123, u124, u125, u126, u127, u128, u129, u130, u131, u132, u133, u134, u135, u136, u137, u138, u139, u140, u141, u142, u143, u144, u145, u146, u147, u148, u149, u150, u151, u152, u153, u154, u155, u156, u157, u158, u159, u160, u161, u162, u163, u164, u165, u166, u167, u168, u169, u170, u171, u172, u173, u174, u175, u176, u177, u178, u179, u180, u181, u182, u183, u184, u185, undef, undef], []⟩) → J k a' w')
    (hK : ∀ (a' : Act) (w' : World), Handed J gk a' w' → K a' w')
    (hi : i ≤ l.length) (hg : gk = l.length - i) (hf : l.length - i ≤ f' + 1) (hac : acc.length ≤ i)
    (HE : Hid (tks (f' + 1) (l.drop i) i acc = R)) (HO : Hid (W0.ownsRow w1.heap.size 33 6 u4 acc.length (acc.flatMap cT))) (HB : Hid (Below w1.heap.size w1 W0))
    (BF : Hid (Box W0 w.heap.size [.int .i64 0, .int .i64 0])) (KW : Hid (Below w.heap.size w W0))
    (hlt : i < l.length) (hz : i < (ba l).size) (hiI : (i : Int) < ((ba l).size : Int)) (hch : ch (l[i]'hlt) = (((ba l)[i].toNat : Nat) : Int))
    (h1 : ((((ba l)[i].toNat : Nat) : Int) == 32) = false) (h2 : ((((ba l)[i].toNat : Nat) : Int) == 9) = false) (h3 : ((((ba l)[i].toNat : Nat) : Int) == 10) = false) (hbk : blk (l[i]'hlt) = false) (h4 : ((((ba l)[i].toNat : Nat) : Int) == 47) = false) (hnr : isR ((l[i]'hlt) :: l.drop (i + 1)) = false) (hxl : ltr (ch (l[i]'hlt)) = false) (hnl : ltr (((ba l)[i].toNat : Nat) : Int) = false) (hxd : dgt (ch (l[i]'hlt)) = true) : Code.wp Tryd.prog (lB (bB (sL (sR (sR (sR (sR (Tryd.f9.body.getD .skip)))))))) (Exit.then K (Exit.inBlock 0 (Exit.then K1 Q'))) ⟨#[.string (ba l), undef, u2, .pointer (some ⟨w.heap.size, 0, none⟩), u4, .int .i64 (i : Int), u6, u7, u8, u9, u10, u11, u12, u13, u14, .string (ba l), .int .i64 ((ba l).size : Int), .bool false, undef, u19, u20, u21, u22, u23, u24, u25, u26, u27, u28, u29, u30, u31, u32, u33, u34, u35, u36, u37, u38, u39, u40, u41, u42, u43, u44, u45, u46, u47, u48, u49, u50, u51, u52, u53, u54, u55, u56, u57, u58, u59, u60, u61, u62, u63, u64, u65, u66, u67, u68, u69, u70, u71, u72, u73, u74, u75, u76, u77, u78, u79, u80, u81, u82, u83, u84, u85, u86, u87, u88, u89, u90, u91, u92, u93, u94, u95, u96, u97, u98, u99, u100, u101, u102, u103, u104, u105, u106, u107, u108, u109, u110, u111, u112, u113, u114, u115, u116, u117, u118, u119, u120, u121, u122, u123, u124, u125, u126, u127, u128, u129, u130, u131, u132, u133, u134, u135, u136, u137, u138, u139, u140, u141, u142, u143, u144, u145, u146, u147, u148, u149, u150, u151, u152, u153, u154, u155, u156, u157, u158, u159, u160, u161, u162, u163, u164, u165, u166, u167, u168, u169, u170, u171, u172, u173, u174, u175, u176, u177, u178, u179, u180, u181, u182, u183, u184, u185, undef, undef], []⟩ W0 := by
  have hd := List.drop_eq_getElem_cons hlt
  conv => arg 2; whnf
  have hnd : dgt (((ba l)[i].toNat : Nat) : Int) = true := by rw [← hch]; exact hxd
  have LAs := hideI (fun W => letter8_any (((ba l)[i].toNat : Nat) : Int) W)
  have DAs := hideI (fun W => digit8_any (((ba l)[i].toNat : Nat) : Int) W)
  rw [hnl] at LAs
  rw [hnd] at DAs
  have hE := unhideI HE
  rw [hd, tks, if_neg (by rw [hbk]; decide), if_neg (by rw [hnr]; decide), ← hd] at hE
  have htk : tok1 (l.drop i) = num1 (l.drop i) := by rw [hd, tok1_cons, if_neg (by rw [hxl]; decide), if_pos hxd]
  rw [htk] at hE
  have hw1 : 1 ≤ dlen (l.drop i) := by rw [hd, dlen, if_pos hxd]; omega
  have hw2 := dlen_le (l.drop i)
  rw [List.length_drop] at hw2
  have hnm : num1 (l.drop i) = match Lib.parseUint10 0 ((l.drop i).take (dlen (l.drop i))) with
    | .ok n => if (lit n (Lib.hasPrefix ((l.drop i).drop (dlen (l.drop i))) [117])).2.2 = 0 then (0, ⟨2, (l.drop i).take (dlen (l.drop i)), n, (lit n (Lib.hasPrefix ((l.drop i).drop (dlen (l.drop i))) [117])).1, (lit n (Lib.hasPrefix ((l.drop i).drop (dlen (l.drop i))) [117])).2.1, 0⟩, if Lib.hasPrefix ((l.drop i).drop (dlen (l.drop i))) [117] = true then dlen (l.drop i) + 1 else dlen (l.drop i)) else ((lit n (Lib.hasPrefix ((l.drop i).drop (dlen (l.drop i))) [117])).2.2, tk0, 0)
    | _ => (3, tk0, 0) := rfl
  have HNM := hideI hnm
  have HUU : Hid (Lib.hasPrefix (l.drop (i + dlen (l.drop i))) [117] = Lib.hasPrefix ((l.drop i).drop (dlen (l.drop i))) [117]) := by show _ = _; rw [List.drop_drop]
  have HPR : Hid (Lib.parseUint10 0 ((l.drop i).take (dlen (l.drop i))) = Lib.parseUint10 0 ((l.drop i).take (dlen (l.drop i)))) := rfl
  have HXT := hideI (show (ba l).extract i (i + dlen (l.drop i)) = ba ((l.drop i).take (dlen (l.drop i))) by rw [ba_extract, List.take_drop])
  have HM : Hid (i + dlen (l.drop i) = i + dlen (l.drop i)) := rfl
  have HE2 := hideI hE
  clear hE HE hd htk hch hbk hnr hxl hnl hxd hnd hnm
  generalize num1 (l.drop i) = NM at *
  generalize hPR : Lib.parseUint10 0 ((l.drop i).take (dlen (l.drop i))) = PR at HNM HPR
  replace HPR : Hid (Lib.parseUint10 0 ((l.drop i).take (dlen (l.drop i))) = PR) := hPR
  clear hPR
  generalize hT : (l.drop i).take (dlen (l.drop i)) = T at HXT HNM
  clear hT
  generalize Lib.hasPrefix ((l.drop i).drop (dlen (l.drop i))) [117] = UU at *
  generalize hM : dlen (l.drop i) = M at HE2 hw1 hw2 HXT HNM HUU
  replace HM : Hid (i + dlen (l.drop i) = i + M) := by show _ = _; rw [hM]
  clear hM
  go_wp2_with fail
  refine (unhideI LAs _).mono ?_
  rintro e w2 ⟨rfl, hw⟩
  subst w2
  go_wp2_with fail
  refine (unhideI DAs _).mono ?_
  rintro e w2 ⟨rfl, hw⟩
  subst w2
  go_wp2_with fail
  go_loopg [7, 8] (l.length - i) (fun g t v ws => ∃ (j n : Nat), i ≤ j ∧ j ≤ l.length ∧ g = l.length - j ∧ t = .int .i64 (j : Int) ∧ v = .int .u64 (n : Int) ∧ n < 18446744073709551616 ∧ ws = W0 ∧ Hid (j + dlen (l.drop j) = i + M) ∧ Hid (Lib.parseUint10 n ((l.drop j).take (dlen (l.drop j))) = PR))
  case atStart => exact ⟨i, 0, Nat.le_refl _, by omega, rfl, rfl, rfl, by omega, rfl, HM, HPR⟩
  case round =>
    obtain ⟨j, n, hij, hjl, hgj, rfl, rfl, hn64, hws, HJ, HP⟩ := hrel
    subst hws
    clear HM HPR LAs DAs
    by_cases hjt : j < l.length
    · have hjz : j < (ba l).size := hjt
      have hjI : (j : Int) < ((ba l).size : Int) := by rw [ba_size]; omega
      have hdj := List.drop_eq_getElem_cons hjt
      have eaj := ba_at l j hjz
      have hJ := unhideI HJ
      have hP := unhideI HP
      have hcj : ch (l[j]'hjt) = (((ba l)[j].toNat : Nat) : Int) := by unfold ch; rw [← eaj]
      have DJ := hideI (fun W => digit8_any (((ba l)[j].toNat : Nat) : Int) W)
      rw [hdj, dlen, hcj] at hJ hP
      have hcn : (l[j]'hjt).toNat = (ba l)[j].toNat := by rw [← eaj]
      clear eaj hdj HJ hcj HP
      by_cases g2 : dgt (((ba l)[j].toNat : Nat) : Int) = true
      · have hdg : (48 : Int) ≤ (((ba l)[j].toNat : Nat) : Int) ∧ (((ba l)[j].toNat : Nat) : Int) ≤ 57 := by unfold dgt at g2; exact of_decide_eq_true g2
        obtain ⟨hd1, hd2⟩ := hdg
        rw [if_pos g2, List.take_succ_cons, Lib.parseUint10, hcn, if_pos (by omega)] at hP
        rw [if_pos g2] at hJ
        have HJ2 : Hid ((j + 1) + dlen (l.drop (j + 1)) = i + M) := by show _ = _; omega
        rw [g2] at DJ
        clear hJ hcn
        by_cases q1 : 1844674407370955162 ≤ n
        · rw [if_pos q1] at hP
          subst hP
          have e1 : (1844674407370955161 : Int) < (n : Int) := by omega
          have hR : R = ([], 3, (i : Int)) := by
            have hE := unhideI HE2
            rw [unhideI HNM] at hE
            exact hE.symm
          subst hR
          have y0 := (unhideI BF).2.1 0 _ rfl
          have y1 := (unhideI BF).2.1 1 _ rfl
          have y2 := (unhideI BF).2.2
          have y4 := (unhideI BF).1
          go_wp2_with fail
          refine (unhideI DJ _).mono ?_
          rintro e w2 ⟨rfl, hw⟩
          subst w2
          go_wp2_with fail
          exact unhideI HQ _ _ _ (bodyPost_ret (v := .tuple #[.slice none 0 0, .agg #[.int .i64 3, .int .i64 (i : Int)]]) (by simp [results, Tryd.results9, go_sem, y0, y1, y2, y4]) rfl ⟨_, rfl, Lies.nil _ _, (by repeat (first | exact unhideI KW | refine Below.setCell ?_ (by first | exact Nat.le_refl _ | (simp; done) | omega | (simp; omega)) _ | refine Below.alloc ?_ (by first | (simp; done) | omega | (simp; omega)) _))⟩)
        · rw [if_neg q1] at hP
          have e1 : ¬ (1844674407370955161 : Int) < (n : Int) := by omega
          by_cases q2 : 18446744073709551616 ≤ n * 10 + ((ba l)[j].toNat - 48)
          · rw [if_pos q2] at hP
            subst hP
            have e2 : (n : Int) = 1844674407370955161 := by omega
            have e2b : ((n : Int) == 1844674407370955161) = true := by rw [e2]; rfl
            have e3 : (5 : Int) < (((ba l)[j].toNat : Nat) : Int) - 48 := by omega
            have hR : R = ([], 3, (i : Int)) := by
              have hE := unhideI HE2
              rw [unhideI HNM] at hE
              exact hE.symm
            subst hR
            clear e2
            have y0 := (unhideI BF).2.1 0 _ rfl
            have y1 := (unhideI BF).2.1 1 _ rfl
            have y2 := (unhideI BF).2.2
            have y4 := (unhideI BF).1
            go_wp2_with fail
            refine (unhideI DJ _).mono ?_
            rintro e w2 ⟨rfl, hw⟩
            subst w2
            go_wp2_with fail
            exact unhideI HQ _ _ _ (bodyPost_ret (v := .tuple #[.slice none 0 0, .agg #[.int .i64 3, .int .i64 (i : Int)]]) (by simp [results, Tryd.results9, go_sem, y0, y1, y2, y4]) rfl ⟨_, rfl, Lies.nil _ _, (by repeat (first | exact unhideI KW | refine Below.setCell ?_ (by first | exact Nat.le_refl _ | (simp; done) | omega | (simp; omega)) _ | refine Below.alloc ?_ (by first | (simp; done) | omega | (simp; omega)) _))⟩)
          · rw [if_neg q2] at hP
            have HP2 := hideI hP
            clear hP
            have e4 : 10 * (n : Int) + ((((ba l)[j].toNat : Nat) : Int) - 48) < 18446744073709551616 := by omega
            by_cases q3 : n = 1844674407370955161
            · have e2b : ((n : Int) == 1844674407370955161) = true := by rw [q3]; rfl
              have e3 : ¬ (5 : Int) < (((ba l)[j].toNat : Nat) : Int) - 48 := by omega
              have e5 : (n : Int) ≤ 1844674407370955161 := by omega
              clear q3
              go_wp2_with fail
              refine (unhideI DJ _).mono ?_
              rintro e w2 ⟨rfl, hw⟩
              subst w2
              go_wp2_with fail
              go_roundg (l.length - (j + 1))
              case measure => omega
              case rel => exact ⟨j + 1, n * 10 + ((ba l)[j].toNat - 48), by omega, by omega, rfl, by go_num, by congr 1; omega, by omega, rfl, HJ2, HP2⟩
            · have e2b : ((n : Int) == 1844674407370955161) = false := by simp; omega
              have e5 : (n : Int) ≤ 1844674407370955161 := by omega
              go_wp2_with fail
              refine (unhideI DJ _).mono ?_
              rintro e w2 ⟨rfl, hw⟩
              subst w2
              go_wp2_with fail
              go_roundg (l.length - (j + 1))
              case measure => omega
              case rel => exact ⟨j + 1, n * 10 + ((ba l)[j].toNat - 48), by omega, by omega, rfl, by go_num, by congr 1; omega, by omega, rfl, HJ2, HP2⟩
      · replace g2 : dgt (((ba l)[j].toNat : Nat) : Int) = false := by simpa using g2
        rw [g2] at DJ
        rw [if_neg (by simp [g2])] at hJ hP
        have HJM := hideI (show j = i + M by omega)
        have hPk : PR = .ok n := by rw [← hP]; rfl
        subst hPk
        have HXJ : Hid ((ba l).extract i j = ba T) := by rw [unhideI HJM]; exact unhideI HXT
        clear hJ hP hcn
        go_wp2_with fail
        refine (unhideI DJ _).mono ?_
        rintro e w2 ⟨rfl, hw⟩
        subst w2
        have hij' : (i : Int) ≤ (j : Int) := by omega
        have hjs : (j : Int) ≤ ((ba l).size : Int) := by rw [ba_size]; omega
        have HJ65 := hideI (show j ≤ 65536 by omega)
        have hU : Hid (Lib.hasPrefix (l.drop j) [117] = UU) := by show _ = _; rw [← unhideI HUU, unhideI HJM]
        have hjz2 : j < (ba l).size := hjt
        have eaj2 := ba_at l j hjz2
        have hub : ((((ba l)[j].toNat : Nat) : Int) == 117) = UU := by
          rw [← unhideI hU, List.drop_eq_getElem_cons hjt]
          have := u8_eq (l[j]'hjt) 117
          rw [show ch 117 = 117 from rfl, show ch (l[j]'hjt) = (((ba l)[j].toNat : Nat) : Int) by unfold ch; rw [← eaj2]] at this
          rw [this]
          show _ = ((117 : UInt8) == (l[j]'hjt) && true)
          rw [Bool.and_true, BEq.comm]
        clear eaj2
        cases UU with
        | false =>
          have LT0 := hideI (fun W => rliteral_any (n : Int) false W (by unfold U; omega))
          have hNM := unhideI HNM
          try dsimp only at hNM
          generalize lit (n : Int) false = LT at *
          obtain ⟨tb, tg, te⟩ := LT
          dsimp only at hNM LT0
          replace HNM := hideI hNM
          clear hNM
          have hj65 := unhideI HJ65
          have hj6I : (j : Int) ≤ 65536 := by omega
          go_wp2_with fail
          refine (unhideI LT0 _).mono ?_
          rintro e w4 ⟨rfl, k4⟩
          have kt := below_a w4 (.cells #[.int .i64 tb, .bool tg] 31)
          have O4 := hideI (own_step (unhideI HO) (bt k4 kt))
          have K4 := hideI ((unhideI HB).trans ((bt k4 kt).mono (unhideI HB).size))
          have BF4 := hideI ((unhideI BF).step k4)
          have KW4 := hideI (bt (unhideI KW) k4)
          have BY := hideI (Box.new w4 #[.int .i64 tb, .bool tg] 31)
          have hsz4 : (w4.alloc (.cells #[.int .i64 tb, .bool tg] 31)).heap.size = w4.heap.size + 1 := by simp
          have s4 := (unhideI K4).size
          rw [hsz4] at s4
          clear k4 kt LT0 hsz4
          have hNM := unhideI HNM
          clear HNM
          by_cases hz : te = 0
          · subst hz
            rw [if_pos rfl] at hNM
            have hE := unhideI HE2
            rw [hNM] at hE
            dsimp only at hE
            rw [if_pos rfl, List.drop_drop] at hE
            have HE3 : Hid (tks f' (l.drop j) j (acc ++ [⟨2, T, (n : Int), tb, tg, (i : Int)⟩]) = R) := by
              have hjm := unhideI HJM
              have e : i + (if false = true then M + 1 else M) = j := by simp; omega
              rw [e] at hE
              exact hE
            obtain ⟨z0, z1⟩ := (unhideI BY).at2
            have hacc : acc.length ≤ 65536 := by omega
            clear hE hNM
            go_wp2_with (at_builtin; rw [unhideI HXJ]; refine wpList_append_own _ rfl (.tmp 160) (.tmp 166) 23 rfl w1.heap.size 33 i0 (.agg #[.int .i64 0, .string ⟨#[]⟩, .int .u64 0, .int .i64 0, .bool false, .int .i64 0]) 6 56 Tryd.underlying23 tq1 tq2 tq3 tq4 rfl (by decide) _ _ _ rfl ((unhideI O4).alloc _) ⟨_, 0, none⟩ 1 1 (cT ⟨2, T, (n : Int), tb, tg, (i : Int)⟩) rfl rfl (cells_c1 _ (cT ⟨2, T, (n : Int), tb, tg, (i : Int)⟩) _ _ (by simp)) (cT_one _) (by unfold maxLen; omega) (by omega) (by simp; omega) ?_; intro v5 w5 own5 grow5 _; have O5 := hideI (own_tok (P := acc) (p := ⟨2, T, (n : Int), tb, tg, (i : Int)⟩) own5 rfl rfl); have K5 := hideI (below_own ((unhideI K4).alloc (by simp; omega) _) (by simp; omega) ((unhideI O4).alloc _) grow5); clear own5 grow5)
            have hjm := unhideI HJM
            go_roundg (l.length - (j))
            case measure => omega
            case rel => exact ⟨j, f', acc ++ [⟨2, T, (n : Int), tb, tg, (i : Int)⟩], by omega, rfl, by go_num, by omega, by simp; omega, O5, K5, HE3⟩
          · have hzb : (te != 0) = true := by simpa using hz
            rw [if_neg hz] at hNM
            have hE := unhideI HE2
            rw [hNM] at hE
            dsimp only at hE
            rw [if_neg hz] at hE
            have hR : R = ([], te, (i : Int)) := hE.symm
            subst hR
            have BF := BF4
            clear hE hNM
            have y0 := (unhideI BF).2.1 0 _ rfl
            have y1 := (unhideI BF).2.1 1 _ rfl
            have y2 := (unhideI BF).2.2
            have y4 := (unhideI BF).1
            go_wp2_with fail
            exact unhideI HQ _ _ _ (bodyPost_ret (v := .tuple #[.slice none 0 0, .agg #[.int .i64 te, .int .i64 (i : Int)]]) (by simp [results, Tryd.results9, go_sem, y0, y1, y2, y4]) rfl ⟨_, rfl, Lies.nil _ _, (by repeat (first | exact unhideI KW4 | refine Below.setCell ?_ (by first | exact Nat.le_refl _ | (simp; done) | omega | (simp; omega)) _ | refine Below.alloc ?_ (by first | (simp; done) | omega | (simp; omega)) _))⟩)
        | true =>
          have hj1 : (j : Int) + 1 ≤ 65537 := by omega
          have hjlt : j + 1 ≤ l.length := hjt
          have LT0 := hideI (fun W => rliteral_any (n : Int) true W (by unfold U; omega))
          have hNM := unhideI HNM
          try dsimp only at hNM
          generalize lit (n : Int) true = LT at *
          obtain ⟨tb, tg, te⟩ := LT
          dsimp only at hNM LT0
          replace HNM := hideI hNM
          clear hNM
          have hj65 := unhideI HJ65
          have hj6I : (j : Int) ≤ 65536 := by omega
          go_wp2_with fail
          refine (unhideI LT0 _).mono ?_
          rintro e w4 ⟨rfl, k4⟩
          have kt := below_a w4 (.cells #[.int .i64 tb, .bool tg] 31)
          have O4 := hideI (own_step (unhideI HO) (bt k4 kt))
          have K4 := hideI ((unhideI HB).trans ((bt k4 kt).mono (unhideI HB).size))
          have BF4 := hideI ((unhideI BF).step k4)
          have KW4 := hideI (bt (unhideI KW) k4)
          have BY := hideI (Box.new w4 #[.int .i64 tb, .bool tg] 31)
          have hsz4 : (w4.alloc (.cells #[.int .i64 tb, .bool tg] 31)).heap.size = w4.heap.size + 1 := by simp
          have s4 := (unhideI K4).size
          rw [hsz4] at s4
          clear k4 kt LT0 hsz4
          have hNM := unhideI HNM
          clear HNM
          by_cases hz : te = 0
          · subst hz
            rw [if_pos rfl] at hNM
            have hE := unhideI HE2
            rw [hNM] at hE
            dsimp only at hE
            rw [if_pos rfl, List.drop_drop] at hE
            have HE3 : Hid (tks f' (l.drop (j + 1)) (j + 1) (acc ++ [⟨2, T, (n : Int), tb, tg, (i : Int)⟩]) = R) := by
              have hjm := unhideI HJM
              have e : i + (M + 1) = j + 1 := by omega
              simp only [if_true] at hE
              rw [e] at hE
              exact hE
            obtain ⟨z0, z1⟩ := (unhideI BY).at2
            have hacc : acc.length ≤ 65536 := by omega
            clear hE hNM
            go_wp2_with (at_builtin; rw [unhideI HXJ]; refine wpList_append_own _ rfl (.tmp 160) (.tmp 166) 23 rfl w1.heap.size 33 i0 (.agg #[.int .i64 0, .string ⟨#[]⟩, .int .u64 0, .int .i64 0, .bool false, .int .i64 0]) 6 56 Tryd.underlying23 tq1 tq2 tq3 tq4 rfl (by decide) _ _ _ rfl ((unhideI O4).alloc _) ⟨_, 0, none⟩ 1 1 (cT ⟨2, T, (n : Int), tb, tg, (i : Int)⟩) rfl rfl (cells_c1 _ (cT ⟨2, T, (n : Int), tb, tg, (i : Int)⟩) _ _ (by simp)) (cT_one _) (by unfold maxLen; omega) (by omega) (by simp; omega) ?_; intro v5 w5 own5 grow5 _; have O5 := hideI (own_tok (P := acc) (p := ⟨2, T, (n : Int), tb, tg, (i : Int)⟩) own5 rfl rfl); have K5 := hideI (below_own ((unhideI K4).alloc (by simp; omega) _) (by simp; omega) ((unhideI O4).alloc _) grow5); clear own5 grow5)
            have hjm := unhideI HJM
            go_roundg (l.length - ((j + 1)))
            case measure => omega
            case rel => exact ⟨(j + 1), f', acc ++ [⟨2, T, (n : Int), tb, tg, (i : Int)⟩], by omega, rfl, by go_num, by omega, by simp; omega, O5, K5, HE3⟩
          · have hzb : (te != 0) = true := by simpa using hz
            rw [if_neg hz] at hNM
            have hE := unhideI HE2
            rw [hNM] at hE
            dsimp only at hE
            rw [if_neg hz] at hE
            have hR : R = ([], te, (i : Int)) := hE.symm
            subst hR
            have BF := BF4
            clear hE hNM
            have y0 := (unhideI BF).2.1 0 _ rfl
            have y1 := (unhideI BF).2.1 1 _ rfl
            have y2 := (unhideI BF).2.2
            have y4 := (unhideI BF).1
            go_wp2_with fail
            exact unhideI HQ _ _ _ (bodyPost_ret (v := .tuple #[.slice none 0 0, .agg #[.int .i64 te, .int .i64 (i : Int)]]) (by simp [results, Tryd.results9, go_sem, y0, y1, y2, y4]) rfl ⟨_, rfl, Lies.nil _ _, (by repeat (first | exact unhideI KW4 | refine Below.setCell ?_ (by first | exact Nat.le_refl _ | (simp; done) | omega | (simp; omega)) _ | refine Below.alloc ?_ (by first | (simp; done) | omega | (simp; omega)) _))⟩)
    · have hjI : ¬ (j : Int) < ((ba l).size : Int) := by rw [ba_size]; omega
      have hJ := unhideI HJ
      have hP := unhideI HP
      have hdj : l.drop j = [] := List.drop_eq_nil_of_le (by omega)
      rw [hdj, dlen] at hJ hP
      have HJM := hideI (show j = i + M by omega)
      have hPk : PR = .ok n := by rw [← hP]; rfl
      subst hPk
      have HXJ : Hid ((ba l).extract i j = ba T) := by rw [unhideI HJM]; exact unhideI HXT
      clear HJ hJ hP HP hdj
      have hij' : (i : Int) ≤ (j : Int) := by omega
      have hjs : (j : Int) ≤ ((ba l).size : Int) := by rw [ba_size]; omega
      have HJ65 := hideI (show j ≤ 65536 by omega)
      have hU : Hid (Lib.hasPrefix (l.drop j) [117] = UU) := by show _ = _; rw [← unhideI HUU, unhideI HJM]
      have hub : UU = false := by have h := unhideI hU; rw [List.drop_eq_nil_of_le (by omega)] at h; exact h.symm
      subst hub
      have LT0 := hideI (fun W => rliteral_any (n : Int) false W (by unfold U; omega))
      have hNM := unhideI HNM
      try dsimp only at hNM
      generalize lit (n : Int) false = LT at *
      obtain ⟨tb, tg, te⟩ := LT
      dsimp only at hNM LT0
      replace HNM := hideI hNM
      clear hNM
      have hj65 := unhideI HJ65
      have hj6I : (j : Int) ≤ 65536 := by omega
      go_wp2_with fail
      refine (unhideI LT0 _).mono ?_
      rintro e w4 ⟨rfl, k4⟩
      have kt := below_a w4 (.cells #[.int .i64 tb, .bool tg] 31)
      have O4 := hideI (own_step (unhideI HO) (bt k4 kt))
      have K4 := hideI ((unhideI HB).trans ((bt k4 kt).mono (unhideI HB).size))
      have BF4 := hideI ((unhideI BF).step k4)
      have KW4 := hideI (bt (unhideI KW) k4)
      have BY := hideI (Box.new w4 #[.int .i64 tb, .bool tg] 31)
      have hsz4 : (w4.alloc (.cells #[.int .i64 tb, .bool tg] 31)).heap.size = w4.heap.size + 1 := by simp
      have s4 := (unhideI K4).size
      rw [hsz4] at s4
      clear k4 kt LT0 hsz4
      have hNM := unhideI HNM
      clear HNM
      by_cases hz : te = 0
      · subst hz
        rw [if_pos rfl] at hNM
        have hE := unhideI HE2
        rw [hNM] at hE
        dsimp only at hE
        rw [if_pos rfl, List.drop_drop] at hE
        have HE3 : Hid (tks f' (l.drop j) j (acc ++ [⟨2, T, (n : Int), tb, tg, (i : Int)⟩]) = R) := by
          have hjm := unhideI HJM
          have e : i + (if false = true then M + 1 else M) = j := by simp; omega
          rw [e] at hE
          exact hE
        obtain ⟨z0, z1⟩ := (unhideI BY).at2
        have hacc : acc.length ≤ 65536 := by omega
        clear hE hNM
        go_wp2_with (at_builtin; rw [unhideI HXJ]; refine wpList_append_own _ rfl (.tmp 160) (.tmp 166) 23 rfl w1.heap.size 33 i0 (.agg #[.int .i64 0, .string ⟨#[]⟩, .int .u64 0, .int .i64 0, .bool false, .int .i64 0]) 6 56 Tryd.underlying23 tq1 tq2 tq3 tq4 rfl (by decide) _ _ _ rfl ((unhideI O4).alloc _) ⟨_, 0, none⟩ 1 1 (cT ⟨2, T, (n : Int), tb, tg, (i : Int)⟩) rfl rfl (cells_c1 _ (cT ⟨2, T, (n : Int), tb, tg, (i : Int)⟩) _ _ (by simp)) (cT_one _) (by unfold maxLen; omega) (by omega) (by simp; omega) ?_; intro v5 w5 own5 grow5 _; have O5 := hideI (own_tok (P := acc) (p := ⟨2, T, (n : Int), tb, tg, (i : Int)⟩) own5 rfl rfl); have K5 := hideI (below_own ((unhideI K4).alloc (by simp; omega) _) (by simp; omega) ((unhideI O4).alloc _) grow5); clear own5 grow5)
        have hjm := unhideI HJM
        go_roundg (l.length - (j))
        case measure => omega
        case rel => exact ⟨j, f', acc ++ [⟨2, T, (n : Int), tb, tg, (i : Int)⟩], by omega, rfl, by go_num, by omega, by simp; omega, O5, K5, HE3⟩
      · have hzb : (te != 0) = true := by simpa using hz
        rw [if_neg hz] at hNM
        have hE := unhideI HE2
        rw [hNM] at hE
        dsimp only at hE
        rw [if_neg hz] at hE
        have hR : R = ([], te, (i : Int)) := hE.symm
        subst hR
        have BF := BF4
        clear hE hNM
        have y0 := (unhideI BF).2.1 0 _ rfl
        have y1 := (unhideI BF).2.1 1 _ rfl
        have y2 := (unhideI BF).2.2
        have y4 := (unhideI BF).1
        go_wp2_with fail
        exact unhideI HQ _ _ _ (bodyPost_ret (v := .tuple #[.slice none 0 0, .agg #[.int .i64 te, .int .i64 (i : Int)]]) (by simp [results, Tryd.results9, go_sem, y0, y1, y2, y4]) rfl ⟨_, rfl, Lies.nil _ _, (by repeat (first | exact unhideI KW4 | refine Below.setCell ?_ (by first | exact Nat.le_refl _ | (simp; done) | omega | (simp; omega)) _ | refine Below.alloc ?_ (by first | (simp; done) | omega | (simp; omega)) _))⟩)
end Go.Proofs.YtonekpoblgigpaaDoor
