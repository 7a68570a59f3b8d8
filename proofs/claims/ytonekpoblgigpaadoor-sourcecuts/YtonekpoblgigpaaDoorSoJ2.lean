/-
  Texts: the document's Tokens: a round, by what stands there.
-/
import Derived.Test.YtonekpoblgigpaaDoorSoJ0
namespace Go.Proofs.YtonekpoblgigpaaDoor
open Go.RowKit
set_option linter.unusedSimpArgs false
set_option linter.unusedVariables false

set_option maxRecDepth 100000 in
set_option maxHeartbeats 8000000 in
theorem tok_word {l : List UInt8} {w w1 W0 : World} {i0 : TypeInfo} {R : List Tk × Int × Int} {Q' : Exit → Act → World → Prop} {K1 K : Act → World → Prop} {J : Nat → Act → World → Prop} {gk i f' : Nat} {acc : List Tk} {u2 u4 u6 u7 u8 u9 u10 u11 u12 u13 u14 u19 u20 u21 u22 u23 u24 u25 u26 u27 u28 u29 u30 u31 u32 u33 u34 u35 u36 u37 u38 u39 u40 u41 u42 u43 u44 u45 u46 u47 u48 u49 u50 u51 u52 u53 u54 u55 u56 u57 u58 u59 u60 u61 u62 u63 u64 u65 u66 u67 u68 u69 u70 u71 u72 u73 u74 u75 u76 u77 u78 u79 u80 u81 u82 u83 u84 u85 u86 u87 u88 u89 u90 u91 u92 u93 u94 u95 u96 u97 u98 u99 u100 u101 u102 u103 u104 u105 u106 u107 u108 u109 u110 u111 u112 u113 u114 u115 u116 u117 u118 u119 u120 u121 u122 u123 u124 u125 u126 u127 u128 u129 u130 u131 u132 u133 u134 u135 u136 u137 u138 u139 u140 u141 u142 u143 u144 u145 u146 u147 u148 u149 u150 u151 u152 u153 u154 u155 u156 u157 u158 u159 u160 u161 u162 u163 u164 u165 u166 u167 u168 u169 u170 u171 u172 u173 u174 u175 u176 u177 u178 u179 u180 u181 u182 u183 u184 u185 : Value}
    (tq1 : Tryd.prog.info? 33 = some i0) (tq2 : i0.zero = some (.agg #[.int .i64 0, .string ⟨#[]⟩, .int .u64 0, .int .i64 0, .bool false, .int .i64 0])) (tq3 : i0.size = 6) (tq4 : i0.bytes = 56)
    (hl6 : l.length ≤ 65536) (h6' : ¬ (65536 : Int) < ((ba l).size : Int))
    (HQ : Hid (∀ e a v, bodyPost Tryd.prog Tryd.f9 (fun e w' => TokRet w R e w') e a v → Q' e a v))
    (S0 : Hid (w1.heap.size = w.heap.size + 1))
    (hJ : ∀ (k : Nat) (a' : Act) (w' : World), (∃ u2 u4 u5 u6 u7 u8 u9 u10 u11 u12 u13 u14 u19 u20 u21 u22 u23 u24 u25 u26 u27 u28 u29 u30 u31 u32 u33 u34 u35 u36 u37 u38 u39 u40 u41 u42 u43 u44 u45 u46 u47 u48 u49 u50 u51 u52 u53 u54 u55 u56 u57 u58 u59 u60 u61 u62 u63 u64 u65 u66 u67 u68 u69 u70 u71 u72 u73 u74 u75 u76 u77 u78 u79 u80 u81 u82 u83 u84 u85 u86 u87 u88 u89 u90 u91 u92 u93 u94 u95 u96 u97 u98 u99 u100 u101 u102 u103 u104 u105 u106 u107 u108 u109 u110 u111 u112 u113 u114 u115 u116 u117 u118 u119 u120 u121 u122 u123 u124 u125 u126 u127 u128 u129 u130 u131 u132 u133 u134 u135 u136 u137 u138 u139 u140 u141 u142 u143 u144 u145 u146 u147 u148 u149 u150 u151 u152 u153 u154 u155 u156 u157 u158 u159 u160 u161 u162 u163 u164 u165 u166 u167 u168 u169 u170 u171 u172 u173 u174 u175 u176 u177 u178 u179 u180 u181 u182 u183 u184 u185 : Value, (∃ (i f : Nat) (acc : List Tk), i ≤ l.length ∧ k = l.length - i ∧ u5 = .int .i64 (i : Int) ∧ l.length - i ≤ f ∧ acc.length ≤ i ∧ Hid (w'.ownsRow w1.heap.size 33 6 u4 acc.length (acc.flatMap cT)) ∧ Hid (Below w1.heap.size w1 w') ∧ Hid (tks f (l.drop i) i acc = R)) ∧ a' = ⟨#[.string (ba l), undef, u2, .pointer (some ⟨w.heap.size, 0, none⟩), u4, u5, u6, u7, u8, u9, u10, u11, u12, u13, u14, .string (ba l), .int .i64 ((ba l).size : Int), .bool false, undef, u19, u20, u21, u22, u23, u24, u25, u26, u27, u28, u29, u30, u31, u32, u33, u34, u35, u36, u37, u38, u39, u40, u41, u42, u43, u44, u45, u46, u47, u48, u49, u50, u51, u52, u53, u54, u55, u56, u57, u58, u59, u60, u61, u62, u63, u64, u65, u66, u67, u68, u69, u70, u71, u72, u73, u74, u75, u76, u77, u78, u79, u80, u81, u82, u83, u84, u85, u86, u87, u88, u89, u90, u91, u92, u93, u94, u95, u96, u97, u98, u99, u100, u101, u102, u103, u104, u105, u106, u107, u108, u109, u110, u111, u112, u113, u114, u115, u116, u117, u118, u119, u120, u121, u122, u123, u124, u125, u126, u127, u128, u129, u130, u131, u132, u133, u134, u135, u136, u137, u138, u139, u140, u141, u142, u143, u144, u145, u146, u147, u148, u149, u150, u151, u152, u153, u154, u155, u156, u157, u158, u159, u160, u161, u162, u163, u164, u165, u166, u167, u168, u169, u170, u171, u172, u173, u174, u175, u176, u177, u178, u179, u180, u181, u182, u183, u184, u185, undef, undef], []⟩) → J k a' w')
    (hK : ∀ (a' : Act) (w' : World), Handed J gk a' w' → K a' w')
    (hi : i ≤ l.length) (hg : gk = l.length - i) (hf : l.length - i ≤ f' + 1) (hac : acc.length ≤ i)
    (HE : Hid (tks (f' + 1) (l.drop i) i acc = R)) (HO : Hid (W0.ownsRow w1.heap.size 33 6 u4 acc.length (acc.flatMap cT))) (HB : Hid (Below w1.heap.size w1 W0))
    (BF : Hid (Box W0 w.heap.size [.int .i64 0, .int .i64 0])) (KW : Hid (Below w.heap.size w W0))
    (hlt : i < l.length) (hz : i < (ba l).size) (hiI : (i : Int) < ((ba l).size : Int)) (hch : ch (l[i]'hlt) = (((ba l)[i].toNat : Nat) : Int))
    (h1 : ((((ba l)[i].toNat : Nat) : Int) == 32) = false) (h2 : ((((ba l)[i].toNat : Nat) : Int) == 9) = false) (h3 : ((((ba l)[i].toNat : Nat) : Int) == 10) = false) (hbk : blk (l[i]'hlt) = false) (h4 : ((((ba l)[i].toNat : Nat) : Int) == 47) = false) (hnr : isR ((l[i]'hlt) :: l.drop (i + 1)) = false) (hxl : ltr (ch (l[i]'hlt)) = true) : Code.wp Tryd.prog (lB (bB (sL (sR (sR (sR (sR (Tryd.f9.body.getD .skip)))))))) (Exit.then K (Exit.inBlock 0 (Exit.then K1 Q'))) ⟨#[.string (ba l), undef, u2, .pointer (some ⟨w.heap.size, 0, none⟩), u4, .int .i64 (i : Int), u6, u7, u8, u9, u10, u11, u12, u13, u14, .string (ba l), .int .i64 ((ba l).size : Int), .bool false, undef, u19, u20, u21, u22, u23, u24, u25, u26, u27, u28, u29, u30, u31, u32, u33, u34, u35, u36, u37, u38, u39, u40, u41, u42, u43, u44, u45, u46, u47, u48, u49, u50, u51, u52, u53, u54, u55, u56, u57, u58, u59, u60, u61, u62, u63, u64, u65, u66, u67, u68, u69, u70, u71, u72, u73, u74, u75, u76, u77, u78, u79, u80, u81, u82, u83, u84, u85, u86, u87, u88, u89, u90, u91, u92, u93, u94, u95, u96, u97, u98, u99, u100, u101, u102, u103, u104, u105, u106, u107, u108, u109, u110, u111, u112, u113, u114, u115, u116, u117, u118, u119, u120, u121, u122, u123, u124, u125, u126, u127, u128, u129, u130, u131, u132, u133, u134, u135, u136, u137, u138, u139, u140, u141, u142, u143, u144, u145, u146, u147, u148, u149, u150, u151, u152, u153, u154, u155, u156, u157, u158, u159, u160, u161, u162, u163, u164, u165, u166, u167, u168, u169, u170, u171, u172, u173, u174, u175, u176, u177, u178, u179, u180, u181, u182, u183, u184, u185, undef, undef], []⟩ W0 := by
  have hd := List.drop_eq_getElem_cons hlt
  conv => arg 2; whnf
  have hnl : ltr (((ba l)[i].toNat : Nat) : Int) = true := by rw [← hch]; exact hxl
  have LAs := hideI (fun W => letter8_any (((ba l)[i].toNat : Nat) : Int) W)
  rw [hnl] at LAs
  have hE := unhideI HE
  rw [hd, tks, if_neg (by rw [hbk]; decide), if_neg (by rw [hnr]; decide), ← hd] at hE
  have htk : tok1 (l.drop i) = (0, ⟨1, (l.drop i).take (wlen (l.drop i)), 0, 0, false, 0⟩, wlen (l.drop i)) := by rw [hd, tok1_cons, if_pos hxl]
  rw [htk, if_pos rfl] at hE
  dsimp only at hE
  rw [List.drop_drop] at hE
  have hw1 : 1 ≤ wlen (l.drop i) := by rw [hd, wlen, if_pos (by unfold wch; rw [hxl]; rfl)]; omega
  have hw2 := wlen_le (l.drop i)
  rw [List.length_drop] at hw2
  have HXT := hideI (show (ba l).extract i (i + wlen (l.drop i)) = ba ((l.drop i).take (wlen (l.drop i))) by rw [ba_extract, List.take_drop])
  have HM : Hid (i + wlen (l.drop i) = i + wlen (l.drop i)) := rfl
  have HE2 := hideI hE
  clear hE HE hd htk hch hbk hnr hxl hnl
  generalize (l.drop i).take (wlen (l.drop i)) = T at *
  generalize hM : wlen (l.drop i) = M at HE2 hw1 hw2 HXT
  replace HM : Hid (i + wlen (l.drop i) = i + M) := by show _ = _; rw [hM]
  clear hM
  go_wp2_with fail
  refine (unhideI LAs _).mono ?_
  rintro e w2 ⟨rfl, hw⟩
  subst w2
  go_wp2_with fail
  go_loopg [7] (l.length - i) (fun g t ws => ∃ j : Nat, i ≤ j ∧ j ≤ l.length ∧ g = l.length - j ∧ t = .int .i64 (j : Int) ∧ ws = W0 ∧ Hid (j + wlen (l.drop j) = i + M))
  case atStart => exact ⟨i, Nat.le_refl _, by omega, rfl, rfl, rfl, HM⟩
  case round =>
    obtain ⟨j, hij, hjl, hgj, rfl, hws, HJ⟩ := hrel
    subst hws
    clear HM LAs
    by_cases hjt : j < l.length
    · have hjz : j < (ba l).size := hjt
      have hjI : (j : Int) < ((ba l).size : Int) := by rw [ba_size]; omega
      have hdj := List.drop_eq_getElem_cons hjt
      have eaj := ba_at l j hjz
      have hJ := unhideI HJ
      rw [hdj, wlen] at hJ
      have hcj : ch (l[j]'hjt) = (((ba l)[j].toNat : Nat) : Int) := by unfold ch; rw [← eaj]
      have hwc : wch (l[j]'hjt) = (ltr (((ba l)[j].toNat : Nat) : Int) || dgt (((ba l)[j].toNat : Nat) : Int)) := by unfold wch; rw [hcj]
      rw [hwc] at hJ
      have LJ := hideI (fun W => letter8_any (((ba l)[j].toNat : Nat) : Int) W)
      have DJ := hideI (fun W => digit8_any (((ba l)[j].toNat : Nat) : Int) W)
      clear eaj hdj HJ hcj hwc
      by_cases g1 : ltr (((ba l)[j].toNat : Nat) : Int) = true
      · rw [g1] at LJ hJ
        have HJ2 : Hid ((j + 1) + wlen (l.drop (j + 1)) = i + M) := by
          rw [Bool.true_or, if_pos rfl] at hJ; show _ = _; omega
        clear hJ DJ
        go_wp2_with fail
        refine (unhideI LJ _).mono ?_
        rintro e w2 ⟨rfl, hw⟩
        subst w2
        go_wp2_with fail
        go_roundg (l.length - (j + 1))
        case measure => omega
        case rel => exact ⟨j + 1, by omega, by omega, rfl, by go_num, rfl, HJ2⟩
      · replace g1 : ltr (((ba l)[j].toNat : Nat) : Int) = false := by simpa using g1
        rw [g1] at LJ hJ
        by_cases g2 : dgt (((ba l)[j].toNat : Nat) : Int) = true
        · rw [g2] at DJ hJ
          have HJ2 : Hid ((j + 1) + wlen (l.drop (j + 1)) = i + M) := by
            rw [Bool.or_true, if_pos rfl] at hJ; show _ = _; omega
          clear hJ
          go_wp2_with fail
          refine (unhideI LJ _).mono ?_
          rintro e w2 ⟨rfl, hw⟩
          subst w2
          go_wp2_with fail
          refine (unhideI DJ _).mono ?_
          rintro e w2 ⟨rfl, hw⟩
          subst w2
          go_wp2_with fail
          go_roundg (l.length - (j + 1))
          case measure => omega
          case rel => exact ⟨j + 1, by omega, by omega, rfl, by go_num, rfl, HJ2⟩
        · replace g2 : dgt (((ba l)[j].toNat : Nat) : Int) = false := by simpa using g2
          rw [g2] at DJ hJ
          rw [Bool.or_self, if_neg (by decide)] at hJ
          have HJM := hideI (show j = i + M by omega)
          have HXJ : Hid ((ba l).extract i j = ba T) := by rw [unhideI HJM]; exact unhideI HXT
          clear hJ
          go_wp2_with fail
          refine (unhideI LJ _).mono ?_
          rintro e w2 ⟨rfl, hw⟩
          subst w2
          go_wp2_with fail
          refine (unhideI DJ _).mono ?_
          rintro e w2 ⟨rfl, hw⟩
          subst w2
          have hji : (i : Int) ≤ (j : Int) := by omega
          have hjs : (j : Int) ≤ ((ba l).size : Int) := by rw [ba_size]; omega
          have s3 := (unhideI HB).size
          have hacc : acc.length ≤ 65536 := by omega
          go_wp2_with (at_builtin; rw [unhideI HXJ]; refine wpList_append_own _ rfl (.tmp 87) (.tmp 94) 23 rfl w1.heap.size 33 i0 (.agg #[.int .i64 0, .string ⟨#[]⟩, .int .u64 0, .int .i64 0, .bool false, .int .i64 0]) 6 56 Tryd.underlying23 tq1 tq2 tq3 tq4 rfl (by decide) _ _ _ rfl ((unhideI HO).alloc _) ⟨_, 0, none⟩ 1 1 (cT ⟨1, T, 0, 0, false, (i : Int)⟩) rfl rfl (cells_c1 _ (cT ⟨1, T, 0, 0, false, (i : Int)⟩) _ _ (by simp)) (cT_one _) (by unfold maxLen; omega) (by omega) (by simp; omega) ?_; intro v5 w5 own5 grow5 _; have O5 := hideI (own_tok (P := acc) (p := ⟨1, T, 0, 0, false, (i : Int)⟩) own5 rfl rfl); have K5 := hideI (below_own ((unhideI HB).alloc (by omega) _) (by simp; omega) ((unhideI HO).alloc _) grow5); clear own5 grow5)
          have hjm := unhideI HJM
          subst hjm
          go_roundg (l.length - (i + M))
          case measure => omega
          case rel => exact ⟨i + M, f', acc ++ [⟨1, T, 0, 0, false, (i : Int)⟩], by omega, rfl, by go_num, by omega, by simp; omega, O5, K5, HE2⟩
    · have hjI : ¬ (j : Int) < ((ba l).size : Int) := by rw [ba_size]; omega
      have hJ := unhideI HJ
      rw [List.drop_eq_nil_of_le (by omega), wlen] at hJ
      have HJM := hideI (show j = i + M by omega)
      have HXJ : Hid ((ba l).extract i j = ba T) := by rw [unhideI HJM]; exact unhideI HXT
      clear HJ hJ
      have hji : (i : Int) ≤ (j : Int) := by omega
      have hjs : (j : Int) ≤ ((ba l).size : Int) := by rw [ba_size]; omega
      have s3 := (unhideI HB).size
      have hacc : acc.length ≤ 65536 := by omega
      go_wp2_with (at_builtin; rw [unhideI HXJ]; refine wpList_append_own _ rfl (.tmp 87) (.tmp 94) 23 rfl w1.heap.size 33 i0 (.agg #[.int .i64 0, .string ⟨#[]⟩, .int .u64 0, .int .i64 0, .bool false, .int .i64 0]) 6 56 Tryd.underlying23 tq1 tq2 tq3 tq4 rfl (by decide) _ _ _ rfl ((unhideI HO).alloc _) ⟨_, 0, none⟩ 1 1 (cT ⟨1, T, 0, 0, false, (i : Int)⟩) rfl rfl (cells_c1 _ (cT ⟨1, T, 0, 0, false, (i : Int)⟩) _ _ (by simp)) (cT_one _) (by unfold maxLen; omega) (by omega) (by simp; omega) ?_; intro v5 w5 own5 grow5 _; have O5 := hideI (own_tok (P := acc) (p := ⟨1, T, 0, 0, false, (i : Int)⟩) own5 rfl rfl); have K5 := hideI (below_own ((unhideI HB).alloc (by omega) _) (by simp; omega) ((unhideI HO).alloc _) grow5); clear own5 grow5)
      have hjm := unhideI HJM
      subst hjm
      go_roundg (l.length - (i + M))
      case measure => omega
      case rel => exact ⟨i + M, f', acc ++ [⟨1, T, 0, 0, false, (i : Int)⟩], by omega, rfl, by go_num, by omega, by simp; omega, O5, K5, HE2⟩
set_option maxRecDepth 100000 in
set_option maxHeartbeats 8000000 in
theorem tok_rem {l : List UInt8} {w w1 W0 : World} {i0 : TypeInfo} {R : List Tk × Int × Int} {Q' : Exit → Act → World → Prop} {K1 K : Act → World → Prop} {J : Nat → Act → World → Prop} {gk i f' : Nat} {acc : List Tk} {u2 u4 u6 u7 u8 u9 u10 u11 u12 u13 u14 u19 u20 u21 u22 u23 u24 u25 u26 u27 u28 u29 u30 u31 u32 u33 u34 u35 u36 u37 u38 u39 u40 u41 u42 u43 u44 u45 u46 u47 u48 u49 u50 u51 u52 u53 u54 u55 u56 u57 u58 u59 u60 u61 u62 u63 u64 u65 u66 u67 u68 u69 u70 u71 u72 u73 u74 u75 u76 u77 u78 u79 u80 u81 u82 u83 u84 u85 u86 u87 u88 u89 u90 u91 u92 u93 u94 u95 u96 u97 u98 u99 u100 u101 u102 u103 u104 u105 u106 u107 u108 u109 u110 u111 u112 u113 u114 u115 u116 u117 u118 u119 u120 u121 u122 u123 u124 u125 u126 u127 u128 u129 u130 u131 u132 u133 u134 u135 u136 u137 u138 u139 u140 u141 u142 u143 u144 u145 u146 u147 u148 u149 u150 u151 u152 u153 u154 u155 u156 u157 u158 u159 u160 u161 u162 u163 u164 u165 u166 u167 u168 u169 u170 u171 u172 u173 u174 u175 u176 u177 u178 u179 u180 u181 u182 u183 u184 u185 : Value}
    (tq1 : Tryd.prog.info? 33 = some i0) (tq2 : i0.zero = some (.agg #[.int .i64 0, .string ⟨#[]⟩, .int .u64 0, .int .i64 0, .bool false, .int .i64 0])) (tq3 : i0.size = 6) (tq4 : i0.bytes = 56)
    (hl6 : l.length ≤ 65536) (h6' : ¬ (65536 : Int) < ((ba l).size : Int))
    (HQ : Hid (∀ e a v, bodyPost Tryd.prog Tryd.f9 (fun e w' => TokRet w R e w') e a v → Q' e a v))
    (S0 : Hid (w1.heap.size = w.heap.size + 1))
    (hJ : ∀ (k : Nat) (a' : Act) (w' : World), (∃ u2 u4 u5 u6 u7 u8 u9 u10 u11 u12 u13 u14 u19 u20 u21 u22 u23 u24 u25 u26 u27 u28 u29 u30 u31 u32 u33 u34 u35 u36 u37 u38 u39 u40 u41 u42 u43 u44 u45 u46 u47 u48 u49 u50 u51 u52 u53 u54 u55 u56 u57 u58 u59 u60 u61 u62 u63 u64 u65 u66 u67 u68 u69 u70 u71 u72 u73 u74 u75 u76 u77 u78 u79 u80 u81 u82 u83 u84 u85 u86 u87 u88 u89 u90 u91 u92 u93 u94 u95 u96 u97 u98 u99 u100 u101 u102 u103 u104 u105 u106 u107 u108 u109 u110 u111 u112 u113 u114 u115 u116 u117 u118 u119 u120 u121 u122 u123 u124 u125 u126 u127 u128 u129 u130 u131 u132 u133 u134 u135 u136 u137 u138 u139 u140 u141 u142 u143 u144 u145 u146 u147 u148 u149 u150 u151 u152 u153 u154 u155 u156 u157 u158 u159 u160 u161 u162 u163 u164 u165 u166 u167 u168 u169 u170 u171 u172 u173 u174 u175 u176 u177 u178 u179 u180 u181 u182 u183 u184 u185 : Value, (∃ (i f : Nat) (acc : List Tk), i ≤ l.length ∧ k = l.length - i ∧ u5 = .int .i64 (i : Int) ∧ l.length - i ≤ f ∧ acc.length ≤ i ∧ Hid (w'.ownsRow w1.heap.size 33 6 u4 acc.length (acc.flatMap cT)) ∧ Hid (Below w1.heap.size w1 w') ∧ Hid (tks f (l.drop i) i acc = R)) ∧ a' = ⟨#[.string (ba l), undef, u2, .pointer (some ⟨w.heap.size, 0, none⟩), u4, u5, u6, u7, u8, u9, u10, u11, u12, u13, u14, .string (ba l), .int .i64 ((ba l).size : Int), .bool false, undef, u19, u20, u21, u22, u23, u24, u25, u26, u27, u28, u29, u30, u31, u32, u33, u34, u35, u36, u37, u38, u39, u40, u41, u42, u43, u44, u45, u46, u47, u48, u49, u50, u51, u52, u53, u54, u55, u56, u57, u58, u59, u60, u61, u62, u63, u64, u65, u66, u67, u68, u69, u70, u71, u72, u73, u74, u75, u76, u77, u78, u79, u80, u81, u82, u83, u84, u85, u86, u87, u88, u89, u90, u91, u92, u93, u94, u95, u96, u97, u98, u99, u100, u101, u102, u103, u104, u105, u106, u107, u108, u109, u110, u111, u112, u113, u114, u115, u116, u117, u118, u119, u120, u121, u122, u123, u124, u125, u126, u127, u128, u129, u130, u131, u132, u133, u134, u135, u136, u137, u138, u139, u140, u141, u142, u143, u144, u145, u146, u147, u148, u149, u150, u151, u152, u153, u154, u155, u156, u157, u158, u159, u160, u161, u162, u163, u164, u165, u166, u167, u168, u169, u170, u171, u172, u173, u174, u175, u176, u177, u178, u179, u180, u181, u182, u183, u184, u185, undef, undef], []⟩) → J k a' w')
    (hK : ∀ (a' : Act) (w' : World), Handed J gk a' w' → K a' w')
    (hi : i ≤ l.length) (hg : gk = l.length - i) (hf : l.length - i ≤ f' + 1) (hac : acc.length ≤ i)
    (HE : Hid (tks (f' + 1) (l.drop i) i acc = R)) (HO : Hid (W0.ownsRow w1.heap.size 33 6 u4 acc.length (acc.flatMap cT))) (HB : Hid (Below w1.heap.size w1 W0))
    (BF : Hid (Box W0 w.heap.size [.int .i64 0, .int .i64 0])) (KW : Hid (Below w.heap.size w W0))
    (hlt : i < l.length) (hz : i < (ba l).size) (hiI : (i : Int) < ((ba l).size : Int)) (hch : ch (l[i]'hlt) = (((ba l)[i].toNat : Nat) : Int))
    (h1 : ((((ba l)[i].toNat : Nat) : Int) == 32) = false) (h2 : ((((ba l)[i].toNat : Nat) : Int) == 9) = false) (h3 : ((((ba l)[i].toNat : Nat) : Int) == 10) = false) (hbk : blk (l[i]'hlt) = false) (h4 : ((((ba l)[i].toNat : Nat) : Int) == 47) = true) (hlt2 : i + 1 < l.length) (hz2 : i + 1 < (ba l).size) (hiI2 : (i : Int) + 1 < ((ba l).size : Int)) (hisR : isR (l.drop i) = ((((ba l)[i + 1].toNat : Nat) : Int) == 47)) (h5 : ((((ba l)[i + 1].toNat : Nat) : Int) == 47) = true) : Code.wp Tryd.prog (lB (bB (sL (sR (sR (sR (sR (Tryd.f9.body.getD .skip)))))))) (Exit.then K (Exit.inBlock 0 (Exit.then K1 Q'))) ⟨#[.string (ba l), undef, u2, .pointer (some ⟨w.heap.size, 0, none⟩), u4, .int .i64 (i : Int), u6, u7, u8, u9, u10, u11, u12, u13, u14, .string (ba l), .int .i64 ((ba l).size : Int), .bool false, undef, u19, u20, u21, u22, u23, u24, u25, u26, u27, u28, u29, u30, u31, u32, u33, u34, u35, u36, u37, u38, u39, u40, u41, u42, u43, u44, u45, u46, u47, u48, u49, u50, u51, u52, u53, u54, u55, u56, u57, u58, u59, u60, u61, u62, u63, u64, u65, u66, u67, u68, u69, u70, u71, u72, u73, u74, u75, u76, u77, u78, u79, u80, u81, u82, u83, u84, u85, u86, u87, u88, u89, u90, u91, u92, u93, u94, u95, u96, u97, u98, u99, u100, u101, u102, u103, u104, u105, u106, u107, u108, u109, u110, u111, u112, u113, u114, u115, u116, u117, u118, u119, u120, u121, u122, u123, u124, u125, u126, u127, u128, u129, u130, u131, u132, u133, u134, u135, u136, u137, u138, u139, u140, u141, u142, u143, u144, u145, u146, u147, u148, u149, u150, u151, u152, u153, u154, u155, u156, u157, u158, u159, u160, u161, u162, u163, u164, u165, u166, u167, u168, u169, u170, u171, u172, u173, u174, u175, u176, u177, u178, u179, u180, u181, u182, u183, u184, u185, undef, undef], []⟩ W0 := by
  have hd := List.drop_eq_getElem_cons hlt
  conv => arg 2; whnf
  have hr : isR (l.drop i) = true := by rw [hisR]; exact h5
  have hE := unhideI HE
  have hr' : isR ((l[i]'hlt) :: l.drop (i + 1)) = true := by rw [← hd]; exact hr
  have hrp : 1 ≤ rmk (l.drop i) := by rw [hd]; exact rmk_pos hr'
  have hrl := rmk_le (l.drop i)
  rw [List.length_drop] at hrl
  rw [hd, tks, if_neg (by rw [hbk]; decide), if_pos hr', ← hd, List.drop_drop] at hE
  have HE2 := hideI hE
  have HM : Hid (i + rmk (l.drop i) = i + rmk (l.drop i)) := rfl
  clear hE HE hd hisR hch hr hr' hbk
  generalize hM : rmk (l.drop i) = M at HE2 hrp hrl
  replace HM : Hid (i + rmk (l.drop i) = i + M) := by show _ = _; rw [hM]
  clear hM
  go_wp2_with fail
  go_loopg [5] (l.length - i) (fun g t ws => ∃ j : Nat, i ≤ j ∧ j ≤ l.length ∧ g = l.length - j ∧ t = .int .i64 (j : Int) ∧ ws = W0 ∧ Hid (j + rmk (l.drop j) = i + M))
  case atStart => exact ⟨i, Nat.le_refl _, by omega, rfl, rfl, rfl, HM⟩
  case round =>
    obtain ⟨j, hij, hjl, hgj, rfl, hws, HJ⟩ := hrel
    subst hws
    clear HM
    by_cases hjt : j < l.length
    · have hjz : j < (ba l).size := hjt
      have hjI : (j : Int) < ((ba l).size : Int) := by rw [ba_size]; omega
      have hdj := List.drop_eq_getElem_cons hjt
      have eaj := ba_at l j hjz
      have hJ := unhideI HJ
      rw [hdj, rmk] at hJ
      have hu := u8_eq (l[j]'hjt) 10
      rw [show ch 10 = 10 from rfl, show ch (l[j]'hjt) = (((ba l)[j].toNat : Nat) : Int) by unfold ch; rw [← eaj]] at hu
      clear eaj hdj HJ
      by_cases hn : (l[j]'hjt) = 10
      · have hb10 : ((((ba l)[j].toNat : Nat) : Int) == 10) = true := by rw [hu, hn]; rfl
        have hC : (((ba l)[j].toNat : Nat) : Int) = 10 := by simpa using hb10
        have hCn : (ba l)[j].toNat = 10 := by omega
        rw [if_pos hn] at hJ
        have HJM := hideI (show j = i + M by omega)
        clear hu hn hJ
        go_wp2_with fail
        have hjm := unhideI HJM
        subst hjm
        go_roundg (l.length - (i + M))
        case measure => omega
        case rel => exact ⟨i + M, f', acc, by omega, rfl, by go_num, by omega, by omega, HO, HB, HE2⟩
      · have hb10 : ((((ba l)[j].toNat : Nat) : Int) == 10) = false := by rw [hu]; exact beq_eq_false_iff_ne.2 hn
        have hbn : ((((ba l)[j].toNat : Nat) : Int) != 10) = true := by unfold bne; rw [hb10]; rfl
        rw [if_neg hn] at hJ
        have HJ2 : Hid ((j + 1) + rmk (l.drop (j + 1)) = i + M) := by show _ = _; omega
        clear hu hn hJ
        go_wp2_with fail
        go_roundg (l.length - (j + 1))
        case measure => omega
        case rel => exact ⟨j + 1, by omega, by omega, rfl, by go_num, rfl, HJ2⟩
    · have hjI : ¬ (j : Int) < ((ba l).size : Int) := by rw [ba_size]; omega
      have hJ := unhideI HJ
      rw [List.drop_eq_nil_of_le (by omega), rmk] at hJ
      have HJM := hideI (show j = i + M by omega)
      clear HJ hJ
      go_wp2_with fail
      have hjm := unhideI HJM
      subst hjm
      go_roundg (l.length - (i + M))
      case measure => omega
      case rel => exact ⟨i + M, f', acc, by omega, rfl, by go_num, by omega, by omega, HO, HB, HE2⟩
end Go.Proofs.YtonekpoblgigpaaDoor
