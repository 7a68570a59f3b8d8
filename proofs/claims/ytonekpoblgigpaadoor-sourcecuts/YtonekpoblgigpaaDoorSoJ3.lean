/-
  Texts: the document's Tokens: a round, by what stands there.
-/
import Derived.Test.YtonekpoblgigpaaDoorSoJ0
namespace Go.Proofs.YtonekpoblgigpaaDoor
open Go.RowKit
set_option linter.unusedSimpArgs false
set_option linter.unusedVariables false

set_option maxRecDepth 100000 in
set_option maxHeartbeats 8000000 in
theorem tok_sga {l : List UInt8} {w w1 W0 : World} {i0 : TypeInfo} {R : List Tk × Int × Int} {Q' : Exit → Act → World → Prop} {K1 K : Act → World → Prop} {J : Nat → Act → World → Prop} {gk i f' : Nat} {acc : List Tk} {u2 u4 u6 u7 u8 u9 u10 u11 u12 u13 u14 u19 u20 u21 u22 u23 u24 u25 u26 u27 u28 u29 u30 u31 u32 u33 u34 u35 u36 u37 u38 u39 u40 u41 u42 u43 u44 u45 u46 u47 u48 u49 u50 u51 u52 u53 u54 u55 u56 u57 u58 u59 u60 u61 u62 u63 u64 u65 u66 u67 u68 u69 u70 u71 u72 u73 u74 u75 u76 u77 u78 u79 u80 u81 u82 u83 u84 u85 u86 u87 u88 u89 u90 u91 u92 u93 u94 u95 u96 u97 u98 u99 u100 u101 u102 u103 u104 u105 u106 u107 u108 u109 u110 u111 u112 u113 u114 u115 u116 u117 u118 u119 u120 u121 u122 u123 u124 u125 u126 u127 u128 u129 u130 u131 u132 u133 u134 u135 u136 u137 u138 u139 u140 u141 u142 u143 u144 u145 u146 u147 u148 u149 u150 u151 u152 u153 u154 u155 u156 u157 u158 u159 u160 u161 u162 u163 u164 u165 u166 u167 u168 u169 u170 u171 u172 u173 u174 u175 u176 u177 u178 u179 u180 u181 u182 u183 u184 u185 : Value}
    (tq1 : Tryd.prog.info? 33 = some i0) (tq2 : i0.zero = some (.agg #[.int .i64 0, .string ⟨#[]⟩, .int .u64 0, .int .i64 0, .bool false, .int .i64 0])) (tq3 : i0.size = 6) (tq4 : i0.bytes = 56)
    (hl6 : l.length ≤ 65536) (h6' : ¬ (65536 : Int) < ((ba l).size : Int))
    (HQ : Hid (∀ e a v, bodyPost Tryd.prog Tryd.f9 (fun e w' => TokRet w R e w') e a v → Q' e a v))
    (S0 : Hid (w1.heap.size = w.heap.size + 1))
    (hJ : ∀ (k : Nat) (a' : Act) (w' : World), (∃ u2 u4 u5 u6 u7 u8 u9 u10 u11 u12 u13 u14 u19 u20 u21 u22 u23 u24 u25 u26 u27 u28 u29 u30 u31 u32 u33 u34 u35 u36 u37 u38 u39 u40 u41 u42 u43 u44 u45 u46 u47 u48 u49 u50 u51 u52 u53 u54 u55 u56 u57 u58 u59 u60 u61 u62 u63 u64 u65 u66 u67 u68 u69 u70 u71 u72 u73 u74 u75 u76 u77 u78 u79 u80 u81 u82 u83 u84 u85 u86 u87 u88 u89 u90 u91 u92 u93 u94 u95 u96 u97 u98 u99 u100 u101 u102 u103 u104 u105 u106 u107 u108 u109 u110 u111 u112 u113 u114 u115 u116 u117 u118 u119 u120 u121 u122 u123 u124 u125 u126 u127 u128 u129 u130 u131 u132 u133 u134 u135 u136 u137 u138 u139 u140 u141 u142 u143 u144 u145 u146 u147 u148 u149 u150 u151 u152 u153 u154 u155 u156 u157 u158 u159 u160 u161 u162 u163 u164 u165 u166 u167 u168 u169 u170 u171 u172 u173 u174 u175 u176 u177 u178 u179 u180 u181 u182 u183 u184 u185 : Value, (∃ (i f : Nat) (acc : List Tk), i ≤ l.length ∧ k = l.length - i ∧ u5 = .int .i64 (i : Int) ∧ l.length - i ≤ f ∧ acc.length ≤ i ∧ Hid (w'.ownsRow w1.heap.size 33 6 u4 acc.length (acc.flatMap cT)) ∧ Hid (Below w1.heap.size w1 w') ∧ Hid (tks f (l.drop i) i acc = R)) ∧ a' = ⟨#[.string (ba l), undef, u2, .pointer (some ⟨w.heap.size, 0, none⟩), u4, u5, u6, u7, u8, u9, u10, u11, u12, u13, u14, .string (ba l), .int .i64 ((ba l).size : Int), .bool false, undef, u19, u20, u21, u22, u23, u24, u25, u26, u27, u28, u29, u30, u31, u32, u33, u34, u35, u36, u37, u38, u39, u40, u41, u42, u43, u44, u45, u46, u47, u48, u49, u50, u51, u52, u53, u54, u55, u56, u57, u58, u59, u60, u61, u62, u63, u64, u65, u66, u67, u68, u69, u70, u71, u72, u73, u74, u75, u76, u77, u78, u79, u80, u81, u82, u83, u84, u85, u86, u87, u88, u89, u90, u91, u92, u93, u94, u95, u96, u97, u98, u99, u100, u101, u102, u103, u104, u105, u106, u107, u108, u109, u110, u111, u112, u113, u114, u115, u116, u117, u118, u119, u120, u121, u122, u123, u124, u125, u126, u127, u128, u129, u130, u131, u132, u133, u134, u135, u136, u137, u138, u139, u140, u141, u142, u143, u144, u145, u146, u147, u148, u149, u150, u151, u152, u153, u154, u155, u156, u157, u158, u159, u160, u161, u162, u163, u164, u165, u166, u167, u168, u169, u170, u171, u172, u173, u174, u175, u176, u177, u178, u179, u180, u181, u182, u183, u184, u185, undef, undef], []⟩) → J k a' w')
    (hK : ∀ (a' : Act) (w' : World), Handed J gk a' w' → K a' w')
    (hi : i ≤ l.length) (hg : gk = l.length - i) (hf : l.length - i ≤ f' + 1) (hac : acc.length ≤ i)
    (HE : Hid (tks (f' + 1) (l.drop i) i acc = R)) (HO : Hid (W0.ownsRow w1.heap.size 33 6 u4 acc.length (acc.flatMap cT))) (HB : Hid (Below w1.heap.size w1 W0))
    (BF : Hid (Box W0 w.heap.size [.int .i64 0, .int .i64 0])) (KW : Hid (Below w.heap.size w W0))
    (hlt : i < l.length) (hz : i < (ba l).size) (hiI : (i : Int) < ((ba l).size : Int)) (hch : ch (l[i]'hlt) = (((ba l)[i].toNat : Nat) : Int))
    (h1 : ((((ba l)[i].toNat : Nat) : Int) == 32) = false) (h2 : ((((ba l)[i].toNat : Nat) : Int) == 9) = false) (h3 : ((((ba l)[i].toNat : Nat) : Int) == 10) = false) (hbk : blk (l[i]'hlt) = false) (h4 : ((((ba l)[i].toNat : Nat) : Int) == 47) = true) (hiI2 : (i : Int) + 1 < ((ba l).size : Int)) (hz2 : i + 1 < (ba l).size) (h5 : ((((ba l)[i + 1].toNat : Nat) : Int) == 47) = false) (hnr : isR ((l[i]'hlt) :: l.drop (i + 1)) = false) (hxl : ltr (ch (l[i]'hlt)) = false) (hxd : dgt (ch (l[i]'hlt)) = false) (hnl : ltr (((ba l)[i].toNat : Nat) : Int) = false) (hnd : dgt (((ba l)[i].toNat : Nat) : Int) = false) : Code.wp Tryd.prog (lB (bB (sL (sR (sR (sR (sR (Tryd.f9.body.getD .skip)))))))) (Exit.then K (Exit.inBlock 0 (Exit.then K1 Q'))) ⟨#[.string (ba l), undef, u2, .pointer (some ⟨w.heap.size, 0, none⟩), u4, .int .i64 (i : Int), u6, u7, u8, u9, u10, u11, u12, u13, u14, .string (ba l), .int .i64 ((ba l).size : Int), .bool false, undef, u19, u20, u21, u22, u23, u24, u25, u26, u27, u28, u29, u30, u31, u32, u33, u34, u35, u36, u37, u38, u39, u40, u41, u42, u43, u44, u45, u46, u47, u48, u49, u50, u51, u52, u53, u54, u55, u56, u57, u58, u59, u60, u61, u62, u63, u64, u65, u66, u67, u68, u69, u70, u71, u72, u73, u74, u75, u76, u77, u78, u79, u80, u81, u82, u83, u84, u85, u86, u87, u88, u89, u90, u91, u92, u93, u94, u95, u96, u97, u98, u99, u100, u101, u102, u103, u104, u105, u106, u107, u108, u109, u110, u111, u112, u113, u114, u115, u116, u117, u118, u119, u120, u121, u122, u123, u124, u125, u126, u127, u128, u129, u130, u131, u132, u133, u134, u135, u136, u137, u138, u139, u140, u141, u142, u143, u144, u145, u146, u147, u148, u149, u150, u151, u152, u153, u154, u155, u156, u157, u158, u159, u160, u161, u162, u163, u164, u165, u166, u167, u168, u169, u170, u171, u172, u173, u174, u175, u176, u177, u178, u179, u180, u181, u182, u183, u184, u185, undef, undef], []⟩ W0 := by
  have hd := List.drop_eq_getElem_cons hlt
  conv => arg 2; whnf
  have LAs := hideI (fun W => letter8_any (((ba l)[i].toNat : Nat) : Int) W)
  have DAs := hideI (fun W => digit8_any (((ba l)[i].toNat : Nat) : Int) W)
  rw [hnl] at LAs
  rw [hnd] at DAs
  have SA := hideI (fun W => sign8_any l i W hl6 (by omega))
  have hE := unhideI HE
  rw [hd, tks, if_neg (by rw [hbk]; decide), if_neg (by rw [hnr]; decide), ← hd] at hE
  have htk : tok1 (l.drop i) = sgn1 (l.drop i) := by
    rw [hd, tok1_cons, if_neg (by rw [hxl]; decide), if_neg (by rw [hxd]; decide)]
  rw [htk] at hE
  have hsg : (sgB (l.drop i) = [] ∧ sgn1 (l.drop i) = (2, tk0, 0)) ∨ (sgB (l.drop i) ≠ [] ∧ sgn1 (l.drop i) = (0, ⟨3, sgB (l.drop i), 0, 0, false, 0⟩, (sgB (l.drop i)).length) ∧ (sgB (l.drop i)).length ≤ 2 ∧ i + (sgB (l.drop i)).length ≤ l.length) := sgn_cases l i (by omega)
  generalize sgB (l.drop i) = P at *
  clear HE hd htk
  go_wp2_with fail
  refine (unhideI LAs _).mono ?_
  rintro e w2 ⟨rfl, hw⟩
  subst w2
  go_wp2_with fail
  refine (unhideI DAs _).mono ?_
  rintro e w2 ⟨rfl, hw⟩
  subst w2
  go_wp2_with fail
  refine (unhideI SA _).mono ?_
  rintro e w3 ⟨rfl, k3⟩
  have O3 := hideI (own_step (unhideI HO) k3)
  have K3 := hideI ((unhideI HB).trans (k3.mono (unhideI HB).size))
  replace BF := hideI ((unhideI BF).step k3)
  replace KW := hideI (bt (unhideI KW) k3)
  clear k3 SA LAs DAs
  rcases hsg with ⟨hp, hs⟩ | ⟨hp, hs, hp2, hp3⟩
  · subst hp
    rw [hs, if_neg (by decide)] at hE
    have hR : R = ([], 2, (i : Int)) := hE.symm
    subst hR
    have hbe : (ba ([] : List UInt8)).toList.isEmpty = true := by rw [ba_list]; rfl
    clear hs hE
    have y0 := (unhideI BF).2.1 0 _ rfl
    have y1 := (unhideI BF).2.1 1 _ rfl
    have y2 := (unhideI BF).2.2
    have y4 := (unhideI BF).1
    go_wp2_with fail
    exact unhideI HQ _ _ _ (bodyPost_ret (v := .tuple #[.slice none 0 0, .agg #[.int .i64 2, .int .i64 (i : Int)]]) (by simp [results, Tryd.results9, go_sem, y0, y1, y2, y4]) rfl ⟨_, rfl, Lies.nil _ _, (by repeat (first | exact unhideI KW | refine Below.setCell ?_ (by first | exact Nat.le_refl _ | (simp; done) | omega | (simp; omega)) _ | refine Below.alloc ?_ (by first | (simp; done) | omega | (simp; omega)) _))⟩)
  · rw [hs, if_pos rfl] at hE
    dsimp only at hE
    rw [List.drop_drop] at hE
    have HE2 := hideI hE
    have hbe : (ba P).toList.isEmpty = false := by rw [ba_list]; simpa using hp
    have hp1 : 1 ≤ P.length := by cases P with | nil => exact absurd rfl hp | cons a b => simp
    have hps : ((ba P).size : Int) = (P.length : Int) := by rw [ba_size]
    have s3 := (unhideI K3).size
    have HPS := hideI hps
    have HP := hideI (And.intro hp1 (And.intro hp2 hp3))
    have c3 : ((ba P).size : Int) ≤ 2 := by rw [ba_size]; omega
    have c4 : (i : Int) ≤ 65536 := by omega
    have hacc : acc.length ≤ 65536 := by omega
    clear hs hE hp hps hp1 hp2 hp3
    go_wp2_with (at_builtin; (refine wpList_append_own _ rfl (.tmp 176) (.tmp 180) 23 rfl w1.heap.size 33 i0 (.agg #[.int .i64 0, .string ⟨#[]⟩, .int .u64 0, .int .i64 0, .bool false, .int .i64 0]) 6 56 Tryd.underlying23 tq1 tq2 tq3 tq4 rfl (by decide) _ _ _ rfl ((unhideI O3).alloc _) ⟨_, 0, none⟩ 1 1 (cT ⟨3, P, 0, 0, false, (i : Int)⟩) rfl rfl (cells_c1 _ (cT ⟨3, P, 0, 0, false, (i : Int)⟩) _ _ (by simp)) (cT_one _) (by unfold maxLen; omega) (by omega) (by simp; omega) ?_; intro v5 w5 own5 grow5 _; have O5 := hideI (own_tok (P := acc) (p := ⟨3, P, 0, 0, false, (i : Int)⟩) own5 rfl rfl); have K5 := hideI (below_own ((unhideI K3).alloc (by omega) _) (by simp; omega) ((unhideI O3).alloc _) grow5); clear own5 grow5))
    obtain ⟨hp1, hp2, hp3⟩ := unhideI HP
    go_roundg (l.length - (i + P.length))
    case measure => omega
    case rel => exact ⟨i + P.length, f', acc ++ [⟨3, P, 0, 0, false, (i : Int)⟩], by omega, rfl, by rw [ba_size]; go_num, by omega, by simp; omega, O5, K5, HE2⟩
set_option maxRecDepth 100000 in
set_option maxHeartbeats 8000000 in
theorem tok_sgb {l : List UInt8} {w w1 W0 : World} {i0 : TypeInfo} {R : List Tk × Int × Int} {Q' : Exit → Act → World → Prop} {K1 K : Act → World → Prop} {J : Nat → Act → World → Prop} {gk i f' : Nat} {acc : List Tk} {u2 u4 u6 u7 u8 u9 u10 u11 u12 u13 u14 u19 u20 u21 u22 u23 u24 u25 u26 u27 u28 u29 u30 u31 u32 u33 u34 u35 u36 u37 u38 u39 u40 u41 u42 u43 u44 u45 u46 u47 u48 u49 u50 u51 u52 u53 u54 u55 u56 u57 u58 u59 u60 u61 u62 u63 u64 u65 u66 u67 u68 u69 u70 u71 u72 u73 u74 u75 u76 u77 u78 u79 u80 u81 u82 u83 u84 u85 u86 u87 u88 u89 u90 u91 u92 u93 u94 u95 u96 u97 u98 u99 u100 u101 u102 u103 u104 u105 u106 u107 u108 u109 u110 u111 u112 u113 u114 u115 u116 u117 u118 u119 u120 u121 u122 u123 u124 u125 u126 u127 u128 u129 u130 u131 u132 u133 u134 u135 u136 u137 u138 u139 u140 u141 u142 u143 u144 u145 u146 u147 u148 u149 u150 u151 u152 u153 u154 u155 u156 u157 u158 u159 u160 u161 u162 u163 u164 u165 u166 u167 u168 u169 u170 u171 u172 u173 u174 u175 u176 u177 u178 u179 u180 u181 u182 u183 u184 u185 : Value}
    (tq1 : Tryd.prog.info? 33 = some i0) (tq2 : i0.zero = some (.agg #[.int .i64 0, .string ⟨#[]⟩, .int .u64 0, .int .i64 0, .bool false, .int .i64 0])) (tq3 : i0.size = 6) (tq4 : i0.bytes = 56)
    (hl6 : l.length ≤ 65536) (h6' : ¬ (65536 : Int) < ((ba l).size : Int))
    (HQ : Hid (∀ e a v, bodyPost Tryd.prog Tryd.f9 (fun e w' => TokRet w R e w') e a v → Q' e a v))
    (S0 : Hid (w1.heap.size = w.heap.size + 1))
    (hJ : ∀ (k : Nat) (a' : Act) (w' : World), (∃ u2 u4 u5 u6 u7 u8 u9 u10 u11 u12 u13 u14 u19 u20 u21 u22 u23 u24 u25 u26 u27 u28 u29 u30 u31 u32 u33 u34 u35 u36 u37 u38 u39 u40 u41 u42 u43 u44 u45 u46 u47 u48 u49 u50 u51 u52 u53 u54 u55 u56 u57 u58 u59 u60 u61 u62 u63 u64 u65 u66 u67 u68 u69 u70 u71 u72 u73 u74 u75 u76 u77 u78 u79 u80 u81 u82 u83 u84 u85 u86 u87 u88 u89 u90 u91 u92 u93 u94 u95 u96 u97 u98 u99 u100 u101 u102 u103 u104 u105 u106 u107 u108 u109 u110 u111 u112 u113 u114 u115 u116 u117 u118 u119 u120 u121 u122 u123 u124 u125 u126 u127 u128 u129 u130 u131 u132 u133 u134 u135 u136 u137 u138 u139 u140 u141 u142 u143 u144 u145 u146 u147 u148 u149 u150 u151 u152 u153 u154 u155 u156 u157 u158 u159 u160 u161 u162 u163 u164 u165 u166 u167 u168 u169 u170 u171 u172 u173 u174 u175 u176 u177 u178 u179 u180 u181 u182 u183 u184 u185 : Value, (∃ (i f : Nat) (acc : List Tk), i ≤ l.length ∧ k = l.length - i ∧ u5 = .int .i64 (i : Int) ∧ l.length - i ≤ f ∧ acc.length ≤ i ∧ Hid (w'.ownsRow w1.heap.size 33 6 u4 acc.length (acc.flatMap cT)) ∧ Hid (Below w1.heap.size w1 w') ∧ Hid (tks f (l.drop i) i acc = R)) ∧ a' = ⟨#[.string (ba l), undef, u2, .pointer (some ⟨w.heap.size, 0, none⟩), u4, u5, u6, u7, u8, u9, u10, u11, u12, u13, u14, .string (ba l), .int .i64 ((ba l).size : Int), .bool false, undef, u19, u20, u21, u22, u23, u24, u25, u26, u27, u28, u29, u30, u31, u32, u33, u34, u35, u36, u37, u38, u39, u40, u41, u42, u43, u44, u45, u46, u47, u48, u49, u50, u51, u52, u53, u54, u55, u56, u57, u58, u59, u60, u61, u62, u63, u64, u65, u66, u67, u68, u69, u70, u71, u72, u73, u74, u75, u76, u77, u78, u79, u80, u81, u82, u83, u84, u85, u86, u87, u88, u89, u90, u91, u92, u93, u94, u95, u96, u97, u98, u99, u100, u101, u102, u103, u104, u105, u106, u107, u108, u109, u110, u111, u112, u113, u114, u115, u116, u117, u118, u119, u120, u121, u122, u123, u124, u125, u126, u127, u128, u129, u130, u131, u132, u133, u134, u135, u136, u137, u138, u139, u140, u141, u142, u143, u144, u145, u146, u147, u148, u149, u150, u151, u152, u153, u154, u155, u156, u157, u158, u159, u160, u161, u162, u163, u164, u165, u166, u167, u168, u169, u170, u171, u172, u173, u174, u175, u176, u177, u178, u179, u180, u181, u182, u183, u184, u185, undef, undef], []⟩) → J k a' w')
    (hK : ∀ (a' : Act) (w' : World), Handed J gk a' w' → K a' w')
    (hi : i ≤ l.length) (hg : gk = l.length - i) (hf : l.length - i ≤ f' + 1) (hac : acc.length ≤ i)
    (HE : Hid (tks (f' + 1) (l.drop i) i acc = R)) (HO : Hid (W0.ownsRow w1.heap.size 33 6 u4 acc.length (acc.flatMap cT))) (HB : Hid (Below w1.heap.size w1 W0))
    (BF : Hid (Box W0 w.heap.size [.int .i64 0, .int .i64 0])) (KW : Hid (Below w.heap.size w W0))
    (hlt : i < l.length) (hz : i < (ba l).size) (hiI : (i : Int) < ((ba l).size : Int)) (hch : ch (l[i]'hlt) = (((ba l)[i].toNat : Nat) : Int))
    (h1 : ((((ba l)[i].toNat : Nat) : Int) == 32) = false) (h2 : ((((ba l)[i].toNat : Nat) : Int) == 9) = false) (h3 : ((((ba l)[i].toNat : Nat) : Int) == 10) = false) (hbk : blk (l[i]'hlt) = false) (h4 : ((((ba l)[i].toNat : Nat) : Int) == 47) = true) (hiI2 : ¬ (i : Int) + 1 < ((ba l).size : Int)) (hnr : isR ((l[i]'hlt) :: l.drop (i + 1)) = false) (hxl : ltr (ch (l[i]'hlt)) = false) (hxd : dgt (ch (l[i]'hlt)) = false) (hnl : ltr (((ba l)[i].toNat : Nat) : Int) = false) (hnd : dgt (((ba l)[i].toNat : Nat) : Int) = false) : Code.wp Tryd.prog (lB (bB (sL (sR (sR (sR (sR (Tryd.f9.body.getD .skip)))))))) (Exit.then K (Exit.inBlock 0 (Exit.then K1 Q'))) ⟨#[.string (ba l), undef, u2, .pointer (some ⟨w.heap.size, 0, none⟩), u4, .int .i64 (i : Int), u6, u7, u8, u9, u10, u11, u12, u13, u14, .string (ba l), .int .i64 ((ba l).size : Int), .bool false, undef, u19, u20, u21, u22, u23, u24, u25, u26, u27, u28, u29, u30, u31, u32, u33, u34, u35, u36, u37, u38, u39, u40, u41, u42, u43, u44, u45, u46, u47, u48, u49, u50, u51, u52, u53, u54, u55, u56, u57, u58, u59, u60, u61, u62, u63, u64, u65, u66, u67, u68, u69, u70, u71, u72, u73, u74, u75, u76, u77, u78, u79, u80, u81, u82, u83, u84, u85, u86, u87, u88, u89, u90, u91, u92, u93, u94, u95, u96, u97, u98, u99, u100, u101, u102, u103, u104, u105, u106, u107, u108, u109, u110, u111, u112, u113, u114, u115, u116, u117, u118, u119, u120, u121, u122, u123, u124, u125, u126, u127, u128, u129, u130, u131, u132, u133, u134, u135, u136, u137, u138, u139, u140, u141, u142, u143, u144, u145, u146, u147, u148, u149, u150, u151, u152, u153, u154, u155, u156, u157, u158, u159, u160, u161, u162, u163, u164, u165, u166, u167, u168, u169, u170, u171, u172, u173, u174, u175, u176, u177, u178, u179, u180, u181, u182, u183, u184, u185, undef, undef], []⟩ W0 := by
  have hd := List.drop_eq_getElem_cons hlt
  conv => arg 2; whnf
  have LAs := hideI (fun W => letter8_any (((ba l)[i].toNat : Nat) : Int) W)
  have DAs := hideI (fun W => digit8_any (((ba l)[i].toNat : Nat) : Int) W)
  rw [hnl] at LAs
  rw [hnd] at DAs
  have SA := hideI (fun W => sign8_any l i W hl6 (by omega))
  have hE := unhideI HE
  rw [hd, tks, if_neg (by rw [hbk]; decide), if_neg (by rw [hnr]; decide), ← hd] at hE
  have htk : tok1 (l.drop i) = sgn1 (l.drop i) := by
    rw [hd, tok1_cons, if_neg (by rw [hxl]; decide), if_neg (by rw [hxd]; decide)]
  rw [htk] at hE
  have hsg : (sgB (l.drop i) = [] ∧ sgn1 (l.drop i) = (2, tk0, 0)) ∨ (sgB (l.drop i) ≠ [] ∧ sgn1 (l.drop i) = (0, ⟨3, sgB (l.drop i), 0, 0, false, 0⟩, (sgB (l.drop i)).length) ∧ (sgB (l.drop i)).length ≤ 2 ∧ i + (sgB (l.drop i)).length ≤ l.length) := sgn_cases l i (by omega)
  generalize sgB (l.drop i) = P at *
  clear HE hd htk
  go_wp2_with fail
  refine (unhideI LAs _).mono ?_
  rintro e w2 ⟨rfl, hw⟩
  subst w2
  go_wp2_with fail
  refine (unhideI DAs _).mono ?_
  rintro e w2 ⟨rfl, hw⟩
  subst w2
  go_wp2_with fail
  refine (unhideI SA _).mono ?_
  rintro e w3 ⟨rfl, k3⟩
  have O3 := hideI (own_step (unhideI HO) k3)
  have K3 := hideI ((unhideI HB).trans (k3.mono (unhideI HB).size))
  replace BF := hideI ((unhideI BF).step k3)
  replace KW := hideI (bt (unhideI KW) k3)
  clear k3 SA LAs DAs
  rcases hsg with ⟨hp, hs⟩ | ⟨hp, hs, hp2, hp3⟩
  · subst hp
    rw [hs, if_neg (by decide)] at hE
    have hR : R = ([], 2, (i : Int)) := hE.symm
    subst hR
    have hbe : (ba ([] : List UInt8)).toList.isEmpty = true := by rw [ba_list]; rfl
    clear hs hE
    have y0 := (unhideI BF).2.1 0 _ rfl
    have y1 := (unhideI BF).2.1 1 _ rfl
    have y2 := (unhideI BF).2.2
    have y4 := (unhideI BF).1
    go_wp2_with fail
    exact unhideI HQ _ _ _ (bodyPost_ret (v := .tuple #[.slice none 0 0, .agg #[.int .i64 2, .int .i64 (i : Int)]]) (by simp [results, Tryd.results9, go_sem, y0, y1, y2, y4]) rfl ⟨_, rfl, Lies.nil _ _, (by repeat (first | exact unhideI KW | refine Below.setCell ?_ (by first | exact Nat.le_refl _ | (simp; done) | omega | (simp; omega)) _ | refine Below.alloc ?_ (by first | (simp; done) | omega | (simp; omega)) _))⟩)
  · rw [hs, if_pos rfl] at hE
    dsimp only at hE
    rw [List.drop_drop] at hE
    have HE2 := hideI hE
    have hbe : (ba P).toList.isEmpty = false := by rw [ba_list]; simpa using hp
    have hp1 : 1 ≤ P.length := by cases P with | nil => exact absurd rfl hp | cons a b => simp
    have hps : ((ba P).size : Int) = (P.length : Int) := by rw [ba_size]
    have s3 := (unhideI K3).size
    have HPS := hideI hps
    have HP := hideI (And.intro hp1 (And.intro hp2 hp3))
    have c3 : ((ba P).size : Int) ≤ 2 := by rw [ba_size]; omega
    have c4 : (i : Int) ≤ 65536 := by omega
    have hacc : acc.length ≤ 65536 := by omega
    clear hs hE hp hps hp1 hp2 hp3
    go_wp2_with (at_builtin; (refine wpList_append_own _ rfl (.tmp 176) (.tmp 180) 23 rfl w1.heap.size 33 i0 (.agg #[.int .i64 0, .string ⟨#[]⟩, .int .u64 0, .int .i64 0, .bool false, .int .i64 0]) 6 56 Tryd.underlying23 tq1 tq2 tq3 tq4 rfl (by decide) _ _ _ rfl ((unhideI O3).alloc _) ⟨_, 0, none⟩ 1 1 (cT ⟨3, P, 0, 0, false, (i : Int)⟩) rfl rfl (cells_c1 _ (cT ⟨3, P, 0, 0, false, (i : Int)⟩) _ _ (by simp)) (cT_one _) (by unfold maxLen; omega) (by omega) (by simp; omega) ?_; intro v5 w5 own5 grow5 _; have O5 := hideI (own_tok (P := acc) (p := ⟨3, P, 0, 0, false, (i : Int)⟩) own5 rfl rfl); have K5 := hideI (below_own ((unhideI K3).alloc (by omega) _) (by simp; omega) ((unhideI O3).alloc _) grow5); clear own5 grow5))
    obtain ⟨hp1, hp2, hp3⟩ := unhideI HP
    go_roundg (l.length - (i + P.length))
    case measure => omega
    case rel => exact ⟨i + P.length, f', acc ++ [⟨3, P, 0, 0, false, (i : Int)⟩], by omega, rfl, by rw [ba_size]; go_num, by omega, by simp; omega, O5, K5, HE2⟩
set_option maxRecDepth 100000 in
set_option maxHeartbeats 8000000 in
theorem tok_sgc {l : List UInt8} {w w1 W0 : World} {i0 : TypeInfo} {R : List Tk × Int × Int} {Q' : Exit → Act → World → Prop} {K1 K : Act → World → Prop} {J : Nat → Act → World → Prop} {gk i f' : Nat} {acc : List Tk} {u2 u4 u6 u7 u8 u9 u10 u11 u12 u13 u14 u19 u20 u21 u22 u23 u24 u25 u26 u27 u28 u29 u30 u31 u32 u33 u34 u35 u36 u37 u38 u39 u40 u41 u42 u43 u44 u45 u46 u47 u48 u49 u50 u51 u52 u53 u54 u55 u56 u57 u58 u59 u60 u61 u62 u63 u64 u65 u66 u67 u68 u69 u70 u71 u72 u73 u74 u75 u76 u77 u78 u79 u80 u81 u82 u83 u84 u85 u86 u87 u88 u89 u90 u91 u92 u93 u94 u95 u96 u97 u98 u99 u100 u101 u102 u103 u104 u105 u106 u107 u108 u109 u110 u111 u112 u113 u114 u115 u116 u117 u118 u119 u120 u121 u122 u123 u124 u125 u126 u127 u128 u129 u130 u131 u132 u133 u134 u135 u136 u137 u138 u139 u140 u141 u142 u143 u144 u145 u146 u147 u148 u149 u150 u151 u152 u153 u154 u155 u156 u157 u158 u159 u160 u161 u162 u163 u164 u165 u166 u167 u168 u169 u170 u171 u172 u173 u174 u175 u176 u177 u178 u179 u180 u181 u182 u183 u184 u185 : Value}
    (tq1 : Tryd.prog.info? 33 = some i0) (tq2 : i0.zero = some (.agg #[.int .i64 0, .string ⟨#[]⟩, .int .u64 0, .int .i64 0, .bool false, .int .i64 0])) (tq3 : i0.size = 6) (tq4 : i0.bytes = 56)
    (hl6 : l.length ≤ 65536) (h6' : ¬ (65536 : Int) < ((ba l).size : Int))
    (HQ : Hid (∀ e a v, bodyPost Tryd.prog Tryd.f9 (fun e w' => TokRet w R e w') e a v → Q' e a v))
    (S0 : Hid (w1.heap.size = w.heap.size + 1))
    (hJ : ∀ (k : Nat) (a' : Act) (w' : World), (∃ u2 u4 u5 u6 u7 u8 u9 u10 u11 u12 u13 u14 u19 u20 u21 u22 u23 u24 u25 u26 u27 u28 u29 u30 u31 u32 u33 u34 u35 u36 u37 u38 u39 u40 u41 u42 u43 u44 u45 u46 u47 u48 u49 u50 u51 u52 u53 u54 u55 u56 u57 u58 u59 u60 u61 u62 u63 u64 u65 u66 u67 u68 u69 u70 u71 u72 u73 u74 u75 u76 u77 u78 u79 u80 u81 u82 u83 u84 u85 u86 u87 u88 u89 u90 u91 u92 u93 u94 u95 u96 u97 u98 u99 u100 u101 u102 u103 u104 u105 u106 u107 u108 u109 u110 u111 u112 u113 u114 u115 u116 u117 u118 u119 u120 u121 u122 u123 u124 u125 u126 u127 u128 u129 u130 u131 u132 u133 u134 u135 u136 u137 u138 u139 u140 u141 u142 u143 u144 u145 u146 u147 u148 u149 u150 u151 u152 u153 u154 u155 u156 u157 u158 u159 u160 u161 u162 u163 u164 u165 u166 u167 u168 u169 u170 u171 u172 u173 u174 u175 u176 u177 u178 u179 u180 u181 u182 u183 u184 u185 : Value, (∃ (i f : Nat) (acc : List Tk), i ≤ l.length ∧ k = l.length - i ∧ u5 = .int .i64 (i : Int) ∧ l.length - i ≤ f ∧ acc.length ≤ i ∧ Hid (w'.ownsRow w1.heap.size 33 6 u4 acc.length (acc.flatMap cT)) ∧ Hid (Below w1.heap.size w1 w') ∧ Hid (tks f (l.drop i) i acc = R)) ∧ a' = ⟨#[.string (ba l), undef, u2, .pointer (some ⟨w.heap.size, 0, none⟩), u4, u5, u6, u7, u8, u9, u10, u11, u12, u13, u14, .string (ba l), .int .i64 ((ba l).size : Int), .bool false, undef, u19, u20, u21, u22, u23, u24, u25, u26, u27, u28, u29, u30, u31, u32, u33, u34, u35, u36, u37, u38, u39, u40, u41, u42, u43, u44, u45, u46, u47, u48, u49, u50, u51, u52, u53, u54, u55, u56, u57, u58, u59, u60, u61, u62, u63, u64, u65, u66, u67, u68, u69, u70, u71, u72, u73, u74, u75, u76, u77, u78, u79, u80, u81, u82, u83, u84, u85, u86, u87, u88, u89, u90, u91, u92, u93, u94, u95, u96, u97, u98, u99, u100, u101, u102, u103, u104, u105, u106, u107, u108, u109, u110, u111, u112, u113, u114, u115, u116, u117, u118, u119, u120, u121, u122, u123, u124, u125, u126, u127, u128, u129, u130, u131, u132, u133, u134, u135, u136, u137, u138, u139, u140, u141, u142, u143, u144, u145, u146, u147, u148, u149, u150, u151, u152, u153, u154, u155, u156, u157, u158, u159, u160, u161, u162, u163, u164, u165, u166, u167, u168, u169, u170, u171, u172, u173, u174, u175, u176, u177, u178, u179, u180, u181, u182, u183, u184, u185, undef, undef], []⟩) → J k a' w')
    (hK : ∀ (a' : Act) (w' : World), Handed J gk a' w' → K a' w')
    (hi : i ≤ l.length) (hg : gk = l.length - i) (hf : l.length - i ≤ f' + 1) (hac : acc.length ≤ i)
    (HE : Hid (tks (f' + 1) (l.drop i) i acc = R)) (HO : Hid (W0.ownsRow w1.heap.size 33 6 u4 acc.length (acc.flatMap cT))) (HB : Hid (Below w1.heap.size w1 W0))
    (BF : Hid (Box W0 w.heap.size [.int .i64 0, .int .i64 0])) (KW : Hid (Below w.heap.size w W0))
    (hlt : i < l.length) (hz : i < (ba l).size) (hiI : (i : Int) < ((ba l).size : Int)) (hch : ch (l[i]'hlt) = (((ba l)[i].toNat : Nat) : Int))
    (h1 : ((((ba l)[i].toNat : Nat) : Int) == 32) = false) (h2 : ((((ba l)[i].toNat : Nat) : Int) == 9) = false) (h3 : ((((ba l)[i].toNat : Nat) : Int) == 10) = false) (hbk : blk (l[i]'hlt) = false) (h4 : ((((ba l)[i].toNat : Nat) : Int) == 47) = false) (hnr : isR ((l[i]'hlt) :: l.drop (i + 1)) = false) (hxl : ltr (ch (l[i]'hlt)) = false) (hxd : dgt (ch (l[i]'hlt)) = false) (hnl : ltr (((ba l)[i].toNat : Nat) : Int) = false) (hnd : dgt (((ba l)[i].toNat : Nat) : Int) = false) : Code.wp Tryd.prog (lB (bB (sL (sR (sR (sR (sR (Tryd.f9.body.getD .skip)))))))) (Exit.then K (Exit.inBlock 0 (Exit.then K1 Q'))) ⟨#[.string (ba l), undef, u2, .pointer (some ⟨w.heap.size, 0, none⟩), u4, .int .i64 (i : Int), u6, u7, u8, u9, u10, u11, u12, u13, u14, .string (ba l), .int .i64 ((ba l).size : Int), .bool false, undef, u19, u20, u21, u22, u23, u24, u25, u26, u27, u28, u29, u30, u31, u32, u33, u34, u35, u36, u37, u38, u39, u40, u41, u42, u43, u44, u45, u46, u47, u48, u49, u50, u51, u52, u53, u54, u55, u56, u57, u58, u59, u60, u61, u62, u63, u64, u65, u66, u67, u68, u69, u70, u71, u72, u73, u74, u75, u76, u77, u78, u79, u80, u81, u82, u83, u84, u85, u86, u87, u88, u89, u90, u91, u92, u93, u94, u95, u96, u97, u98, u99, u100, u101, u102, u103, u104, u105, u106, u107, u108, u109, u110, u111, u112, u113, u114, u115, u116, u117, u118, u119, u120, u121, u122, u123, u124, u125, u126, u127, u128, u129, u130, u131, u132, u133, u134, u135, u136, u137, u138, u139, u140, u141, u142, u143, u144, u145, u146, u147, u148, u149, u150, u151, u152, u153, u154, u155, u156, u157, u158, u159, u160, u161, u162, u163, u164, u165, u166, u167, u168, u169, u170, u171, u172, u173, u174, u175, u176, u177, u178, u179, u180, u181, u182, u183, u184, u185, undef, undef], []⟩ W0 := by
  have hd := List.drop_eq_getElem_cons hlt
  conv => arg 2; whnf
  have LAs := hideI (fun W => letter8_any (((ba l)[i].toNat : Nat) : Int) W)
  have DAs := hideI (fun W => digit8_any (((ba l)[i].toNat : Nat) : Int) W)
  rw [hnl] at LAs
  rw [hnd] at DAs
  have SA := hideI (fun W => sign8_any l i W hl6 (by omega))
  have hE := unhideI HE
  rw [hd, tks, if_neg (by rw [hbk]; decide), if_neg (by rw [hnr]; decide), ← hd] at hE
  have htk : tok1 (l.drop i) = sgn1 (l.drop i) := by
    rw [hd, tok1_cons, if_neg (by rw [hxl]; decide), if_neg (by rw [hxd]; decide)]
  rw [htk] at hE
  have hsg : (sgB (l.drop i) = [] ∧ sgn1 (l.drop i) = (2, tk0, 0)) ∨ (sgB (l.drop i) ≠ [] ∧ sgn1 (l.drop i) = (0, ⟨3, sgB (l.drop i), 0, 0, false, 0⟩, (sgB (l.drop i)).length) ∧ (sgB (l.drop i)).length ≤ 2 ∧ i + (sgB (l.drop i)).length ≤ l.length) := sgn_cases l i (by omega)
  generalize sgB (l.drop i) = P at *
  clear HE hd htk
  go_wp2_with fail
  refine (unhideI LAs _).mono ?_
  rintro e w2 ⟨rfl, hw⟩
  subst w2
  go_wp2_with fail
  refine (unhideI DAs _).mono ?_
  rintro e w2 ⟨rfl, hw⟩
  subst w2
  go_wp2_with fail
  refine (unhideI SA _).mono ?_
  rintro e w3 ⟨rfl, k3⟩
  have O3 := hideI (own_step (unhideI HO) k3)
  have K3 := hideI ((unhideI HB).trans (k3.mono (unhideI HB).size))
  replace BF := hideI ((unhideI BF).step k3)
  replace KW := hideI (bt (unhideI KW) k3)
  clear k3 SA LAs DAs
  rcases hsg with ⟨hp, hs⟩ | ⟨hp, hs, hp2, hp3⟩
  · subst hp
    rw [hs, if_neg (by decide)] at hE
    have hR : R = ([], 2, (i : Int)) := hE.symm
    subst hR
    have hbe : (ba ([] : List UInt8)).toList.isEmpty = true := by rw [ba_list]; rfl
    clear hs hE
    have y0 := (unhideI BF).2.1 0 _ rfl
    have y1 := (unhideI BF).2.1 1 _ rfl
    have y2 := (unhideI BF).2.2
    have y4 := (unhideI BF).1
    go_wp2_with fail
    exact unhideI HQ _ _ _ (bodyPost_ret (v := .tuple #[.slice none 0 0, .agg #[.int .i64 2, .int .i64 (i : Int)]]) (by simp [results, Tryd.results9, go_sem, y0, y1, y2, y4]) rfl ⟨_, rfl, Lies.nil _ _, (by repeat (first | exact unhideI KW | refine Below.setCell ?_ (by first | exact Nat.le_refl _ | (simp; done) | omega | (simp; omega)) _ | refine Below.alloc ?_ (by first | (simp; done) | omega | (simp; omega)) _))⟩)
  · rw [hs, if_pos rfl] at hE
    dsimp only at hE
    rw [List.drop_drop] at hE
    have HE2 := hideI hE
    have hbe : (ba P).toList.isEmpty = false := by rw [ba_list]; simpa using hp
    have hp1 : 1 ≤ P.length := by cases P with | nil => exact absurd rfl hp | cons a b => simp
    have hps : ((ba P).size : Int) = (P.length : Int) := by rw [ba_size]
    have s3 := (unhideI K3).size
    have HPS := hideI hps
    have HP := hideI (And.intro hp1 (And.intro hp2 hp3))
    have c3 : ((ba P).size : Int) ≤ 2 := by rw [ba_size]; omega
    have c4 : (i : Int) ≤ 65536 := by omega
    have hacc : acc.length ≤ 65536 := by omega
    clear hs hE hp hps hp1 hp2 hp3
    go_wp2_with (at_builtin; (refine wpList_append_own _ rfl (.tmp 176) (.tmp 180) 23 rfl w1.heap.size 33 i0 (.agg #[.int .i64 0, .string ⟨#[]⟩, .int .u64 0, .int .i64 0, .bool false, .int .i64 0]) 6 56 Tryd.underlying23 tq1 tq2 tq3 tq4 rfl (by decide) _ _ _ rfl ((unhideI O3).alloc _) ⟨_, 0, none⟩ 1 1 (cT ⟨3, P, 0, 0, false, (i : Int)⟩) rfl rfl (cells_c1 _ (cT ⟨3, P, 0, 0, false, (i : Int)⟩) _ _ (by simp)) (cT_one _) (by unfold maxLen; omega) (by omega) (by simp; omega) ?_; intro v5 w5 own5 grow5 _; have O5 := hideI (own_tok (P := acc) (p := ⟨3, P, 0, 0, false, (i : Int)⟩) own5 rfl rfl); have K5 := hideI (below_own ((unhideI K3).alloc (by omega) _) (by simp; omega) ((unhideI O3).alloc _) grow5); clear own5 grow5))
    obtain ⟨hp1, hp2, hp3⟩ := unhideI HP
    go_roundg (l.length - (i + P.length))
    case measure => omega
    case rel => exact ⟨i + P.length, f', acc ++ [⟨3, P, 0, 0, false, (i : Int)⟩], by omega, rfl, by rw [ba_size]; go_num, by omega, by simp; omega, O5, K5, HE2⟩
end Go.Proofs.YtonekpoblgigpaaDoor
