/-
  Writing: the document's answer: for (written by mkRsH.py).
-/
import Derived.Test.YtbakhengcgclmaaGreatDoorRsI
namespace Go.Proofs.YtbakhengcgclmaaGreatDoor
open Go.RowKit Go.Great
set_option linter.unusedSimpArgs false
set_option linter.unusedVariables false

set_option maxRecDepth 100000 in
set_option maxHeartbeats 800000 in
theorem rwr_7h (x : Sm) (IB : ∀ y ∈ x.body, RWr y) (v : Sv) (B n : Nat) (w : World) (hs : SvL B w x v) (hB : B ≤ w.heap.size) (hf : SmF x) (ho : OkS x) (hd : KdS x) (hl : (stT x n).length + n ≤ 1000000000) (hk : x.k = 7) (hh : x.has = true) :
    Calls Tryz.prog 34 #[.agg (smA x v), .int .i64 (n : Int)] w fun e w' => e = .returned (.string (ba (stT x n))) ∧ Below w.heap.size w w' := by
  obtain ⟨hc, o1, o2, o3, o4⟩ := ho.parts
  obtain ⟨d1, d2, d3, d4⟩ := hd.parts
  have hT : stT x n = [102, 111, 114, 32, 40] ++ (x.init.map clT).flatten ++ [59] ++ [32] ++ shE x.x 1 ++ [59] ++ (x.step.map (fun y => 32 :: clT y)).flatten ++ [41, 32] ++ blT x.body n := by rw [stT_eq, if_neg (by omega), if_neg (by omega), if_pos hk]; unfold forT; rw [hh]; simp
  rw [hT] at hl ⊢
  have hnl : x.nm.data.toList.length = x.nm.size := by simp
  have hyl := tyN_len x.b x.s
  have htl : (tyN x.b x.s).data.toList.length = (tyN x.b x.s).size := by simp
  try simp only [List.length_append, List.length_cons, List.length_nil, hnl, htl] at hl
  have S0 := hideI (Dn.begin hs hB hf)
  obtain ⟨c0, c1, c2, c3, c4⟩ := (unhideI S0).bx.own
  have HH := hideI (unhideI S0).bx.heap
  have hAs := hideI (smA_size x v)
  rw [hk] at c0
  rw [hh] at c4
  have HL := hideI hl
  obtain ⟨ab, cb, eb⟩ := hs.h3.slice
  obtain ⟨ai, ci, ei, hmi, -⟩ := hs.h1.at
  obtain ⟨ap, cp, ep, hmp, -⟩ := hs.h2.at
  unfold maxLen at hmi hmp
  have EB := hideI eb
  have EI := hideI ei
  have EP := hideI ep
  have H1 := hideI (o1 hk)
  have H2 := hideI (o2 hk)
  have G1 := hideI (isSE_at (d1 hk))
  have G2 := hideI (isSE_at (d2 hk))
  have CB := hideI (fun (W : World) (s : Dn w W B x v) => dn_B s _ eb IB (o3 (by omega)) (d3 (by omega)) n (by omega))
  have HK := hideI hk
  have HH2 := hideI hh
  have EE := hideI (show ba ([102, 111, 114, 32, 40] ++ (x.init.map clT).flatten ++ [59] ++ [32] ++ shE x.x 1 ++ [59] ++ (x.step.map (fun y => 32 :: clT y)).flatten) ++ ⟨#[41, 32]⟩ ++ ba (blT x.body n) = ba ([102, 111, 114, 32, 40] ++ (x.init.map clT).flatten ++ [59] ++ [32] ++ shE x.x 1 ++ [59] ++ (x.step.map (fun y => 32 :: clT y)).flatten ++ [41, 32] ++ blT x.body n) by rw [show (⟨#[41, 32]⟩ : ByteArray) = ba [41, 32] from rfl, bcat, bcat])
  rw [← unhideI EE]
  clear EE
  obtain ⟨l0, l1, l2, l3⟩ := (unhideI S0).bx.lists
  rw [unhideI EI] at l0
  have hx : OkE x.x := hc.hx (by simp [hasX, hk, hh])
  have CX := hideI (dn_X (unhideI S0) hx (by omega))
  obtain ⟨p0, p1, p2, p3, p4, p5⟩ := (unhideI S0).bx.exX
  clear hx eb ei ep IB
  clear hs hB hf ho hd hl hk hh hT hnl hyl htl hc o1 o2 o3 o4 d1 d2 d3 d4
  generalize hA : smA x v = A0 at *
  generalize hW : w.alloc (.cells A0 90) = W0 at *
  have hs0 : w.heap.size < W0.heap.size := (unhideI S0).bx.lt
  generalize hTB : ba (blT x.body n) = TB at *
  generalize hPF : ba ([102, 111, 114, 32, 40] ++ (x.init.map clT).flatten ++ [59] ++ [32] ++ shE x.x 1 ++ [59] ++ (x.step.map (fun y => 32 :: clT y)).flatten) = PF at *
  have HPF := hideI hPF
  clear hPF
  go_enter Tryz.func34, Tryz.ntmps34
  go_upto_region 2 with (refine wpList_boxTo rfl 90 (.tmp 0) rfl (some 2) rfl _ rfl A0 rfl ?_; rw [hW])
  go_wp2_with fail
  refine (unhideI CX).mono ?_
  rintro e w1 ⟨rfl, k1⟩
  have S1 := hideI ((unhideI S0).next k1)
  clear CX k1 S0 p0 p1 p2 p3 p4 p5 c0 c1 c2 c3 c4 l0 l1 l2 l3
  obtain ⟨c0, c1, c2, c3, c4⟩ := (unhideI S1).bx.own
  rw [unhideI HK] at c0
  rw [unhideI HH2] at c4
  obtain ⟨l0, l1, l2, l3⟩ := (unhideI S1).bx.lists
  rw [unhideI EI] at l0
  have hs1 : w.heap.size < w1.heap.size := (unhideI S1).bx.lt
  go_wp2_with fail
  go_loopg [7, 110] x.init.length (fun g u y wr => ∃ (i : Nat), i ≤ x.init.length ∧ g = x.init.length - i ∧ y = .int .i64 (i : Int) ∧ u = .string (ba ([102, 111, 114, 32, 40] ++ ((x.init.take i).map clT).flatten)) ∧ Hid (Dn w wr B x v))
  case atStart => exact ⟨0, Nat.zero_le _, rfl, rfl, rfl, S1⟩
  case round =>
    obtain ⟨i, hi, hg, rfl, rfl, HC⟩ := hrel
    generalize wr = W0 at *
    clear S1 l0 l1 l2 l3 c0 c1 c2 c3 c4
    by_cases hlt : i < x.init.length
    · have hxw := (unhideI HC).sv.h1
      rw [unhideI EI] at hxw
      obtain ⟨b1, o1, sv, rfl, hbw, hra, hsv, hf⟩ := hxw.read i hlt
      have HRA := hideI hra
      have ONE := hideI hsv.one
      have hiI : (i : Int) < (x.init.length : Int) := by omega
      have hi0 : (0 : Int) ≤ (i : Int) := by omega
      have hFL := flat_take_le clT x.init i hlt
      have hLL := unhideI HL
      have ka := below_a W0 (.cells (smA x.init[i] sv) 90)
      have S2 := hideI ((unhideI HC).next ka)
      have CA := hideI (rset_any x.init[i] sv B _ (hsv.step (ka.mono (unhideI HC).le)) (unhideI S2).le hf (unhideI H1 _ (List.getElem_mem hlt)) (unhideI G1 _ (List.getElem_mem hlt)) (by omega))
      have NB := hideI (SmB.new W0 x.init[i] sv).heap
      have hAs := hideI (smA_size x.init[i] sv)
      have hS1 : (ba ([102, 111, 114, 32, 40] ++ ((x.init.take i).map clT).flatten)).size = 5 + ((x.init.take i).map clT).flatten.length := by rw [ba_size, List.length_append]; rfl
      have hz1 : ¬ 9223372036854775807 < (ba ([102, 111, 114, 32, 40] ++ ((x.init.take i).map clT).flatten)).size + (ba (clT x.init[i])).size := by rw [hS1, ba_size]; omega
      have FT := hideI (show ba ([102, 111, 114, 32, 40] ++ ((x.init.take i).map clT).flatten) ++ ba (clT x.init[i]) = ba ([102, 111, 114, 32, 40] ++ ((x.init.take (i + 1)).map clT).flatten) by rw [bcat, flat_take clT x.init i hlt, List.append_assoc])
      clear hra hxw hsv hf ka hFL hLL hS1
      generalize x.init[i] = y at *
      generalize smA y sv = A at *
      generalize ba (clT y) = TC at *
      generalize ba ([102, 111, 114, 32, 40] ++ ((x.init.take i).map clT).flatten) = SA at *
      go_wp2_with (first | (refine wpList_load_mid rfl 90 (.tmp 112) rfl b1 (o1 + i * 21) rfl A.toList _ (unhideI HRA) Tryz.underlying90 rfl (by rw [Array.length_toList, unhideI hAs]; exact Tryz.sizeStat) ?_) | (refine wpList_store_row rfl 90 (.tmp 9) (.tmp 113) rfl W0.heap.size A rfl rfl _ _ (heapNew0 _ _) (by rw [unhideI hAs]; exact Tryz.sizeStat) (by rw [unhideI hAs]; rfl) (unhideI ONE) ?_; rw [row_alloc]) | (refine wpList_load_row rfl 90 (.tmp 9) rfl W0.heap.size rfl _ A _ _ (unhideI NB) Tryz.underlying90 rfl (by rw [unhideI hAs]; exact Tryz.sizeStat) ?_))
      refine (unhideI CA).mono ?_
      rintro e w8 ⟨rfl, k8⟩
      have S3 := hideI ((unhideI S2).next k8)
      clear CA k8 HC NB HRA ONE hAs S2
      go_wp2_with fail
      go_roundg (x.init.length - (i + 1))
      case measure => omega
      case rel => exact ⟨i + 1, by omega, rfl, by go_num, by rw [← unhideI FT], S3⟩
    · have hiI : ¬ (i : Int) < (x.init.length : Int) := by omega
      have hil : x.init.take i = x.init := List.take_of_length_le (by omega)
      rw [hil]
      obtain ⟨-, -, -, -, c4⟩ := (unhideI HC).bx.own
      rw [unhideI HH2] at c4
      obtain ⟨-, l1, -, -⟩ := (unhideI HC).bx.lists
      rw [unhideI EP] at l1
      have hs2 : w.heap.size < W0.heap.size := (unhideI HC).bx.lt
      have hLL := unhideI HL
      have hS1 : (ba ([102, 111, 114, 32, 40] ++ (x.init.map clT).flatten)).size = 5 + (x.init.map clT).flatten.length := by rw [ba_size, List.length_append]; rfl
      have hS2 : (ba (shE x.x 1)).size = (shE x.x 1).length := ba_size _
      have hz1 : ¬ 9223372036854775807 < (ba ([102, 111, 114, 32, 40] ++ (x.init.map clT).flatten)).size + 1 := by omega
      have hz2 : ¬ 9223372036854775807 < (ba ([102, 111, 114, 32, 40] ++ (x.init.map clT).flatten)).size + 1 + 1 := by omega
      have hz3 : ¬ 9223372036854775807 < (ba ([102, 111, 114, 32, 40] ++ (x.init.map clT).flatten)).size + 1 + 1 + (ba (shE x.x 1)).size := by omega
      have hz4 : ¬ 9223372036854775807 < (ba ([102, 111, 114, 32, 40] ++ (x.init.map clT).flatten)).size + 1 + 1 + (ba (shE x.x 1)).size + 1 := by omega
      have E2 := hideI (show ba ([102, 111, 114, 32, 40] ++ (x.init.map clT).flatten) ++ ⟨#[59]⟩ ++ ⟨#[32]⟩ ++ ba (shE x.x 1) ++ ⟨#[59]⟩ = ba ([102, 111, 114, 32, 40] ++ (x.init.map clT).flatten ++ [59] ++ [32] ++ shE x.x 1 ++ [59]) by rw [show (⟨#[59]⟩ : ByteArray) = ba [59] from rfl, show (⟨#[32]⟩ : ByteArray) = ba [32] from rfl, bcat, bcat, bcat, bcat])
      have hF2 : ([102, 111, 114, 32, 40] ++ (x.init.map clT).flatten ++ [59] ++ [32] ++ shE x.x 1 ++ [59]).length = (ba ([102, 111, 114, 32, 40] ++ (x.init.map clT).flatten ++ [59] ++ [32] ++ shE x.x 1 ++ [59])).size := (ba_size _).symm
      clear hS1 hil hLL hS2
      generalize ba ([102, 111, 114, 32, 40] ++ (x.init.map clT).flatten) = SA at *
      go_wp2_with fail
      go_loopg [7, 132] x.step.length (fun g u y wr => ∃ (i : Nat), i ≤ x.step.length ∧ g = x.step.length - i ∧ y = .int .i64 (i : Int) ∧ u = .string (ba ([102, 111, 114, 32, 40] ++ (x.init.map clT).flatten ++ [59] ++ [32] ++ shE x.x 1 ++ [59] ++ ((x.step.take i).map (fun y => 32 :: clT y)).flatten)) ∧ Hid (Dn w wr B x v))
      case atStart => exact ⟨0, Nat.zero_le _, rfl, rfl, by rw [show ((x.step.take 0).map (fun y => 32 :: clT y)).flatten = [] from rfl, List.append_nil, ← unhideI E2], HC⟩
      case round =>
        obtain ⟨j, hj, hg, rfl, rfl, HD⟩ := hrel
        generalize wr = V0 at *
        clear HC l1 c4 hs2 E2 hiI hi
        by_cases hjt : j < x.step.length
        · have hxw := (unhideI HD).sv.h2
          rw [unhideI EP] at hxw
          obtain ⟨b1, o1, sv, rfl, hbw, hra, hsv, hf⟩ := hxw.read j hjt
          have HRA := hideI hra
          have ONE := hideI hsv.one
          have hjI : (j : Int) < (x.step.length : Int) := by omega
          have hj0 : (0 : Int) ≤ (j : Int) := by omega
          have hFL : ((x.step.take j).map (fun y => 32 :: clT y)).flatten.length + ((clT x.step[j]).length + 1) ≤ (x.step.map (fun y => 32 :: clT y)).flatten.length := flat_take_le (fun y => 32 :: clT y) x.step j hjt
          have hLL := unhideI HL
          have ka := below_a V0 (.cells (smA x.step[j] sv) 90)
          have S2 := hideI ((unhideI HD).next ka)
          have CA := hideI (rset_any x.step[j] sv B _ (hsv.step (ka.mono (unhideI HD).le)) (unhideI S2).le hf (unhideI H2 _ (List.getElem_mem hjt)) (unhideI G2 _ (List.getElem_mem hjt)) (by omega))
          have NB := hideI (SmB.new V0 x.step[j] sv).heap
          have hAs := hideI (smA_size x.step[j] sv)
          have hS1 : (ba ([102, 111, 114, 32, 40] ++ (x.init.map clT).flatten ++ [59] ++ [32] ++ shE x.x 1 ++ [59] ++ ((x.step.take j).map (fun y => 32 :: clT y)).flatten)).size ≤ 1000000000 := by rw [ba_size]; simp only [List.length_append, List.length_cons, List.length_nil]; omega
          have hS2 : (ba (clT x.step[j])).size ≤ 1000000000 := by rw [ba_size]; omega
          have hz1 : ¬ 9223372036854775807 < (ba ([102, 111, 114, 32, 40] ++ (x.init.map clT).flatten ++ [59] ++ [32] ++ shE x.x 1 ++ [59] ++ ((x.step.take j).map (fun y => 32 :: clT y)).flatten)).size + 1 := by omega
          have hz2 : ¬ 9223372036854775807 < (ba ([102, 111, 114, 32, 40] ++ (x.init.map clT).flatten ++ [59] ++ [32] ++ shE x.x 1 ++ [59] ++ ((x.step.take j).map (fun y => 32 :: clT y)).flatten)).size + 1 + (ba (clT x.step[j])).size := by omega
          have FT := hideI (show ba ([102, 111, 114, 32, 40] ++ (x.init.map clT).flatten ++ [59] ++ [32] ++ shE x.x 1 ++ [59] ++ ((x.step.take j).map (fun y => 32 :: clT y)).flatten) ++ ⟨#[32]⟩ ++ ba (clT x.step[j]) = ba ([102, 111, 114, 32, 40] ++ (x.init.map clT).flatten ++ [59] ++ [32] ++ shE x.x 1 ++ [59] ++ ((x.step.take (j + 1)).map (fun y => 32 :: clT y)).flatten) by rw [show (⟨#[32]⟩ : ByteArray) = ba [32] from rfl, bcat, bcat, flat_take (fun y => 32 :: clT y) x.step j hjt]; simp only [List.append_assoc, List.cons_append, List.nil_append])
          clear hra hxw hsv hf ka hFL hLL hS1 hS2
          generalize x.step[j] = y at *
          generalize smA y sv = A at *
          generalize ba (clT y) = TC at *
          generalize ba ([102, 111, 114, 32, 40] ++ (x.init.map clT).flatten ++ [59] ++ [32] ++ shE x.x 1 ++ [59] ++ ((x.step.take j).map (fun y => 32 :: clT y)).flatten) = SJ at *
          go_wp2_with (first | (refine wpList_load_mid rfl 90 (.tmp 134) rfl b1 (o1 + j * 21) rfl A.toList _ (unhideI HRA) Tryz.underlying90 rfl (by rw [Array.length_toList, unhideI hAs]; exact Tryz.sizeStat) ?_) | (refine wpList_store_row rfl 90 (.tmp 11) (.tmp 135) rfl V0.heap.size A rfl rfl _ _ (heapNew0 _ _) (by rw [unhideI hAs]; exact Tryz.sizeStat) (by rw [unhideI hAs]; rfl) (unhideI ONE) ?_; rw [row_alloc]) | (refine wpList_load_row rfl 90 (.tmp 11) rfl V0.heap.size rfl _ A _ _ (unhideI NB) Tryz.underlying90 rfl (by rw [unhideI hAs]; exact Tryz.sizeStat) ?_))
          refine (unhideI CA).mono ?_
          rintro e w8 ⟨rfl, k8⟩
          have S3 := hideI ((unhideI S2).next k8)
          clear CA k8 HD NB HRA ONE hAs S2
          go_wp2_with fail
          go_roundg (x.step.length - (j + 1))
          case measure => omega
          case rel => exact ⟨j + 1, by omega, rfl, by go_num, by rw [← unhideI FT], S3⟩
        · have hjI : ¬ (j : Int) < (x.step.length : Int) := by omega
          have hjl : x.step.take j = x.step := List.take_of_length_le (by omega)
          rw [hjl]
          have hLL := unhideI HL
          obtain ⟨-, -, l2, -⟩ := (unhideI HD).bx.lists
          rw [unhideI EB] at l2
          have hs3 : w.heap.size < V0.heap.size := (unhideI HD).bx.lt
          have hTB2 : TB.size ≤ 1000000000 := by rw [← hTB, ba_size]; omega
          have hS1 : PF.size ≤ 1000000000 := by rw [← unhideI HPF, ba_size]; simp only [List.length_append, List.length_cons, List.length_nil]; omega
          have hz1 : ¬ 9223372036854775807 < PF.size + 2 := by omega
          have hz2 : ¬ 9223372036854775807 < PF.size + 2 + TB.size := by omega
          rw [unhideI HPF]
          clear hS1 hjl hLL hTB2 hTB
          have CC := hideI (unhideI CB _ (unhideI HD))
          go_wp2_with fail
          refine (unhideI CC).mono ?_
          rintro e w9 ⟨rfl, k9⟩
          have S9 := hideI ((unhideI HD).next k9)
          clear CC k9
          go_wp2_with fail
          go_ret
          exact ⟨rfl, (unhideI S9).d⟩
set_option maxRecDepth 100000 in
set_option maxHeartbeats 800000 in
theorem rwr_7n (x : Sm) (IB : ∀ y ∈ x.body, RWr y) (v : Sv) (B n : Nat) (w : World) (hs : SvL B w x v) (hB : B ≤ w.heap.size) (hf : SmF x) (ho : OkS x) (hd : KdS x) (hl : (stT x n).length + n ≤ 1000000000) (hk : x.k = 7) (hh : x.has = false) :
    Calls Tryz.prog 34 #[.agg (smA x v), .int .i64 (n : Int)] w fun e w' => e = .returned (.string (ba (stT x n))) ∧ Below w.heap.size w w' := by
  obtain ⟨hc, o1, o2, o3, o4⟩ := ho.parts
  obtain ⟨d1, d2, d3, d4⟩ := hd.parts
  have hT : stT x n = [102, 111, 114, 32, 40] ++ (x.init.map clT).flatten ++ [59] ++ [59] ++ (x.step.map (fun y => 32 :: clT y)).flatten ++ [41, 32] ++ blT x.body n := by rw [stT_eq, if_neg (by omega), if_neg (by omega), if_pos hk]; unfold forT; rw [hh]; simp
  rw [hT] at hl ⊢
  have hnl : x.nm.data.toList.length = x.nm.size := by simp
  have hyl := tyN_len x.b x.s
  have htl : (tyN x.b x.s).data.toList.length = (tyN x.b x.s).size := by simp
  try simp only [List.length_append, List.length_cons, List.length_nil, hnl, htl] at hl
  have S0 := hideI (Dn.begin hs hB hf)
  obtain ⟨c0, c1, c2, c3, c4⟩ := (unhideI S0).bx.own
  have HH := hideI (unhideI S0).bx.heap
  have hAs := hideI (smA_size x v)
  rw [hk] at c0
  rw [hh] at c4
  have HL := hideI hl
  obtain ⟨ab, cb, eb⟩ := hs.h3.slice
  obtain ⟨ai, ci, ei, hmi, -⟩ := hs.h1.at
  obtain ⟨ap, cp, ep, hmp, -⟩ := hs.h2.at
  unfold maxLen at hmi hmp
  have EB := hideI eb
  have EI := hideI ei
  have EP := hideI ep
  have H1 := hideI (o1 hk)
  have H2 := hideI (o2 hk)
  have G1 := hideI (isSE_at (d1 hk))
  have G2 := hideI (isSE_at (d2 hk))
  have CB := hideI (fun (W : World) (s : Dn w W B x v) => dn_B s _ eb IB (o3 (by omega)) (d3 (by omega)) n (by omega))
  have HK := hideI hk
  have HH2 := hideI hh
  have EE := hideI (show ba ([102, 111, 114, 32, 40] ++ (x.init.map clT).flatten ++ [59] ++ [59] ++ (x.step.map (fun y => 32 :: clT y)).flatten) ++ ⟨#[41, 32]⟩ ++ ba (blT x.body n) = ba ([102, 111, 114, 32, 40] ++ (x.init.map clT).flatten ++ [59] ++ [59] ++ (x.step.map (fun y => 32 :: clT y)).flatten ++ [41, 32] ++ blT x.body n) by rw [show (⟨#[41, 32]⟩ : ByteArray) = ba [41, 32] from rfl, bcat, bcat])
  rw [← unhideI EE]
  clear EE
  obtain ⟨l0, l1, l2, l3⟩ := (unhideI S0).bx.lists
  rw [unhideI EI] at l0
  clear eb ei ep IB
  clear hs hB hf ho hd hl hk hh hT hnl hyl htl hc o1 o2 o3 o4 d1 d2 d3 d4
  generalize hA : smA x v = A0 at *
  generalize hW : w.alloc (.cells A0 90) = W0 at *
  have hs0 : w.heap.size < W0.heap.size := (unhideI S0).bx.lt
  generalize hTB : ba (blT x.body n) = TB at *
  generalize hPF : ba ([102, 111, 114, 32, 40] ++ (x.init.map clT).flatten ++ [59] ++ [59] ++ (x.step.map (fun y => 32 :: clT y)).flatten) = PF at *
  have HPF := hideI hPF
  clear hPF
  go_enter Tryz.func34, Tryz.ntmps34
  go_upto_region 2 with (refine wpList_boxTo rfl 90 (.tmp 0) rfl (some 2) rfl _ rfl A0 rfl ?_; rw [hW])
  go_upto_region 4 with fail
  go_wp2_with fail
  go_loopg [7, 110] x.init.length (fun g u y wr => ∃ (i : Nat), i ≤ x.init.length ∧ g = x.init.length - i ∧ y = .int .i64 (i : Int) ∧ u = .string (ba ([102, 111, 114, 32, 40] ++ ((x.init.take i).map clT).flatten)) ∧ Hid (Dn w wr B x v))
  case atStart => exact ⟨0, Nat.zero_le _, rfl, rfl, rfl, S0⟩
  case round =>
    obtain ⟨i, hi, hg, rfl, rfl, HC⟩ := hrel
    generalize wr = W0 at *
    clear S0 l0 l1 l2 l3 c0 c1 c2 c3 c4
    by_cases hlt : i < x.init.length
    · have hxw := (unhideI HC).sv.h1
      rw [unhideI EI] at hxw
      obtain ⟨b1, o1, sv, rfl, hbw, hra, hsv, hf⟩ := hxw.read i hlt
      have HRA := hideI hra
      have ONE := hideI hsv.one
      have hiI : (i : Int) < (x.init.length : Int) := by omega
      have hi0 : (0 : Int) ≤ (i : Int) := by omega
      have hFL := flat_take_le clT x.init i hlt
      have hLL := unhideI HL
      have ka := below_a W0 (.cells (smA x.init[i] sv) 90)
      have S2 := hideI ((unhideI HC).next ka)
      have CA := hideI (rset_any x.init[i] sv B _ (hsv.step (ka.mono (unhideI HC).le)) (unhideI S2).le hf (unhideI H1 _ (List.getElem_mem hlt)) (unhideI G1 _ (List.getElem_mem hlt)) (by omega))
      have NB := hideI (SmB.new W0 x.init[i] sv).heap
      have hAs := hideI (smA_size x.init[i] sv)
      have hS1 : (ba ([102, 111, 114, 32, 40] ++ ((x.init.take i).map clT).flatten)).size = 5 + ((x.init.take i).map clT).flatten.length := by rw [ba_size, List.length_append]; rfl
      have hz1 : ¬ 9223372036854775807 < (ba ([102, 111, 114, 32, 40] ++ ((x.init.take i).map clT).flatten)).size + (ba (clT x.init[i])).size := by rw [hS1, ba_size]; omega
      have FT := hideI (show ba ([102, 111, 114, 32, 40] ++ ((x.init.take i).map clT).flatten) ++ ba (clT x.init[i]) = ba ([102, 111, 114, 32, 40] ++ ((x.init.take (i + 1)).map clT).flatten) by rw [bcat, flat_take clT x.init i hlt, List.append_assoc])
      clear hra hxw hsv hf ka hFL hLL hS1
      generalize x.init[i] = y at *
      generalize smA y sv = A at *
      generalize ba (clT y) = TC at *
      generalize ba ([102, 111, 114, 32, 40] ++ ((x.init.take i).map clT).flatten) = SA at *
      go_wp2_with (first | (refine wpList_load_mid rfl 90 (.tmp 112) rfl b1 (o1 + i * 21) rfl A.toList _ (unhideI HRA) Tryz.underlying90 rfl (by rw [Array.length_toList, unhideI hAs]; exact Tryz.sizeStat) ?_) | (refine wpList_store_row rfl 90 (.tmp 9) (.tmp 113) rfl W0.heap.size A rfl rfl _ _ (heapNew0 _ _) (by rw [unhideI hAs]; exact Tryz.sizeStat) (by rw [unhideI hAs]; rfl) (unhideI ONE) ?_; rw [row_alloc]) | (refine wpList_load_row rfl 90 (.tmp 9) rfl W0.heap.size rfl _ A _ _ (unhideI NB) Tryz.underlying90 rfl (by rw [unhideI hAs]; exact Tryz.sizeStat) ?_))
      refine (unhideI CA).mono ?_
      rintro e w8 ⟨rfl, k8⟩
      have S3 := hideI ((unhideI S2).next k8)
      clear CA k8 HC NB HRA ONE hAs S2
      go_wp2_with fail
      go_roundg (x.init.length - (i + 1))
      case measure => omega
      case rel => exact ⟨i + 1, by omega, rfl, by go_num, by rw [← unhideI FT], S3⟩
    · have hiI : ¬ (i : Int) < (x.init.length : Int) := by omega
      have hil : x.init.take i = x.init := List.take_of_length_le (by omega)
      rw [hil]
      obtain ⟨-, -, -, -, c4⟩ := (unhideI HC).bx.own
      rw [unhideI HH2] at c4
      obtain ⟨-, l1, -, -⟩ := (unhideI HC).bx.lists
      rw [unhideI EP] at l1
      have hs2 : w.heap.size < W0.heap.size := (unhideI HC).bx.lt
      have hLL := unhideI HL
      have hS1 : (ba ([102, 111, 114, 32, 40] ++ (x.init.map clT).flatten)).size = 5 + (x.init.map clT).flatten.length := by rw [ba_size, List.length_append]; rfl
      have hz1 : ¬ 9223372036854775807 < (ba ([102, 111, 114, 32, 40] ++ (x.init.map clT).flatten)).size + 1 := by omega
      have hz2 : ¬ 9223372036854775807 < (ba ([102, 111, 114, 32, 40] ++ (x.init.map clT).flatten)).size + 1 + 1 := by omega
      have E2 := hideI (show ba ([102, 111, 114, 32, 40] ++ (x.init.map clT).flatten) ++ ⟨#[59]⟩ ++ ⟨#[59]⟩ = ba ([102, 111, 114, 32, 40] ++ (x.init.map clT).flatten ++ [59] ++ [59]) by rw [show (⟨#[59]⟩ : ByteArray) = ba [59] from rfl, bcat, bcat])
      have hF2 : ([102, 111, 114, 32, 40] ++ (x.init.map clT).flatten ++ [59] ++ [59]).length = (ba ([102, 111, 114, 32, 40] ++ (x.init.map clT).flatten ++ [59] ++ [59])).size := (ba_size _).symm
      clear hS1 hil hLL
      generalize ba ([102, 111, 114, 32, 40] ++ (x.init.map clT).flatten) = SA at *
      go_wp2_with fail
      go_loopg [7, 132] x.step.length (fun g u y wr => ∃ (i : Nat), i ≤ x.step.length ∧ g = x.step.length - i ∧ y = .int .i64 (i : Int) ∧ u = .string (ba ([102, 111, 114, 32, 40] ++ (x.init.map clT).flatten ++ [59] ++ [59] ++ ((x.step.take i).map (fun y => 32 :: clT y)).flatten)) ∧ Hid (Dn w wr B x v))
      case atStart => exact ⟨0, Nat.zero_le _, rfl, rfl, by rw [show ((x.step.take 0).map (fun y => 32 :: clT y)).flatten = [] from rfl, List.append_nil, ← unhideI E2], HC⟩
      case round =>
        obtain ⟨j, hj, hg, rfl, rfl, HD⟩ := hrel
        generalize wr = V0 at *
        clear HC l1 c4 hs2 E2 hiI hi
        by_cases hjt : j < x.step.length
        · have hxw := (unhideI HD).sv.h2
          rw [unhideI EP] at hxw
          obtain ⟨b1, o1, sv, rfl, hbw, hra, hsv, hf⟩ := hxw.read j hjt
          have HRA := hideI hra
          have ONE := hideI hsv.one
          have hjI : (j : Int) < (x.step.length : Int) := by omega
          have hj0 : (0 : Int) ≤ (j : Int) := by omega
          have hFL : ((x.step.take j).map (fun y => 32 :: clT y)).flatten.length + ((clT x.step[j]).length + 1) ≤ (x.step.map (fun y => 32 :: clT y)).flatten.length := flat_take_le (fun y => 32 :: clT y) x.step j hjt
          have hLL := unhideI HL
          have ka := below_a V0 (.cells (smA x.step[j] sv) 90)
          have S2 := hideI ((unhideI HD).next ka)
          have CA := hideI (rset_any x.step[j] sv B _ (hsv.step (ka.mono (unhideI HD).le)) (unhideI S2).le hf (unhideI H2 _ (List.getElem_mem hjt)) (unhideI G2 _ (List.getElem_mem hjt)) (by omega))
          have NB := hideI (SmB.new V0 x.step[j] sv).heap
          have hAs := hideI (smA_size x.step[j] sv)
          have hS1 : (ba ([102, 111, 114, 32, 40] ++ (x.init.map clT).flatten ++ [59] ++ [59] ++ ((x.step.take j).map (fun y => 32 :: clT y)).flatten)).size ≤ 1000000000 := by rw [ba_size]; simp only [List.length_append, List.length_cons, List.length_nil]; omega
          have hS2 : (ba (clT x.step[j])).size ≤ 1000000000 := by rw [ba_size]; omega
          have hz1 : ¬ 9223372036854775807 < (ba ([102, 111, 114, 32, 40] ++ (x.init.map clT).flatten ++ [59] ++ [59] ++ ((x.step.take j).map (fun y => 32 :: clT y)).flatten)).size + 1 := by omega
          have hz2 : ¬ 9223372036854775807 < (ba ([102, 111, 114, 32, 40] ++ (x.init.map clT).flatten ++ [59] ++ [59] ++ ((x.step.take j).map (fun y => 32 :: clT y)).flatten)).size + 1 + (ba (clT x.step[j])).size := by omega
          have FT := hideI (show ba ([102, 111, 114, 32, 40] ++ (x.init.map clT).flatten ++ [59] ++ [59] ++ ((x.step.take j).map (fun y => 32 :: clT y)).flatten) ++ ⟨#[32]⟩ ++ ba (clT x.step[j]) = ba ([102, 111, 114, 32, 40] ++ (x.init.map clT).flatten ++ [59] ++ [59] ++ ((x.step.take (j + 1)).map (fun y => 32 :: clT y)).flatten) by rw [show (⟨#[32]⟩ : ByteArray) = ba [32] from rfl, bcat, bcat, flat_take (fun y => 32 :: clT y) x.step j hjt]; simp only [List.append_assoc, List.cons_append, List.nil_append])
          clear hra hxw hsv hf ka hFL hLL hS1 hS2
          generalize x.step[j] = y at *
          generalize smA y sv = A at *
          generalize ba (clT y) = TC at *
          generalize ba ([102, 111, 114, 32, 40] ++ (x.init.map clT).flatten ++ [59] ++ [59] ++ ((x.step.take j).map (fun y => 32 :: clT y)).flatten) = SJ at *
          go_wp2_with (first | (refine wpList_load_mid rfl 90 (.tmp 134) rfl b1 (o1 + j * 21) rfl A.toList _ (unhideI HRA) Tryz.underlying90 rfl (by rw [Array.length_toList, unhideI hAs]; exact Tryz.sizeStat) ?_) | (refine wpList_store_row rfl 90 (.tmp 11) (.tmp 135) rfl V0.heap.size A rfl rfl _ _ (heapNew0 _ _) (by rw [unhideI hAs]; exact Tryz.sizeStat) (by rw [unhideI hAs]; rfl) (unhideI ONE) ?_; rw [row_alloc]) | (refine wpList_load_row rfl 90 (.tmp 11) rfl V0.heap.size rfl _ A _ _ (unhideI NB) Tryz.underlying90 rfl (by rw [unhideI hAs]; exact Tryz.sizeStat) ?_))
          refine (unhideI CA).mono ?_
          rintro e w8 ⟨rfl, k8⟩
          have S3 := hideI ((unhideI S2).next k8)
          clear CA k8 HD NB HRA ONE hAs S2
          go_wp2_with fail
          go_roundg (x.step.length - (j + 1))
          case measure => omega
          case rel => exact ⟨j + 1, by omega, rfl, by go_num, by rw [← unhideI FT], S3⟩
        · have hjI : ¬ (j : Int) < (x.step.length : Int) := by omega
          have hjl : x.step.take j = x.step := List.take_of_length_le (by omega)
          rw [hjl]
          have hLL := unhideI HL
          obtain ⟨-, -, l2, -⟩ := (unhideI HD).bx.lists
          rw [unhideI EB] at l2
          have hs3 : w.heap.size < V0.heap.size := (unhideI HD).bx.lt
          have hTB2 : TB.size ≤ 1000000000 := by rw [← hTB, ba_size]; omega
          have hS1 : PF.size ≤ 1000000000 := by rw [← unhideI HPF, ba_size]; simp only [List.length_append, List.length_cons, List.length_nil]; omega
          have hz1 : ¬ 9223372036854775807 < PF.size + 2 := by omega
          have hz2 : ¬ 9223372036854775807 < PF.size + 2 + TB.size := by omega
          rw [unhideI HPF]
          clear hS1 hjl hLL hTB2 hTB
          have CC := hideI (unhideI CB _ (unhideI HD))
          go_wp2_with fail
          refine (unhideI CC).mono ?_
          rintro e w9 ⟨rfl, k9⟩
          have S9 := hideI ((unhideI HD).next k9)
          clear CC k9
          go_wp2_with fail
          go_ret
          exact ⟨rfl, (unhideI S9).d⟩
end Go.Proofs.YtbakhengcgclmaaGreatDoor
