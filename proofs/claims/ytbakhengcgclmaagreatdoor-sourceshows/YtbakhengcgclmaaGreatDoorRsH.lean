/-
  Writing: the document's answer: statements with nothing in them (written by mkRsH.py).
-/
import Derived.Test.YtbakhengcgclmaaGreatDoorRsFz
import Derived.Deep.DeepCutAuto
namespace Go.Proofs.YtbakhengcgclmaaGreatDoor
open Go.RowKit Go.Great
set_option linter.unusedSimpArgs false
set_option linter.unusedVariables false

set_option maxRecDepth 100000 in
set_option maxHeartbeats 800000 in
theorem rwr_2h (x : Sm) (v : Sv) (B n : Nat) (w : World) (hs : SvL B w x v) (hB : B ≤ w.heap.size) (hf : SmF x) (ho : OkS x) (hd : KdS x) (hl : (stT x n).length + n ≤ 1000000000) (hk : x.k = 2) (hh : x.has = true) :
    Calls Tryz.prog 34 #[.agg (smA x v), .int .i64 (n : Int)] w fun e w' => e = .returned (.string (ba (stT x n))) ∧ Below w.heap.size w w' := by
  obtain ⟨hc, o1, o2, o3, o4⟩ := ho.parts
  obtain ⟨d1, d2, d3, d4⟩ := hd.parts
  have hT : stT x n = (tyN x.b x.s).data.toList ++ [32] ++ x.nm.data.toList ++ ([32, 61, 32] ++ shE x.x 1) ++ [59] := by rw [stT_eq, if_neg (by omega), if_neg (by omega), if_neg (by omega), if_neg (by omega)]; unfold clT; rw [if_pos hk]; unfold perT; rw [hh]; simp
  rw [hT] at hl ⊢
  have hnl : x.nm.data.toList.length = x.nm.size := by simp
  have hyl := tyN_len x.b x.s
  have htl : (tyN x.b x.s).data.toList.length = (tyN x.b x.s).size := by simp
  try simp only [List.length_append, List.length_cons, List.length_nil, hnl, htl] at hl
  have S0 := hideI (Dn.begin hs hB hf)
  obtain ⟨c0, c1, c2, c3, c4⟩ := (unhideI S0).bx.own
  have HH := hideI (unhideI S0).bx.heap
  have hAs := hideI (smA_size x v)
  rw [hk] at c0
  rw [hh] at c4
  have NA := hideI (fun (V : World) => rtname_any x.b x.s V)
  have EC := hideI (show tyN x.b x.s ++ ⟨#[32]⟩ ++ x.nm ++ (⟨#[32, 61, 32]⟩ ++ ba (shE x.x 1)) ++ ⟨#[59]⟩ = ba ((tyN x.b x.s).data.toList ++ [32] ++ x.nm.data.toList ++ ([32, 61, 32] ++ shE x.x 1) ++ [59]) by simp only [← bcat, ba_of]; rfl)
  rw [← unhideI EC]
  have hz1 : ¬ 9223372036854775807 < (tyN x.b x.s).size + 1 := by omega
  have hz2 : ¬ 9223372036854775807 < (tyN x.b x.s).size + 1 + x.nm.size := by omega
  have hx : OkE x.x := hc.hx (by simp [hasX, hk, hh])
  have CX := hideI (dn_X (unhideI S0) hx (by omega))
  obtain ⟨p0, p1, p2, p3, p4, p5⟩ := (unhideI S0).bx.exX
  have hz0 : ¬ 9223372036854775807 < 3 + (ba (shE x.x 1)).size := by rw [ba_size]; omega
  have hz3 : ¬ 9223372036854775807 < (tyN x.b x.s).size + 1 + x.nm.size + (3 + (ba (shE x.x 1)).size) := by rw [ba_size]; omega
  have hz4 : ¬ 9223372036854775807 < (tyN x.b x.s).size + 1 + x.nm.size + (3 + (ba (shE x.x 1)).size) + 1 := by rw [ba_size]; omega
  have HK := hideI hk
  have HH2 := hideI hh
  clear EC hs hB hf ho hd hl hk hh hT hnl hyl htl hc hx o1 o2 o3 o4 d1 d2 d3 d4
  generalize hA : smA x v = A at *
  generalize hW : w.alloc (.cells A 90) = W0 at *
  have hs0 : w.heap.size < W0.heap.size := (unhideI S0).bx.lt
  generalize ba (shE x.x 1) = TX at *
  generalize tyN x.b x.s = ty at *
  go_enter Tryz.func34, Tryz.ntmps34
  go_upto_region 2 with (refine wpList_boxTo rfl 90 (.tmp 0) rfl (some 2) rfl _ rfl A rfl ?_; rw [hW])
  go_wp2_with fail
  refine (unhideI CX).mono ?_
  rintro e w1 ⟨rfl, k1⟩
  have S1 := hideI ((unhideI S0).next k1)
  clear CX k1 S0 p0 p1 p2 p3 p4 p5 c0 c1 c2 c3 c4
  obtain ⟨c0, c1, c2, c3, c4⟩ := (unhideI S1).bx.own
  rw [unhideI HK] at c0
  rw [unhideI HH2] at c4
  have hs1 : w.heap.size < w1.heap.size := (unhideI S1).bx.lt
  go_wp2_with fail
  refine wp_region_later (by kernel_rfl) (by kernel_rfl) ?_
  intro L hne lt hlc hlf hlm
  repeat (go_big_quiet_step ((go_at_call 13; exact later_call hlm (unhideI NA _))))
  refine wpQuiet_nil ?_
  intro wq kq
  clear hlm hlf hlc lt hne L
  obtain ⟨hqc, hqf⟩ := below_cells kq
  have S2 := hideI ((unhideI S1).next kq)
  clear hqc hqf c0 c1 c2 c3 c4
  go_wp2_with fail
  go_ret
  exact ⟨rfl, (unhideI S2).d⟩
set_option maxRecDepth 100000 in
set_option maxHeartbeats 800000 in
theorem rwr_2n (x : Sm) (v : Sv) (B n : Nat) (w : World) (hs : SvL B w x v) (hB : B ≤ w.heap.size) (hf : SmF x) (ho : OkS x) (hd : KdS x) (hl : (stT x n).length + n ≤ 1000000000) (hk : x.k = 2) (hh : x.has = false) :
    Calls Tryz.prog 34 #[.agg (smA x v), .int .i64 (n : Int)] w fun e w' => e = .returned (.string (ba (stT x n))) ∧ Below w.heap.size w w' := by
  obtain ⟨hc, o1, o2, o3, o4⟩ := ho.parts
  obtain ⟨d1, d2, d3, d4⟩ := hd.parts
  have hT : stT x n = (tyN x.b x.s).data.toList ++ [32] ++ x.nm.data.toList ++ [] ++ [59] := by rw [stT_eq, if_neg (by omega), if_neg (by omega), if_neg (by omega), if_neg (by omega)]; unfold clT; rw [if_pos hk]; unfold perT; rw [hh]; simp
  rw [hT] at hl ⊢
  have hnl : x.nm.data.toList.length = x.nm.size := by simp
  have hyl := tyN_len x.b x.s
  have htl : (tyN x.b x.s).data.toList.length = (tyN x.b x.s).size := by simp
  try simp only [List.length_append, List.length_cons, List.length_nil, hnl, htl] at hl
  have S0 := hideI (Dn.begin hs hB hf)
  obtain ⟨c0, c1, c2, c3, c4⟩ := (unhideI S0).bx.own
  have HH := hideI (unhideI S0).bx.heap
  have hAs := hideI (smA_size x v)
  rw [hk] at c0
  rw [hh] at c4
  have NA := hideI (fun (V : World) => rtname_any x.b x.s V)
  have EC := hideI (show tyN x.b x.s ++ ⟨#[32]⟩ ++ x.nm ++ ⟨#[]⟩ ++ ⟨#[59]⟩ = ba ((tyN x.b x.s).data.toList ++ [32] ++ x.nm.data.toList ++ [] ++ [59]) by simp only [← bcat, ba_of]; rfl)
  rw [← unhideI EC]
  have hz1 : ¬ 9223372036854775807 < (tyN x.b x.s).size + 1 := by omega
  have hz2 : ¬ 9223372036854775807 < (tyN x.b x.s).size + 1 + x.nm.size := by omega
  have hz3 : ¬ 9223372036854775807 < (tyN x.b x.s).size + 1 + x.nm.size + 0 := by omega
  have hz4 : ¬ 9223372036854775807 < (tyN x.b x.s).size + 1 + x.nm.size + 1 := by omega
  have hz5 : ¬ 9223372036854775807 < (tyN x.b x.s).size + 1 + x.nm.size + 0 + 1 := by omega
  clear EC hs hB hf ho hd hl hk hh hT hnl hyl htl hc o1 o2 o3 o4 d1 d2 d3 d4
  generalize hA : smA x v = A at *
  generalize hW : w.alloc (.cells A 90) = W0 at *
  have hs0 : w.heap.size < W0.heap.size := (unhideI S0).bx.lt
  generalize tyN x.b x.s = ty at *
  go_enter Tryz.func34, Tryz.ntmps34
  go_upto_region 2 with (refine wpList_boxTo rfl 90 (.tmp 0) rfl (some 2) rfl _ rfl A rfl ?_; rw [hW])
  go_upto_region 4 with fail
  go_wp2_with fail
  refine wp_region_later (by kernel_rfl) (by kernel_rfl) ?_
  intro L hne lt hlc hlf hlm
  repeat (go_big_quiet_step ((go_at_call 13; exact later_call hlm (unhideI NA _))))
  refine wpQuiet_nil ?_
  intro wq kq
  clear hlm hlf hlc lt hne L
  obtain ⟨hqc, hqf⟩ := below_cells kq
  have S2 := hideI ((unhideI S0).next kq)
  clear hqc hqf c0 c1 c2 c3 c4
  go_wp2_with fail
  go_ret
  exact ⟨rfl, (unhideI S2).d⟩
set_option maxRecDepth 100000 in
set_option maxHeartbeats 800000 in
theorem rwr_3h (x : Sm) (v : Sv) (B n : Nat) (w : World) (hs : SvL B w x v) (hB : B ≤ w.heap.size) (hf : SmF x) (ho : OkS x) (hd : KdS x) (hl : (stT x n).length + n ≤ 1000000000) (hk : x.k = 3) (hh : x.has = true) :
    Calls Tryz.prog 34 #[.agg (smA x v), .int .i64 (n : Int)] w fun e w' => e = .returned (.string (ba (stT x n))) ∧ Below w.heap.size w w' := by
  obtain ⟨hc, o1, o2, o3, o4⟩ := ho.parts
  obtain ⟨d1, d2, d3, d4⟩ := hd.parts
  have hT : stT x n = clT x ++ [59] := by rw [stT_eq, if_neg (by omega), if_neg (by omega), if_neg (by omega), if_neg (by omega)]
  rw [hT] at hl ⊢
  have hnl : x.nm.data.toList.length = x.nm.size := by simp
  have hyl := tyN_len x.b x.s
  have htl : (tyN x.b x.s).data.toList.length = (tyN x.b x.s).size := by simp
  try simp only [List.length_append, List.length_cons, List.length_nil, hnl, htl] at hl
  have S0 := hideI (Dn.begin hs hB hf)
  obtain ⟨c0, c1, c2, c3, c4⟩ := (unhideI S0).bx.own
  have HH := hideI (unhideI S0).bx.heap
  have hAs := hideI (smA_size x v)
  rw [hk] at c0
  rw [hh] at c4
  have CS := hideI (rset_any x v B _ (unhideI S0).sv (unhideI S0).le hf hc (by omega) (by omega))
  have hz1 : ¬ 9223372036854775807 < (ba (clT x)).size + 1 := by rw [ba_size]; omega
  have EC := hideI (show ba (clT x) ++ ⟨#[59]⟩ = ba (clT x ++ [59]) by rw [← bcat]; rfl)
  rw [← unhideI EC]
  clear EC hs hB hf ho hd hl hk hh hT hnl hyl htl hc o1 o2 o3 o4 d1 d2 d3 d4
  generalize hA : smA x v = A at *
  generalize hW : w.alloc (.cells A 90) = W0 at *
  have hs0 : w.heap.size < W0.heap.size := (unhideI S0).bx.lt
  generalize ba (clT x) = TC at *
  go_enter Tryz.func34, Tryz.ntmps34
  go_upto_region 2 with (refine wpList_boxTo rfl 90 (.tmp 0) rfl (some 2) rfl _ rfl A rfl ?_; rw [hW])
  go_upto_region 4 with fail
  go_wp2_with (refine wpList_load_row rfl 90 (.tmp 2) rfl w.heap.size rfl _ A _ _ (unhideI HH) Tryz.underlying90 rfl (by rw [unhideI hAs]; exact Tryz.sizeStat) ?_)
  refine (unhideI CS).mono ?_
  rintro e w1 ⟨rfl, k1⟩
  have S1 := hideI ((unhideI S0).next k1)
  clear CS k1 S0 c0 c1 c2 c3 c4
  go_wp2_with fail
  go_ret
  exact ⟨rfl, (unhideI S1).d⟩
set_option maxRecDepth 100000 in
set_option maxHeartbeats 800000 in
theorem rwr_3n (x : Sm) (v : Sv) (B n : Nat) (w : World) (hs : SvL B w x v) (hB : B ≤ w.heap.size) (hf : SmF x) (ho : OkS x) (hd : KdS x) (hl : (stT x n).length + n ≤ 1000000000) (hk : x.k = 3) (hh : x.has = false) :
    Calls Tryz.prog 34 #[.agg (smA x v), .int .i64 (n : Int)] w fun e w' => e = .returned (.string (ba (stT x n))) ∧ Below w.heap.size w w' := by
  obtain ⟨hc, o1, o2, o3, o4⟩ := ho.parts
  obtain ⟨d1, d2, d3, d4⟩ := hd.parts
  have hT : stT x n = clT x ++ [59] := by rw [stT_eq, if_neg (by omega), if_neg (by omega), if_neg (by omega), if_neg (by omega)]
  rw [hT] at hl ⊢
  have hnl : x.nm.data.toList.length = x.nm.size := by simp
  have hyl := tyN_len x.b x.s
  have htl : (tyN x.b x.s).data.toList.length = (tyN x.b x.s).size := by simp
  try simp only [List.length_append, List.length_cons, List.length_nil, hnl, htl] at hl
  have S0 := hideI (Dn.begin hs hB hf)
  obtain ⟨c0, c1, c2, c3, c4⟩ := (unhideI S0).bx.own
  have HH := hideI (unhideI S0).bx.heap
  have hAs := hideI (smA_size x v)
  rw [hk] at c0
  rw [hh] at c4
  have CS := hideI (rset_any x v B _ (unhideI S0).sv (unhideI S0).le hf hc (by omega) (by omega))
  have hz1 : ¬ 9223372036854775807 < (ba (clT x)).size + 1 := by rw [ba_size]; omega
  have EC := hideI (show ba (clT x) ++ ⟨#[59]⟩ = ba (clT x ++ [59]) by rw [← bcat]; rfl)
  rw [← unhideI EC]
  clear EC hs hB hf ho hd hl hk hh hT hnl hyl htl hc o1 o2 o3 o4 d1 d2 d3 d4
  generalize hA : smA x v = A at *
  generalize hW : w.alloc (.cells A 90) = W0 at *
  have hs0 : w.heap.size < W0.heap.size := (unhideI S0).bx.lt
  generalize ba (clT x) = TC at *
  go_enter Tryz.func34, Tryz.ntmps34
  go_upto_region 2 with (refine wpList_boxTo rfl 90 (.tmp 0) rfl (some 2) rfl _ rfl A rfl ?_; rw [hW])
  go_upto_region 4 with fail
  go_wp2_with (refine wpList_load_row rfl 90 (.tmp 2) rfl w.heap.size rfl _ A _ _ (unhideI HH) Tryz.underlying90 rfl (by rw [unhideI hAs]; exact Tryz.sizeStat) ?_)
  refine (unhideI CS).mono ?_
  rintro e w1 ⟨rfl, k1⟩
  have S1 := hideI ((unhideI S0).next k1)
  clear CS k1 S0 c0 c1 c2 c3 c4
  go_wp2_with fail
  go_ret
  exact ⟨rfl, (unhideI S1).d⟩
set_option maxRecDepth 100000 in
set_option maxHeartbeats 800000 in
theorem rwr_4h (x : Sm) (v : Sv) (B n : Nat) (w : World) (hs : SvL B w x v) (hB : B ≤ w.heap.size) (hf : SmF x) (ho : OkS x) (hd : KdS x) (hl : (stT x n).length + n ≤ 1000000000) (hk : x.k = 4) (hh : x.has = true) :
    Calls Tryz.prog 34 #[.agg (smA x v), .int .i64 (n : Int)] w fun e w' => e = .returned (.string (ba (stT x n))) ∧ Below w.heap.size w w' := by
  obtain ⟨hc, o1, o2, o3, o4⟩ := ho.parts
  obtain ⟨d1, d2, d3, d4⟩ := hd.parts
  have hT : stT x n = clT x ++ [59] := by rw [stT_eq, if_neg (by omega), if_neg (by omega), if_neg (by omega), if_neg (by omega)]
  rw [hT] at hl ⊢
  have hnl : x.nm.data.toList.length = x.nm.size := by simp
  have hyl := tyN_len x.b x.s
  have htl : (tyN x.b x.s).data.toList.length = (tyN x.b x.s).size := by simp
  try simp only [List.length_append, List.length_cons, List.length_nil, hnl, htl] at hl
  have S0 := hideI (Dn.begin hs hB hf)
  obtain ⟨c0, c1, c2, c3, c4⟩ := (unhideI S0).bx.own
  have HH := hideI (unhideI S0).bx.heap
  have hAs := hideI (smA_size x v)
  rw [hk] at c0
  rw [hh] at c4
  have CS := hideI (rset_any x v B _ (unhideI S0).sv (unhideI S0).le hf hc (by omega) (by omega))
  have hz1 : ¬ 9223372036854775807 < (ba (clT x)).size + 1 := by rw [ba_size]; omega
  have EC := hideI (show ba (clT x) ++ ⟨#[59]⟩ = ba (clT x ++ [59]) by rw [← bcat]; rfl)
  rw [← unhideI EC]
  clear EC hs hB hf ho hd hl hk hh hT hnl hyl htl hc o1 o2 o3 o4 d1 d2 d3 d4
  generalize hA : smA x v = A at *
  generalize hW : w.alloc (.cells A 90) = W0 at *
  have hs0 : w.heap.size < W0.heap.size := (unhideI S0).bx.lt
  generalize ba (clT x) = TC at *
  go_enter Tryz.func34, Tryz.ntmps34
  go_upto_region 2 with (refine wpList_boxTo rfl 90 (.tmp 0) rfl (some 2) rfl _ rfl A rfl ?_; rw [hW])
  go_upto_region 4 with fail
  go_wp2_with (refine wpList_load_row rfl 90 (.tmp 2) rfl w.heap.size rfl _ A _ _ (unhideI HH) Tryz.underlying90 rfl (by rw [unhideI hAs]; exact Tryz.sizeStat) ?_)
  refine (unhideI CS).mono ?_
  rintro e w1 ⟨rfl, k1⟩
  have S1 := hideI ((unhideI S0).next k1)
  clear CS k1 S0 c0 c1 c2 c3 c4
  go_wp2_with fail
  go_ret
  exact ⟨rfl, (unhideI S1).d⟩
set_option maxRecDepth 100000 in
set_option maxHeartbeats 800000 in
theorem rwr_4n (x : Sm) (v : Sv) (B n : Nat) (w : World) (hs : SvL B w x v) (hB : B ≤ w.heap.size) (hf : SmF x) (ho : OkS x) (hd : KdS x) (hl : (stT x n).length + n ≤ 1000000000) (hk : x.k = 4) (hh : x.has = false) :
    Calls Tryz.prog 34 #[.agg (smA x v), .int .i64 (n : Int)] w fun e w' => e = .returned (.string (ba (stT x n))) ∧ Below w.heap.size w w' := by
  obtain ⟨hc, o1, o2, o3, o4⟩ := ho.parts
  obtain ⟨d1, d2, d3, d4⟩ := hd.parts
  have hT : stT x n = clT x ++ [59] := by rw [stT_eq, if_neg (by omega), if_neg (by omega), if_neg (by omega), if_neg (by omega)]
  rw [hT] at hl ⊢
  have hnl : x.nm.data.toList.length = x.nm.size := by simp
  have hyl := tyN_len x.b x.s
  have htl : (tyN x.b x.s).data.toList.length = (tyN x.b x.s).size := by simp
  try simp only [List.length_append, List.length_cons, List.length_nil, hnl, htl] at hl
  have S0 := hideI (Dn.begin hs hB hf)
  obtain ⟨c0, c1, c2, c3, c4⟩ := (unhideI S0).bx.own
  have HH := hideI (unhideI S0).bx.heap
  have hAs := hideI (smA_size x v)
  rw [hk] at c0
  rw [hh] at c4
  have CS := hideI (rset_any x v B _ (unhideI S0).sv (unhideI S0).le hf hc (by omega) (by omega))
  have hz1 : ¬ 9223372036854775807 < (ba (clT x)).size + 1 := by rw [ba_size]; omega
  have EC := hideI (show ba (clT x) ++ ⟨#[59]⟩ = ba (clT x ++ [59]) by rw [← bcat]; rfl)
  rw [← unhideI EC]
  clear EC hs hB hf ho hd hl hk hh hT hnl hyl htl hc o1 o2 o3 o4 d1 d2 d3 d4
  generalize hA : smA x v = A at *
  generalize hW : w.alloc (.cells A 90) = W0 at *
  have hs0 : w.heap.size < W0.heap.size := (unhideI S0).bx.lt
  generalize ba (clT x) = TC at *
  go_enter Tryz.func34, Tryz.ntmps34
  go_upto_region 2 with (refine wpList_boxTo rfl 90 (.tmp 0) rfl (some 2) rfl _ rfl A rfl ?_; rw [hW])
  go_upto_region 4 with fail
  go_wp2_with (refine wpList_load_row rfl 90 (.tmp 2) rfl w.heap.size rfl _ A _ _ (unhideI HH) Tryz.underlying90 rfl (by rw [unhideI hAs]; exact Tryz.sizeStat) ?_)
  refine (unhideI CS).mono ?_
  rintro e w1 ⟨rfl, k1⟩
  have S1 := hideI ((unhideI S0).next k1)
  clear CS k1 S0 c0 c1 c2 c3 c4
  go_wp2_with fail
  go_ret
  exact ⟨rfl, (unhideI S1).d⟩
set_option maxRecDepth 100000 in
set_option maxHeartbeats 800000 in
theorem rwr_8h (x : Sm) (v : Sv) (B n : Nat) (w : World) (hs : SvL B w x v) (hB : B ≤ w.heap.size) (hf : SmF x) (ho : OkS x) (hd : KdS x) (hl : (stT x n).length + n ≤ 1000000000) (hk : x.k = 8) (hh : x.has = true) :
    Calls Tryz.prog 34 #[.agg (smA x v), .int .i64 (n : Int)] w fun e w' => e = .returned (.string (ba (stT x n))) ∧ Below w.heap.size w w' := by
  obtain ⟨hc, o1, o2, o3, o4⟩ := ho.parts
  obtain ⟨d1, d2, d3, d4⟩ := hd.parts
  have hT : stT x n = [114, 101, 116, 117, 114, 110] ++ ([32] ++ shE x.x 1) ++ [59] := by rw [stT_eq, if_neg (by omega), if_neg (by omega), if_neg (by omega), if_neg (by omega)]; unfold clT; rw [if_neg (by omega), if_neg (by omega), if_neg (by omega), if_pos hk]; unfold perT; rw [hh]; simp
  rw [hT] at hl ⊢
  have hnl : x.nm.data.toList.length = x.nm.size := by simp
  have hyl := tyN_len x.b x.s
  have htl : (tyN x.b x.s).data.toList.length = (tyN x.b x.s).size := by simp
  try simp only [List.length_append, List.length_cons, List.length_nil, hnl, htl] at hl
  have S0 := hideI (Dn.begin hs hB hf)
  obtain ⟨c0, c1, c2, c3, c4⟩ := (unhideI S0).bx.own
  have HH := hideI (unhideI S0).bx.heap
  have hAs := hideI (smA_size x v)
  rw [hk] at c0
  rw [hh] at c4
  have EC := hideI (show ⟨#[114, 101, 116, 117, 114, 110]⟩ ++ (⟨#[32]⟩ ++ ba (shE x.x 1)) ++ ⟨#[59]⟩ = ba ([114, 101, 116, 117, 114, 110] ++ ([32] ++ shE x.x 1) ++ [59]) by simp only [← bcat]; rfl)
  rw [← unhideI EC]
  have hx : OkE x.x := hc.hx (by simp [hasX, hk, hh])
  have CX := hideI (dn_X (unhideI S0) hx (by omega))
  obtain ⟨p0, p1, p2, p3, p4, p5⟩ := (unhideI S0).bx.exX
  have hz0 : ¬ 9223372036854775807 < 1 + (ba (shE x.x 1)).size := by rw [ba_size]; omega
  have hz3 : ¬ 9223372036854775807 < 6 + (1 + (ba (shE x.x 1)).size) := by rw [ba_size]; omega
  have hz4 : ¬ 9223372036854775807 < 6 + (1 + (ba (shE x.x 1)).size) + 1 := by rw [ba_size]; omega
  have HK := hideI hk
  have HH2 := hideI hh
  clear EC hs hB hf ho hd hl hk hh hT hnl hyl htl hc hx o1 o2 o3 o4 d1 d2 d3 d4
  generalize hA : smA x v = A at *
  generalize hW : w.alloc (.cells A 90) = W0 at *
  have hs0 : w.heap.size < W0.heap.size := (unhideI S0).bx.lt
  generalize ba (shE x.x 1) = TX at *
  go_enter Tryz.func34, Tryz.ntmps34
  go_upto_region 2 with (refine wpList_boxTo rfl 90 (.tmp 0) rfl (some 2) rfl _ rfl A rfl ?_; rw [hW])
  go_wp2_with fail
  refine (unhideI CX).mono ?_
  rintro e w1 ⟨rfl, k1⟩
  have S1 := hideI ((unhideI S0).next k1)
  clear CX k1 S0 p0 p1 p2 p3 p4 p5 c0 c1 c2 c3 c4
  obtain ⟨c0, c1, c2, c3, c4⟩ := (unhideI S1).bx.own
  rw [unhideI HK] at c0
  rw [unhideI HH2] at c4
  have hs1 : w.heap.size < w1.heap.size := (unhideI S1).bx.lt
  go_wp2_with fail
  go_ret
  exact ⟨rfl, (unhideI S1).d⟩
set_option maxRecDepth 100000 in
set_option maxHeartbeats 800000 in
theorem rwr_8n (x : Sm) (v : Sv) (B n : Nat) (w : World) (hs : SvL B w x v) (hB : B ≤ w.heap.size) (hf : SmF x) (ho : OkS x) (hd : KdS x) (hl : (stT x n).length + n ≤ 1000000000) (hk : x.k = 8) (hh : x.has = false) :
    Calls Tryz.prog 34 #[.agg (smA x v), .int .i64 (n : Int)] w fun e w' => e = .returned (.string (ba (stT x n))) ∧ Below w.heap.size w w' := by
  obtain ⟨hc, o1, o2, o3, o4⟩ := ho.parts
  obtain ⟨d1, d2, d3, d4⟩ := hd.parts
  have hT : stT x n = [114, 101, 116, 117, 114, 110, 59] := by rw [stT_eq, if_neg (by omega), if_neg (by omega), if_neg (by omega), if_neg (by omega)]; unfold clT; rw [if_neg (by omega), if_neg (by omega), if_neg (by omega), if_pos hk]; unfold perT; rw [hh]; simp
  rw [hT] at hl ⊢
  have hnl : x.nm.data.toList.length = x.nm.size := by simp
  have hyl := tyN_len x.b x.s
  have htl : (tyN x.b x.s).data.toList.length = (tyN x.b x.s).size := by simp
  try simp only [List.length_append, List.length_cons, List.length_nil, hnl, htl] at hl
  have S0 := hideI (Dn.begin hs hB hf)
  obtain ⟨c0, c1, c2, c3, c4⟩ := (unhideI S0).bx.own
  have HH := hideI (unhideI S0).bx.heap
  have hAs := hideI (smA_size x v)
  rw [hk] at c0
  rw [hh] at c4
  clear hs hB hf ho hd hl hk hh hT hnl hyl htl hc o1 o2 o3 o4 d1 d2 d3 d4
  generalize hA : smA x v = A at *
  generalize hW : w.alloc (.cells A 90) = W0 at *
  have hs0 : w.heap.size < W0.heap.size := (unhideI S0).bx.lt
  go_enter Tryz.func34, Tryz.ntmps34
  go_upto_region 2 with (refine wpList_boxTo rfl 90 (.tmp 0) rfl (some 2) rfl _ rfl A rfl ?_; rw [hW])
  go_upto_region 4 with fail
  go_wp2_with fail
  go_ret
  exact ⟨rfl, (unhideI S0).d⟩
set_option maxRecDepth 100000 in
set_option maxHeartbeats 800000 in
theorem rwr_9h (x : Sm) (v : Sv) (B n : Nat) (w : World) (hs : SvL B w x v) (hB : B ≤ w.heap.size) (hf : SmF x) (ho : OkS x) (hd : KdS x) (hl : (stT x n).length + n ≤ 1000000000) (hk : x.k = 9) (hh : x.has = true) :
    Calls Tryz.prog 34 #[.agg (smA x v), .int .i64 (n : Int)] w fun e w' => e = .returned (.string (ba (stT x n))) ∧ Below w.heap.size w w' := by
  obtain ⟨hc, o1, o2, o3, o4⟩ := ho.parts
  obtain ⟨d1, d2, d3, d4⟩ := hd.parts
  have hT : stT x n = [98, 114, 101, 97, 107, 59] := by rw [stT_eq, if_neg (by omega), if_neg (by omega), if_neg (by omega), if_neg (by omega)]; unfold clT; rw [if_neg (by omega), if_neg (by omega), if_neg (by omega), if_neg (by omega), if_pos hk]; rfl
  rw [hT] at hl ⊢
  have hnl : x.nm.data.toList.length = x.nm.size := by simp
  have hyl := tyN_len x.b x.s
  have htl : (tyN x.b x.s).data.toList.length = (tyN x.b x.s).size := by simp
  try simp only [List.length_append, List.length_cons, List.length_nil, hnl, htl] at hl
  have S0 := hideI (Dn.begin hs hB hf)
  obtain ⟨c0, c1, c2, c3, c4⟩ := (unhideI S0).bx.own
  have HH := hideI (unhideI S0).bx.heap
  have hAs := hideI (smA_size x v)
  rw [hk] at c0
  rw [hh] at c4
  clear hs hB hf ho hd hl hk hh hT hnl hyl htl hc o1 o2 o3 o4 d1 d2 d3 d4
  generalize hA : smA x v = A at *
  generalize hW : w.alloc (.cells A 90) = W0 at *
  have hs0 : w.heap.size < W0.heap.size := (unhideI S0).bx.lt
  go_enter Tryz.func34, Tryz.ntmps34
  go_upto_region 2 with (refine wpList_boxTo rfl 90 (.tmp 0) rfl (some 2) rfl _ rfl A rfl ?_; rw [hW])
  go_upto_region 4 with fail
  go_wp2_with fail
  go_ret
  exact ⟨rfl, (unhideI S0).d⟩
set_option maxRecDepth 100000 in
set_option maxHeartbeats 800000 in
theorem rwr_9n (x : Sm) (v : Sv) (B n : Nat) (w : World) (hs : SvL B w x v) (hB : B ≤ w.heap.size) (hf : SmF x) (ho : OkS x) (hd : KdS x) (hl : (stT x n).length + n ≤ 1000000000) (hk : x.k = 9) (hh : x.has = false) :
    Calls Tryz.prog 34 #[.agg (smA x v), .int .i64 (n : Int)] w fun e w' => e = .returned (.string (ba (stT x n))) ∧ Below w.heap.size w w' := by
  obtain ⟨hc, o1, o2, o3, o4⟩ := ho.parts
  obtain ⟨d1, d2, d3, d4⟩ := hd.parts
  have hT : stT x n = [98, 114, 101, 97, 107, 59] := by rw [stT_eq, if_neg (by omega), if_neg (by omega), if_neg (by omega), if_neg (by omega)]; unfold clT; rw [if_neg (by omega), if_neg (by omega), if_neg (by omega), if_neg (by omega), if_pos hk]; rfl
  rw [hT] at hl ⊢
  have hnl : x.nm.data.toList.length = x.nm.size := by simp
  have hyl := tyN_len x.b x.s
  have htl : (tyN x.b x.s).data.toList.length = (tyN x.b x.s).size := by simp
  try simp only [List.length_append, List.length_cons, List.length_nil, hnl, htl] at hl
  have S0 := hideI (Dn.begin hs hB hf)
  obtain ⟨c0, c1, c2, c3, c4⟩ := (unhideI S0).bx.own
  have HH := hideI (unhideI S0).bx.heap
  have hAs := hideI (smA_size x v)
  rw [hk] at c0
  rw [hh] at c4
  clear hs hB hf ho hd hl hk hh hT hnl hyl htl hc o1 o2 o3 o4 d1 d2 d3 d4
  generalize hA : smA x v = A at *
  generalize hW : w.alloc (.cells A 90) = W0 at *
  have hs0 : w.heap.size < W0.heap.size := (unhideI S0).bx.lt
  go_enter Tryz.func34, Tryz.ntmps34
  go_upto_region 2 with (refine wpList_boxTo rfl 90 (.tmp 0) rfl (some 2) rfl _ rfl A rfl ?_; rw [hW])
  go_upto_region 4 with fail
  go_wp2_with fail
  go_ret
  exact ⟨rfl, (unhideI S0).d⟩
set_option maxRecDepth 100000 in
set_option maxHeartbeats 800000 in
theorem rwr_10h (x : Sm) (v : Sv) (B n : Nat) (w : World) (hs : SvL B w x v) (hB : B ≤ w.heap.size) (hf : SmF x) (ho : OkS x) (hd : KdS x) (hl : (stT x n).length + n ≤ 1000000000) (hk : x.k = 10) (hh : x.has = true) :
    Calls Tryz.prog 34 #[.agg (smA x v), .int .i64 (n : Int)] w fun e w' => e = .returned (.string (ba (stT x n))) ∧ Below w.heap.size w w' := by
  obtain ⟨hc, o1, o2, o3, o4⟩ := ho.parts
  obtain ⟨d1, d2, d3, d4⟩ := hd.parts
  have hT : stT x n = [99, 111, 110, 116, 105, 110, 117, 101, 59] := by rw [stT_eq, if_neg (by omega), if_neg (by omega), if_neg (by omega), if_neg (by omega)]; unfold clT; rw [if_neg (by omega), if_neg (by omega), if_neg (by omega), if_neg (by omega), if_neg (by omega), if_pos hk]; rfl
  rw [hT] at hl ⊢
  have hnl : x.nm.data.toList.length = x.nm.size := by simp
  have hyl := tyN_len x.b x.s
  have htl : (tyN x.b x.s).data.toList.length = (tyN x.b x.s).size := by simp
  try simp only [List.length_append, List.length_cons, List.length_nil, hnl, htl] at hl
  have S0 := hideI (Dn.begin hs hB hf)
  obtain ⟨c0, c1, c2, c3, c4⟩ := (unhideI S0).bx.own
  have HH := hideI (unhideI S0).bx.heap
  have hAs := hideI (smA_size x v)
  rw [hk] at c0
  rw [hh] at c4
  clear hs hB hf ho hd hl hk hh hT hnl hyl htl hc o1 o2 o3 o4 d1 d2 d3 d4
  generalize hA : smA x v = A at *
  generalize hW : w.alloc (.cells A 90) = W0 at *
  have hs0 : w.heap.size < W0.heap.size := (unhideI S0).bx.lt
  go_enter Tryz.func34, Tryz.ntmps34
  go_upto_region 2 with (refine wpList_boxTo rfl 90 (.tmp 0) rfl (some 2) rfl _ rfl A rfl ?_; rw [hW])
  go_upto_region 4 with fail
  go_wp2_with fail
  go_ret
  exact ⟨rfl, (unhideI S0).d⟩
set_option maxRecDepth 100000 in
set_option maxHeartbeats 800000 in
theorem rwr_10n (x : Sm) (v : Sv) (B n : Nat) (w : World) (hs : SvL B w x v) (hB : B ≤ w.heap.size) (hf : SmF x) (ho : OkS x) (hd : KdS x) (hl : (stT x n).length + n ≤ 1000000000) (hk : x.k = 10) (hh : x.has = false) :
    Calls Tryz.prog 34 #[.agg (smA x v), .int .i64 (n : Int)] w fun e w' => e = .returned (.string (ba (stT x n))) ∧ Below w.heap.size w w' := by
  obtain ⟨hc, o1, o2, o3, o4⟩ := ho.parts
  obtain ⟨d1, d2, d3, d4⟩ := hd.parts
  have hT : stT x n = [99, 111, 110, 116, 105, 110, 117, 101, 59] := by rw [stT_eq, if_neg (by omega), if_neg (by omega), if_neg (by omega), if_neg (by omega)]; unfold clT; rw [if_neg (by omega), if_neg (by omega), if_neg (by omega), if_neg (by omega), if_neg (by omega), if_pos hk]; rfl
  rw [hT] at hl ⊢
  have hnl : x.nm.data.toList.length = x.nm.size := by simp
  have hyl := tyN_len x.b x.s
  have htl : (tyN x.b x.s).data.toList.length = (tyN x.b x.s).size := by simp
  try simp only [List.length_append, List.length_cons, List.length_nil, hnl, htl] at hl
  have S0 := hideI (Dn.begin hs hB hf)
  obtain ⟨c0, c1, c2, c3, c4⟩ := (unhideI S0).bx.own
  have HH := hideI (unhideI S0).bx.heap
  have hAs := hideI (smA_size x v)
  rw [hk] at c0
  rw [hh] at c4
  clear hs hB hf ho hd hl hk hh hT hnl hyl htl hc o1 o2 o3 o4 d1 d2 d3 d4
  generalize hA : smA x v = A at *
  generalize hW : w.alloc (.cells A 90) = W0 at *
  have hs0 : w.heap.size < W0.heap.size := (unhideI S0).bx.lt
  go_enter Tryz.func34, Tryz.ntmps34
  go_upto_region 2 with (refine wpList_boxTo rfl 90 (.tmp 0) rfl (some 2) rfl _ rfl A rfl ?_; rw [hW])
  go_upto_region 4 with fail
  go_wp2_with fail
  go_ret
  exact ⟨rfl, (unhideI S0).d⟩
set_option maxRecDepth 100000 in
set_option maxHeartbeats 800000 in
theorem rwr_0h (x : Sm) (v : Sv) (B n : Nat) (w : World) (hs : SvL B w x v) (hB : B ≤ w.heap.size) (hf : SmF x) (ho : OkS x) (hd : KdS x) (hl : (stT x n).length + n ≤ 1000000000) (hk : x.k < 2 ∨ 11 < x.k) (hh : x.has = true) :
    Calls Tryz.prog 34 #[.agg (smA x v), .int .i64 (n : Int)] w fun e w' => e = .returned (.string (ba (stT x n))) ∧ Below w.heap.size w w' := by
  obtain ⟨hc, o1, o2, o3, o4⟩ := ho.parts
  obtain ⟨d1, d2, d3, d4⟩ := hd.parts
  have hT : stT x n = [59] := by rw [stT_eq, if_neg (by omega), if_neg (by omega), if_neg (by omega), if_neg (by omega)]; unfold clT; rw [if_neg (by omega), if_neg (by omega), if_neg (by omega), if_neg (by omega), if_neg (by omega), if_neg (by omega)]; rfl
  rw [hT] at hl ⊢
  have hnl : x.nm.data.toList.length = x.nm.size := by simp
  have hyl := tyN_len x.b x.s
  have htl : (tyN x.b x.s).data.toList.length = (tyN x.b x.s).size := by simp
  try simp only [List.length_append, List.length_cons, List.length_nil, hnl, htl] at hl
  have S0 := hideI (Dn.begin hs hB hf)
  obtain ⟨c0, c1, c2, c3, c4⟩ := (unhideI S0).bx.own
  have HH := hideI (unhideI S0).bx.heap
  have hAs := hideI (smA_size x v)
  rw [hh] at c4
  have e2 : (x.k == 2) = false := beq_eq_false_iff_ne.2 (by omega)
  have e3 : (x.k == 3) = false := beq_eq_false_iff_ne.2 (by omega)
  have e4 : (x.k == 4) = false := beq_eq_false_iff_ne.2 (by omega)
  have e5 : (x.k == 5) = false := beq_eq_false_iff_ne.2 (by omega)
  have e6 : (x.k == 6) = false := beq_eq_false_iff_ne.2 (by omega)
  have e7 : (x.k == 7) = false := beq_eq_false_iff_ne.2 (by omega)
  have e8 : (x.k == 8) = false := beq_eq_false_iff_ne.2 (by omega)
  have e9 : (x.k == 9) = false := beq_eq_false_iff_ne.2 (by omega)
  have e10 : (x.k == 10) = false := beq_eq_false_iff_ne.2 (by omega)
  have e11 : (x.k == 11) = false := beq_eq_false_iff_ne.2 (by omega)
  clear hs hB hf ho hd hl hk hh hT hnl hyl htl hc o1 o2 o3 o4 d1 d2 d3 d4
  generalize hA : smA x v = A at *
  generalize hW : w.alloc (.cells A 90) = W0 at *
  have hs0 : w.heap.size < W0.heap.size := (unhideI S0).bx.lt
  go_enter Tryz.func34, Tryz.ntmps34
  go_upto_region 2 with (refine wpList_boxTo rfl 90 (.tmp 0) rfl (some 2) rfl _ rfl A rfl ?_; rw [hW])
  go_upto_region 4 with fail
  go_wp2_with fail
  go_ret
  exact ⟨rfl, (unhideI S0).d⟩
set_option maxRecDepth 100000 in
set_option maxHeartbeats 800000 in
theorem rwr_0n (x : Sm) (v : Sv) (B n : Nat) (w : World) (hs : SvL B w x v) (hB : B ≤ w.heap.size) (hf : SmF x) (ho : OkS x) (hd : KdS x) (hl : (stT x n).length + n ≤ 1000000000) (hk : x.k < 2 ∨ 11 < x.k) (hh : x.has = false) :
    Calls Tryz.prog 34 #[.agg (smA x v), .int .i64 (n : Int)] w fun e w' => e = .returned (.string (ba (stT x n))) ∧ Below w.heap.size w w' := by
  obtain ⟨hc, o1, o2, o3, o4⟩ := ho.parts
  obtain ⟨d1, d2, d3, d4⟩ := hd.parts
  have hT : stT x n = [59] := by rw [stT_eq, if_neg (by omega), if_neg (by omega), if_neg (by omega), if_neg (by omega)]; unfold clT; rw [if_neg (by omega), if_neg (by omega), if_neg (by omega), if_neg (by omega), if_neg (by omega), if_neg (by omega)]; rfl
  rw [hT] at hl ⊢
  have hnl : x.nm.data.toList.length = x.nm.size := by simp
  have hyl := tyN_len x.b x.s
  have htl : (tyN x.b x.s).data.toList.length = (tyN x.b x.s).size := by simp
  try simp only [List.length_append, List.length_cons, List.length_nil, hnl, htl] at hl
  have S0 := hideI (Dn.begin hs hB hf)
  obtain ⟨c0, c1, c2, c3, c4⟩ := (unhideI S0).bx.own
  have HH := hideI (unhideI S0).bx.heap
  have hAs := hideI (smA_size x v)
  rw [hh] at c4
  have e2 : (x.k == 2) = false := beq_eq_false_iff_ne.2 (by omega)
  have e3 : (x.k == 3) = false := beq_eq_false_iff_ne.2 (by omega)
  have e4 : (x.k == 4) = false := beq_eq_false_iff_ne.2 (by omega)
  have e5 : (x.k == 5) = false := beq_eq_false_iff_ne.2 (by omega)
  have e6 : (x.k == 6) = false := beq_eq_false_iff_ne.2 (by omega)
  have e7 : (x.k == 7) = false := beq_eq_false_iff_ne.2 (by omega)
  have e8 : (x.k == 8) = false := beq_eq_false_iff_ne.2 (by omega)
  have e9 : (x.k == 9) = false := beq_eq_false_iff_ne.2 (by omega)
  have e10 : (x.k == 10) = false := beq_eq_false_iff_ne.2 (by omega)
  have e11 : (x.k == 11) = false := beq_eq_false_iff_ne.2 (by omega)
  clear hs hB hf ho hd hl hk hh hT hnl hyl htl hc o1 o2 o3 o4 d1 d2 d3 d4
  generalize hA : smA x v = A at *
  generalize hW : w.alloc (.cells A 90) = W0 at *
  have hs0 : w.heap.size < W0.heap.size := (unhideI S0).bx.lt
  go_enter Tryz.func34, Tryz.ntmps34
  go_upto_region 2 with (refine wpList_boxTo rfl 90 (.tmp 0) rfl (some 2) rfl _ rfl A rfl ?_; rw [hW])
  go_upto_region 4 with fail
  go_wp2_with fail
  go_ret
  exact ⟨rfl, (unhideI S0).d⟩
end Go.Proofs.YtbakhengcgclmaaGreatDoor
