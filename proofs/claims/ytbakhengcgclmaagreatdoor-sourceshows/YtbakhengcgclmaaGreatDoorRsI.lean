/-
  Writing: the document's answer: if, while, blocks (written by mkRsH.py).
-/
import Derived.Test.YtbakhengcgclmaaGreatDoorRsFz
import Derived.Deep.DeepCutAuto
namespace Go.Proofs.YtbakhengcgclmaaGreatDoor
open Go.RowKit Go.Great
set_option linter.unusedSimpArgs false
set_option linter.unusedVariables false

theorem dn_B {w W : World} {B : Nat} {x : Sm} {v : Sv} (h : Dn w W B x v) (u : Value) (hu : v.body = u) (I : ∀ y ∈ x.body, RWr y) (ho : ∀ y ∈ x.body, OkS y) (hd : ∀ y ∈ x.body, KdS y) (n : Nat) (hl : (blT x.body n).length ≤ 1000000000) : Calls Tryz.prog 16 #[u, .int .i64 (n : Int)] W fun e W' => e = .returned (.string (ba (blT x.body n))) ∧ Below W.heap.size W W' := by
  subst hu
  exact rinner_any x.body I ho hd B n v.body W h.sv.h3 h.le hl
theorem dn_E {w W : World} {B : Nat} {x : Sm} {v : Sv} (h : Dn w W B x v) (u : Value) (hu : v.els = u) (I : ∀ y ∈ x.els, RWr y) (ho : ∀ y ∈ x.els, OkS y) (hd : ∀ y ∈ x.els, KdS y) (n : Nat) (hl : (blT x.els n).length ≤ 1000000000) : Calls Tryz.prog 16 #[u, .int .i64 (n : Int)] W fun e W' => e = .returned (.string (ba (blT x.els n))) ∧ Below W.heap.size W W' := by
  subst hu
  exact rinner_any x.els I ho hd B n v.els W h.sv.h4 h.le hl
set_option maxRecDepth 100000 in
set_option maxHeartbeats 800000 in
theorem rwr_5eh (x : Sm) (IB : ∀ y ∈ x.body, RWr y) (IE : ∀ y ∈ x.els, RWr y) (v : Sv) (B n : Nat) (w : World) (hs : SvL B w x v) (hB : B ≤ w.heap.size) (hf : SmF x) (ho : OkS x) (hd : KdS x) (hl : (stT x n).length + n ≤ 1000000000) (hk : x.k = 5) (hh : x.has = true) (hq : 0 < x.els.length) :
    Calls Tryz.prog 34 #[.agg (smA x v), .int .i64 (n : Int)] w fun e w' => e = .returned (.string (ba (stT x n))) ∧ Below w.heap.size w w' := by
  obtain ⟨hc, o1, o2, o3, o4⟩ := ho.parts
  obtain ⟨d1, d2, d3, d4⟩ := hd.parts
  have hT : stT x n = [105, 102, 32, 40] ++ shE x.x 1 ++ [41, 32] ++ blT x.body n ++ [32, 101, 108, 115, 101, 32] ++ blT x.els n := by rw [stT_eq, if_pos hk, if_pos hq]; simp only [List.append_assoc]
  rw [hT] at hl ⊢
  have hnl : x.nm.data.toList.length = x.nm.size := by simp
  have hyl := tyN_len x.b x.s
  have htl : (tyN x.b x.s).data.toList.length = (tyN x.b x.s).size := by simp
  try simp only [List.length_append, List.length_cons, List.length_nil, hnl, htl] at hl
  have S0 := hideI (Dn.begin hs hB hf)
  obtain ⟨c0, c1, c2, c3, c4⟩ := (unhideI S0).bx.own
  have HH := hideI (unhideI S0).bx.heap
  have hAs := hideI (smA_size x v)
  rw [hk] at c0
  rw [hh] at c4
  obtain ⟨ab, cb, eb⟩ := hs.h3.slice
  obtain ⟨al, cl, el⟩ := hs.h4.slice
  have EB := hideI eb
  have EL := hideI el
  have hmx : x.els.length ≤ 9223372036854775807 := by obtain ⟨_, _, _, hm, -⟩ := hs.h4.at; exact hm
  have hqI : (0 : Int) < (x.els.length : Int) := by omega
  have hx : OkE x.x := hc.hx (by simp [hasX, hk])
  have CX := hideI (fun (W : World) (s : Dn w W B x v) => dn_X s hx (by omega))
  have CB := hideI (fun (W : World) (s : Dn w W B x v) => dn_B s _ eb IB (o3 (by omega)) (d3 (by omega)) n (by omega))
  have CE := hideI (fun (W : World) (s : Dn w W B x v) => dn_E s _ el IE (o4 hk) (d4 hk) n (by omega))
  obtain ⟨l0, l1, l2, l3⟩ := (unhideI S0).bx.lists
  rw [unhideI EB] at l2
  rw [unhideI EL] at l3
  obtain ⟨p0, p1, p2, p3, p4, p5⟩ := (unhideI S0).bx.exX
  have hz0 : ¬ 9223372036854775807 < 4 + (ba (shE x.x 1)).size := by simp only [ba_size]; omega
  have hz1 : ¬ 9223372036854775807 < 4 + (ba (shE x.x 1)).size + 2 := by simp only [ba_size]; omega
  have hz2 : ¬ 9223372036854775807 < 4 + (ba (shE x.x 1)).size + 2 + (ba (blT x.body n)).size := by simp only [ba_size]; omega
  have hz3 : ¬ 9223372036854775807 < 4 + (ba (shE x.x 1)).size + 2 + (ba (blT x.body n)).size + 6 := by simp only [ba_size]; omega
  have hz4 : ¬ 9223372036854775807 < 4 + (ba (shE x.x 1)).size + 2 + (ba (blT x.body n)).size + 6 + (ba (blT x.els n)).size := by simp only [ba_size]; omega
  have EC := hideI (show ⟨#[105, 102, 32, 40]⟩ ++ ba (shE x.x 1) ++ ⟨#[41, 32]⟩ ++ ba (blT x.body n) ++ ⟨#[32, 101, 108, 115, 101, 32]⟩ ++ ba (blT x.els n) = ba ([105, 102, 32, 40] ++ shE x.x 1 ++ [41, 32] ++ blT x.body n ++ [32, 101, 108, 115, 101, 32] ++ blT x.els n) by simp only [← bcat]; rfl)
  rw [← unhideI EC]
  clear EC
  clear hx eb el IB IE
  clear hs hB hf ho hd hl hk hh hq hT hnl hyl htl hc o1 o2 o3 o4 d1 d2 d3 d4
  generalize hA : smA x v = A at *
  generalize hW : w.alloc (.cells A 90) = W0 at *
  have hs0 : w.heap.size < W0.heap.size := (unhideI S0).bx.lt
  generalize ba (shE x.x 1) = TX at *
  generalize ba (blT x.body n) = TB at *
  generalize ba (blT x.els n) = TE at *
  go_enter Tryz.func34, Tryz.ntmps34
  go_upto_region 2 with (refine wpList_boxTo rfl 90 (.tmp 0) rfl (some 2) rfl _ rfl A rfl ?_; rw [hW])
  go_upto_region 4 with fail
  go_wp2_with fail
  refine wp_region_later (by kernel_rfl) (by kernel_rfl) ?_
  intro L hne lt hlc hlf hlm
  repeat (go_big_quiet_step (fail))
  go_big_quiet_want
  go_big_quiet_op
  go_big_quiet_call (exact later_call hlm (unhideI CX _ ((unhideI S0).next (hlm.1 _))))
  repeat (go_big_quiet_step (fail))
  go_big_quiet_want
  go_big_quiet_op
  go_big_quiet_call (exact later_call hlm (unhideI CB _ ((unhideI S0).next (hlm.1 _))))
  repeat (go_big_quiet_step (fail))
  refine wpQuiet_nil ?_
  intro wq kq
  clear hlm hlf hlc lt hne L
  obtain ⟨hqc, hqf⟩ := below_cells kq
  have S1 := hideI ((unhideI S0).next kq)
  clear hqc hqf c0 c1 c2 c3 c4 l0 l1 l2 l3 p0 p1 p2 p3 p4 p5 S0 CX CB
  have hs1 := (unhideI S1).bx.lt
  obtain ⟨l0, l1, l2, l3⟩ := (unhideI S1).bx.lists
  rw [unhideI EB] at l2
  rw [unhideI EL] at l3
  go_wp2_with fail
  refine (unhideI CE _ (unhideI S1)).mono ?_
  rintro e w2 ⟨rfl, k2⟩
  have S2 := hideI ((unhideI S1).next k2)
  clear CE k2 S1 l0 l1 l2 l3
  go_wp2_with fail
  go_ret
  exact ⟨rfl, (unhideI S2).d⟩
set_option maxRecDepth 100000 in
set_option maxHeartbeats 800000 in
theorem rwr_5h (x : Sm) (IB : ∀ y ∈ x.body, RWr y) (IE : ∀ y ∈ x.els, RWr y) (v : Sv) (B n : Nat) (w : World) (hs : SvL B w x v) (hB : B ≤ w.heap.size) (hf : SmF x) (ho : OkS x) (hd : KdS x) (hl : (stT x n).length + n ≤ 1000000000) (hk : x.k = 5) (hh : x.has = true) (hq : x.els.length = 0) :
    Calls Tryz.prog 34 #[.agg (smA x v), .int .i64 (n : Int)] w fun e w' => e = .returned (.string (ba (stT x n))) ∧ Below w.heap.size w w' := by
  obtain ⟨hc, o1, o2, o3, o4⟩ := ho.parts
  obtain ⟨d1, d2, d3, d4⟩ := hd.parts
  have hT : stT x n = [105, 102, 32, 40] ++ shE x.x 1 ++ [41, 32] ++ blT x.body n := by rw [stT_eq, if_pos hk, if_neg (by omega)]; simp only [List.append_nil, List.append_assoc]
  rw [hT] at hl ⊢
  have hnl : x.nm.data.toList.length = x.nm.size := by simp
  have hyl := tyN_len x.b x.s
  have htl : (tyN x.b x.s).data.toList.length = (tyN x.b x.s).size := by simp
  try simp only [List.length_append, List.length_cons, List.length_nil, hnl, htl] at hl
  have S0 := hideI (Dn.begin hs hB hf)
  obtain ⟨c0, c1, c2, c3, c4⟩ := (unhideI S0).bx.own
  have HH := hideI (unhideI S0).bx.heap
  have hAs := hideI (smA_size x v)
  rw [hk] at c0
  rw [hh] at c4
  obtain ⟨ab, cb, eb⟩ := hs.h3.slice
  obtain ⟨al, cl, el⟩ := hs.h4.slice
  have EB := hideI eb
  have EL := hideI el
  have hmx : x.els.length ≤ 9223372036854775807 := by obtain ⟨_, _, _, hm, -⟩ := hs.h4.at; exact hm
  have hqI : ¬ (0 : Int) < (x.els.length : Int) := by omega
  have hx : OkE x.x := hc.hx (by simp [hasX, hk])
  have CX := hideI (fun (W : World) (s : Dn w W B x v) => dn_X s hx (by omega))
  have CB := hideI (fun (W : World) (s : Dn w W B x v) => dn_B s _ eb IB (o3 (by omega)) (d3 (by omega)) n (by omega))
  obtain ⟨l0, l1, l2, l3⟩ := (unhideI S0).bx.lists
  rw [unhideI EB] at l2
  rw [unhideI EL] at l3
  obtain ⟨p0, p1, p2, p3, p4, p5⟩ := (unhideI S0).bx.exX
  have hz0 : ¬ 9223372036854775807 < 4 + (ba (shE x.x 1)).size := by simp only [ba_size]; omega
  have hz1 : ¬ 9223372036854775807 < 4 + (ba (shE x.x 1)).size + 2 := by simp only [ba_size]; omega
  have hz2 : ¬ 9223372036854775807 < 4 + (ba (shE x.x 1)).size + 2 + (ba (blT x.body n)).size := by simp only [ba_size]; omega
  have EC := hideI (show ⟨#[105, 102, 32, 40]⟩ ++ ba (shE x.x 1) ++ ⟨#[41, 32]⟩ ++ ba (blT x.body n) = ba ([105, 102, 32, 40] ++ shE x.x 1 ++ [41, 32] ++ blT x.body n) by simp only [← bcat]; rfl)
  rw [← unhideI EC]
  clear EC
  clear hx eb el IB IE
  clear hs hB hf ho hd hl hk hh hq hT hnl hyl htl hc o1 o2 o3 o4 d1 d2 d3 d4
  generalize hA : smA x v = A at *
  generalize hW : w.alloc (.cells A 90) = W0 at *
  have hs0 : w.heap.size < W0.heap.size := (unhideI S0).bx.lt
  generalize ba (shE x.x 1) = TX at *
  generalize ba (blT x.body n) = TB at *
  go_enter Tryz.func34, Tryz.ntmps34
  go_upto_region 2 with (refine wpList_boxTo rfl 90 (.tmp 0) rfl (some 2) rfl _ rfl A rfl ?_; rw [hW])
  go_upto_region 4 with fail
  go_wp2_with fail
  refine wp_region_later (by kernel_rfl) (by kernel_rfl) ?_
  intro L hne lt hlc hlf hlm
  repeat (go_big_quiet_step (fail))
  go_big_quiet_want
  go_big_quiet_op
  go_big_quiet_call (exact later_call hlm (unhideI CX _ ((unhideI S0).next (hlm.1 _))))
  repeat (go_big_quiet_step (fail))
  go_big_quiet_want
  go_big_quiet_op
  go_big_quiet_call (exact later_call hlm (unhideI CB _ ((unhideI S0).next (hlm.1 _))))
  repeat (go_big_quiet_step (fail))
  refine wpQuiet_nil ?_
  intro wq kq
  clear hlm hlf hlc lt hne L
  obtain ⟨hqc, hqf⟩ := below_cells kq
  have S1 := hideI ((unhideI S0).next kq)
  clear hqc hqf c0 c1 c2 c3 c4 l0 l1 l2 l3 p0 p1 p2 p3 p4 p5 S0 CX CB
  have hs1 := (unhideI S1).bx.lt
  obtain ⟨l0, l1, l2, l3⟩ := (unhideI S1).bx.lists
  rw [unhideI EB] at l2
  rw [unhideI EL] at l3
  go_wp2_with fail
  go_ret
  exact ⟨rfl, (unhideI S1).d⟩
set_option maxRecDepth 100000 in
set_option maxHeartbeats 800000 in
theorem rwr_6h (x : Sm) (IB : ∀ y ∈ x.body, RWr y) (IE : ∀ y ∈ x.els, RWr y) (v : Sv) (B n : Nat) (w : World) (hs : SvL B w x v) (hB : B ≤ w.heap.size) (hf : SmF x) (ho : OkS x) (hd : KdS x) (hl : (stT x n).length + n ≤ 1000000000) (hk : x.k = 6) (hh : x.has = true) :
    Calls Tryz.prog 34 #[.agg (smA x v), .int .i64 (n : Int)] w fun e w' => e = .returned (.string (ba (stT x n))) ∧ Below w.heap.size w w' := by
  obtain ⟨hc, o1, o2, o3, o4⟩ := ho.parts
  obtain ⟨d1, d2, d3, d4⟩ := hd.parts
  have hT : stT x n = [119, 104, 105, 108, 101, 32, 40] ++ shE x.x 1 ++ [41, 32] ++ blT x.body n := by rw [stT_eq, if_neg (by omega), if_pos hk]
  rw [hT] at hl ⊢
  have hnl : x.nm.data.toList.length = x.nm.size := by simp
  have hyl := tyN_len x.b x.s
  have htl : (tyN x.b x.s).data.toList.length = (tyN x.b x.s).size := by simp
  try simp only [List.length_append, List.length_cons, List.length_nil, hnl, htl] at hl
  have S0 := hideI (Dn.begin hs hB hf)
  obtain ⟨c0, c1, c2, c3, c4⟩ := (unhideI S0).bx.own
  have HH := hideI (unhideI S0).bx.heap
  have hAs := hideI (smA_size x v)
  rw [hk] at c0
  rw [hh] at c4
  obtain ⟨ab, cb, eb⟩ := hs.h3.slice
  obtain ⟨al, cl, el⟩ := hs.h4.slice
  have EB := hideI eb
  have EL := hideI el
  have hx : OkE x.x := hc.hx (by simp [hasX, hk])
  have CX := hideI (fun (W : World) (s : Dn w W B x v) => dn_X s hx (by omega))
  have CB := hideI (fun (W : World) (s : Dn w W B x v) => dn_B s _ eb IB (o3 (by omega)) (d3 (by omega)) n (by omega))
  obtain ⟨l0, l1, l2, l3⟩ := (unhideI S0).bx.lists
  rw [unhideI EB] at l2
  rw [unhideI EL] at l3
  obtain ⟨p0, p1, p2, p3, p4, p5⟩ := (unhideI S0).bx.exX
  have hz0 : ¬ 9223372036854775807 < 7 + (ba (shE x.x 1)).size := by simp only [ba_size]; omega
  have hz1 : ¬ 9223372036854775807 < 7 + (ba (shE x.x 1)).size + 2 := by simp only [ba_size]; omega
  have hz2 : ¬ 9223372036854775807 < 7 + (ba (shE x.x 1)).size + 2 + (ba (blT x.body n)).size := by simp only [ba_size]; omega
  have EC := hideI (show ⟨#[119, 104, 105, 108, 101, 32, 40]⟩ ++ ba (shE x.x 1) ++ ⟨#[41, 32]⟩ ++ ba (blT x.body n) = ba ([119, 104, 105, 108, 101, 32, 40] ++ shE x.x 1 ++ [41, 32] ++ blT x.body n) by simp only [← bcat]; rfl)
  rw [← unhideI EC]
  clear EC
  clear hx eb el IB IE
  clear hs hB hf ho hd hl hk hh hT hnl hyl htl hc o1 o2 o3 o4 d1 d2 d3 d4
  generalize hA : smA x v = A at *
  generalize hW : w.alloc (.cells A 90) = W0 at *
  have hs0 : w.heap.size < W0.heap.size := (unhideI S0).bx.lt
  generalize ba (shE x.x 1) = TX at *
  generalize ba (blT x.body n) = TB at *
  go_enter Tryz.func34, Tryz.ntmps34
  go_upto_region 2 with (refine wpList_boxTo rfl 90 (.tmp 0) rfl (some 2) rfl _ rfl A rfl ?_; rw [hW])
  go_upto_region 4 with fail
  go_wp2_with fail
  refine wp_region_later (by kernel_rfl) (by kernel_rfl) ?_
  intro L hne lt hlc hlf hlm
  repeat (go_big_quiet_step (fail))
  go_big_quiet_want
  go_big_quiet_op
  go_big_quiet_call (exact later_call hlm (unhideI CX _ ((unhideI S0).next (hlm.1 _))))
  repeat (go_big_quiet_step (fail))
  go_big_quiet_want
  go_big_quiet_op
  go_big_quiet_call (exact later_call hlm (unhideI CB _ ((unhideI S0).next (hlm.1 _))))
  repeat (go_big_quiet_step (fail))
  refine wpQuiet_nil ?_
  intro wq kq
  clear hlm hlf hlc lt hne L
  obtain ⟨hqc, hqf⟩ := below_cells kq
  have S1 := hideI ((unhideI S0).next kq)
  clear hqc hqf c0 c1 c2 c3 c4 l0 l1 l2 l3 p0 p1 p2 p3 p4 p5 S0 CX CB
  have hs1 := (unhideI S1).bx.lt
  go_wp2_with fail
  go_ret
  exact ⟨rfl, (unhideI S1).d⟩
set_option maxRecDepth 100000 in
set_option maxHeartbeats 800000 in
theorem rwr_11h (x : Sm) (IB : ∀ y ∈ x.body, RWr y) (IE : ∀ y ∈ x.els, RWr y) (v : Sv) (B n : Nat) (w : World) (hs : SvL B w x v) (hB : B ≤ w.heap.size) (hf : SmF x) (ho : OkS x) (hd : KdS x) (hl : (stT x n).length + n ≤ 1000000000) (hk : x.k = 11) (hh : x.has = true) :
    Calls Tryz.prog 34 #[.agg (smA x v), .int .i64 (n : Int)] w fun e w' => e = .returned (.string (ba (stT x n))) ∧ Below w.heap.size w w' := by
  obtain ⟨hc, o1, o2, o3, o4⟩ := ho.parts
  obtain ⟨d1, d2, d3, d4⟩ := hd.parts
  have hT : stT x n = blT x.body n := by rw [stT_eq, if_neg (by omega), if_neg (by omega), if_neg (by omega), if_pos hk]
  rw [hT] at hl ⊢
  have hnl : x.nm.data.toList.length = x.nm.size := by simp
  have hyl := tyN_len x.b x.s
  have htl : (tyN x.b x.s).data.toList.length = (tyN x.b x.s).size := by simp
  try simp only [List.length_append, List.length_cons, List.length_nil, hnl, htl] at hl
  have S0 := hideI (Dn.begin hs hB hf)
  obtain ⟨c0, c1, c2, c3, c4⟩ := (unhideI S0).bx.own
  have HH := hideI (unhideI S0).bx.heap
  have hAs := hideI (smA_size x v)
  rw [hk] at c0
  rw [hh] at c4
  obtain ⟨ab, cb, eb⟩ := hs.h3.slice
  obtain ⟨al, cl, el⟩ := hs.h4.slice
  have EB := hideI eb
  have EL := hideI el
  have CB := hideI (fun (W : World) (s : Dn w W B x v) => dn_B s _ eb IB (o3 (by omega)) (d3 (by omega)) n (by omega))
  obtain ⟨l0, l1, l2, l3⟩ := (unhideI S0).bx.lists
  rw [unhideI EB] at l2
  rw [unhideI EL] at l3
  clear eb el IB IE
  clear hs hB hf ho hd hl hk hh hT hnl hyl htl hc o1 o2 o3 o4 d1 d2 d3 d4
  generalize hA : smA x v = A at *
  generalize hW : w.alloc (.cells A 90) = W0 at *
  have hs0 : w.heap.size < W0.heap.size := (unhideI S0).bx.lt
  generalize ba (blT x.body n) = TB at *
  go_enter Tryz.func34, Tryz.ntmps34
  go_upto_region 2 with (refine wpList_boxTo rfl 90 (.tmp 0) rfl (some 2) rfl _ rfl A rfl ?_; rw [hW])
  go_upto_region 4 with fail
  go_wp2_with fail
  refine (unhideI CB _ (unhideI S0)).mono ?_
  rintro e w1 ⟨rfl, k1⟩
  have S1 := hideI ((unhideI S0).next k1)
  clear CB k1 S0 c0 c1 c2 c3 c4 l0 l1 l2 l3
  go_wp2_with fail
  go_ret
  exact ⟨rfl, (unhideI S1).d⟩
set_option maxRecDepth 100000 in
set_option maxHeartbeats 800000 in
theorem rwr_5en (x : Sm) (IB : ∀ y ∈ x.body, RWr y) (IE : ∀ y ∈ x.els, RWr y) (v : Sv) (B n : Nat) (w : World) (hs : SvL B w x v) (hB : B ≤ w.heap.size) (hf : SmF x) (ho : OkS x) (hd : KdS x) (hl : (stT x n).length + n ≤ 1000000000) (hk : x.k = 5) (hh : x.has = false) (hq : 0 < x.els.length) :
    Calls Tryz.prog 34 #[.agg (smA x v), .int .i64 (n : Int)] w fun e w' => e = .returned (.string (ba (stT x n))) ∧ Below w.heap.size w w' := by
  obtain ⟨hc, o1, o2, o3, o4⟩ := ho.parts
  obtain ⟨d1, d2, d3, d4⟩ := hd.parts
  have hT : stT x n = [105, 102, 32, 40] ++ shE x.x 1 ++ [41, 32] ++ blT x.body n ++ [32, 101, 108, 115, 101, 32] ++ blT x.els n := by rw [stT_eq, if_pos hk, if_pos hq]; simp only [List.append_assoc]
  rw [hT] at hl ⊢
  have hnl : x.nm.data.toList.length = x.nm.size := by simp
  have hyl := tyN_len x.b x.s
  have htl : (tyN x.b x.s).data.toList.length = (tyN x.b x.s).size := by simp
  try simp only [List.length_append, List.length_cons, List.length_nil, hnl, htl] at hl
  have S0 := hideI (Dn.begin hs hB hf)
  obtain ⟨c0, c1, c2, c3, c4⟩ := (unhideI S0).bx.own
  have HH := hideI (unhideI S0).bx.heap
  have hAs := hideI (smA_size x v)
  rw [hk] at c0
  rw [hh] at c4
  obtain ⟨ab, cb, eb⟩ := hs.h3.slice
  obtain ⟨al, cl, el⟩ := hs.h4.slice
  have EB := hideI eb
  have EL := hideI el
  have hmx : x.els.length ≤ 9223372036854775807 := by obtain ⟨_, _, _, hm, -⟩ := hs.h4.at; exact hm
  have hqI : (0 : Int) < (x.els.length : Int) := by omega
  have hx : OkE x.x := hc.hx (by simp [hasX, hk])
  have CX := hideI (fun (W : World) (s : Dn w W B x v) => dn_X s hx (by omega))
  have CB := hideI (fun (W : World) (s : Dn w W B x v) => dn_B s _ eb IB (o3 (by omega)) (d3 (by omega)) n (by omega))
  have CE := hideI (fun (W : World) (s : Dn w W B x v) => dn_E s _ el IE (o4 hk) (d4 hk) n (by omega))
  obtain ⟨l0, l1, l2, l3⟩ := (unhideI S0).bx.lists
  rw [unhideI EB] at l2
  rw [unhideI EL] at l3
  obtain ⟨p0, p1, p2, p3, p4, p5⟩ := (unhideI S0).bx.exX
  have hz0 : ¬ 9223372036854775807 < 4 + (ba (shE x.x 1)).size := by simp only [ba_size]; omega
  have hz1 : ¬ 9223372036854775807 < 4 + (ba (shE x.x 1)).size + 2 := by simp only [ba_size]; omega
  have hz2 : ¬ 9223372036854775807 < 4 + (ba (shE x.x 1)).size + 2 + (ba (blT x.body n)).size := by simp only [ba_size]; omega
  have hz3 : ¬ 9223372036854775807 < 4 + (ba (shE x.x 1)).size + 2 + (ba (blT x.body n)).size + 6 := by simp only [ba_size]; omega
  have hz4 : ¬ 9223372036854775807 < 4 + (ba (shE x.x 1)).size + 2 + (ba (blT x.body n)).size + 6 + (ba (blT x.els n)).size := by simp only [ba_size]; omega
  have EC := hideI (show ⟨#[105, 102, 32, 40]⟩ ++ ba (shE x.x 1) ++ ⟨#[41, 32]⟩ ++ ba (blT x.body n) ++ ⟨#[32, 101, 108, 115, 101, 32]⟩ ++ ba (blT x.els n) = ba ([105, 102, 32, 40] ++ shE x.x 1 ++ [41, 32] ++ blT x.body n ++ [32, 101, 108, 115, 101, 32] ++ blT x.els n) by simp only [← bcat]; rfl)
  rw [← unhideI EC]
  clear EC
  clear hx eb el IB IE
  clear hs hB hf ho hd hl hk hh hq hT hnl hyl htl hc o1 o2 o3 o4 d1 d2 d3 d4
  generalize hA : smA x v = A at *
  generalize hW : w.alloc (.cells A 90) = W0 at *
  have hs0 : w.heap.size < W0.heap.size := (unhideI S0).bx.lt
  generalize ba (shE x.x 1) = TX at *
  generalize ba (blT x.body n) = TB at *
  generalize ba (blT x.els n) = TE at *
  go_enter Tryz.func34, Tryz.ntmps34
  go_upto_region 2 with (refine wpList_boxTo rfl 90 (.tmp 0) rfl (some 2) rfl _ rfl A rfl ?_; rw [hW])
  go_upto_region 4 with fail
  go_wp2_with fail
  refine wp_region_later (by kernel_rfl) (by kernel_rfl) ?_
  intro L hne lt hlc hlf hlm
  repeat (go_big_quiet_step (fail))
  go_big_quiet_want
  go_big_quiet_op
  go_big_quiet_call (exact later_call hlm (unhideI CX _ ((unhideI S0).next (hlm.1 _))))
  repeat (go_big_quiet_step (fail))
  go_big_quiet_want
  go_big_quiet_op
  go_big_quiet_call (exact later_call hlm (unhideI CB _ ((unhideI S0).next (hlm.1 _))))
  repeat (go_big_quiet_step (fail))
  refine wpQuiet_nil ?_
  intro wq kq
  clear hlm hlf hlc lt hne L
  obtain ⟨hqc, hqf⟩ := below_cells kq
  have S1 := hideI ((unhideI S0).next kq)
  clear hqc hqf c0 c1 c2 c3 c4 l0 l1 l2 l3 p0 p1 p2 p3 p4 p5 S0 CX CB
  have hs1 := (unhideI S1).bx.lt
  obtain ⟨l0, l1, l2, l3⟩ := (unhideI S1).bx.lists
  rw [unhideI EB] at l2
  rw [unhideI EL] at l3
  go_wp2_with fail
  refine (unhideI CE _ (unhideI S1)).mono ?_
  rintro e w2 ⟨rfl, k2⟩
  have S2 := hideI ((unhideI S1).next k2)
  clear CE k2 S1 l0 l1 l2 l3
  go_wp2_with fail
  go_ret
  exact ⟨rfl, (unhideI S2).d⟩
set_option maxRecDepth 100000 in
set_option maxHeartbeats 800000 in
theorem rwr_5n (x : Sm) (IB : ∀ y ∈ x.body, RWr y) (IE : ∀ y ∈ x.els, RWr y) (v : Sv) (B n : Nat) (w : World) (hs : SvL B w x v) (hB : B ≤ w.heap.size) (hf : SmF x) (ho : OkS x) (hd : KdS x) (hl : (stT x n).length + n ≤ 1000000000) (hk : x.k = 5) (hh : x.has = false) (hq : x.els.length = 0) :
    Calls Tryz.prog 34 #[.agg (smA x v), .int .i64 (n : Int)] w fun e w' => e = .returned (.string (ba (stT x n))) ∧ Below w.heap.size w w' := by
  obtain ⟨hc, o1, o2, o3, o4⟩ := ho.parts
  obtain ⟨d1, d2, d3, d4⟩ := hd.parts
  have hT : stT x n = [105, 102, 32, 40] ++ shE x.x 1 ++ [41, 32] ++ blT x.body n := by rw [stT_eq, if_pos hk, if_neg (by omega)]; simp only [List.append_nil, List.append_assoc]
  rw [hT] at hl ⊢
  have hnl : x.nm.data.toList.length = x.nm.size := by simp
  have hyl := tyN_len x.b x.s
  have htl : (tyN x.b x.s).data.toList.length = (tyN x.b x.s).size := by simp
  try simp only [List.length_append, List.length_cons, List.length_nil, hnl, htl] at hl
  have S0 := hideI (Dn.begin hs hB hf)
  obtain ⟨c0, c1, c2, c3, c4⟩ := (unhideI S0).bx.own
  have HH := hideI (unhideI S0).bx.heap
  have hAs := hideI (smA_size x v)
  rw [hk] at c0
  rw [hh] at c4
  obtain ⟨ab, cb, eb⟩ := hs.h3.slice
  obtain ⟨al, cl, el⟩ := hs.h4.slice
  have EB := hideI eb
  have EL := hideI el
  have hmx : x.els.length ≤ 9223372036854775807 := by obtain ⟨_, _, _, hm, -⟩ := hs.h4.at; exact hm
  have hqI : ¬ (0 : Int) < (x.els.length : Int) := by omega
  have hx : OkE x.x := hc.hx (by simp [hasX, hk])
  have CX := hideI (fun (W : World) (s : Dn w W B x v) => dn_X s hx (by omega))
  have CB := hideI (fun (W : World) (s : Dn w W B x v) => dn_B s _ eb IB (o3 (by omega)) (d3 (by omega)) n (by omega))
  obtain ⟨l0, l1, l2, l3⟩ := (unhideI S0).bx.lists
  rw [unhideI EB] at l2
  rw [unhideI EL] at l3
  obtain ⟨p0, p1, p2, p3, p4, p5⟩ := (unhideI S0).bx.exX
  have hz0 : ¬ 9223372036854775807 < 4 + (ba (shE x.x 1)).size := by simp only [ba_size]; omega
  have hz1 : ¬ 9223372036854775807 < 4 + (ba (shE x.x 1)).size + 2 := by simp only [ba_size]; omega
  have hz2 : ¬ 9223372036854775807 < 4 + (ba (shE x.x 1)).size + 2 + (ba (blT x.body n)).size := by simp only [ba_size]; omega
  have EC := hideI (show ⟨#[105, 102, 32, 40]⟩ ++ ba (shE x.x 1) ++ ⟨#[41, 32]⟩ ++ ba (blT x.body n) = ba ([105, 102, 32, 40] ++ shE x.x 1 ++ [41, 32] ++ blT x.body n) by simp only [← bcat]; rfl)
  rw [← unhideI EC]
  clear EC
  clear hx eb el IB IE
  clear hs hB hf ho hd hl hk hh hq hT hnl hyl htl hc o1 o2 o3 o4 d1 d2 d3 d4
  generalize hA : smA x v = A at *
  generalize hW : w.alloc (.cells A 90) = W0 at *
  have hs0 : w.heap.size < W0.heap.size := (unhideI S0).bx.lt
  generalize ba (shE x.x 1) = TX at *
  generalize ba (blT x.body n) = TB at *
  go_enter Tryz.func34, Tryz.ntmps34
  go_upto_region 2 with (refine wpList_boxTo rfl 90 (.tmp 0) rfl (some 2) rfl _ rfl A rfl ?_; rw [hW])
  go_upto_region 4 with fail
  go_wp2_with fail
  refine wp_region_later (by kernel_rfl) (by kernel_rfl) ?_
  intro L hne lt hlc hlf hlm
  repeat (go_big_quiet_step (fail))
  go_big_quiet_want
  go_big_quiet_op
  go_big_quiet_call (exact later_call hlm (unhideI CX _ ((unhideI S0).next (hlm.1 _))))
  repeat (go_big_quiet_step (fail))
  go_big_quiet_want
  go_big_quiet_op
  go_big_quiet_call (exact later_call hlm (unhideI CB _ ((unhideI S0).next (hlm.1 _))))
  repeat (go_big_quiet_step (fail))
  refine wpQuiet_nil ?_
  intro wq kq
  clear hlm hlf hlc lt hne L
  obtain ⟨hqc, hqf⟩ := below_cells kq
  have S1 := hideI ((unhideI S0).next kq)
  clear hqc hqf c0 c1 c2 c3 c4 l0 l1 l2 l3 p0 p1 p2 p3 p4 p5 S0 CX CB
  have hs1 := (unhideI S1).bx.lt
  obtain ⟨l0, l1, l2, l3⟩ := (unhideI S1).bx.lists
  rw [unhideI EB] at l2
  rw [unhideI EL] at l3
  go_wp2_with fail
  go_ret
  exact ⟨rfl, (unhideI S1).d⟩
set_option maxRecDepth 100000 in
set_option maxHeartbeats 800000 in
theorem rwr_6n (x : Sm) (IB : ∀ y ∈ x.body, RWr y) (IE : ∀ y ∈ x.els, RWr y) (v : Sv) (B n : Nat) (w : World) (hs : SvL B w x v) (hB : B ≤ w.heap.size) (hf : SmF x) (ho : OkS x) (hd : KdS x) (hl : (stT x n).length + n ≤ 1000000000) (hk : x.k = 6) (hh : x.has = false) :
    Calls Tryz.prog 34 #[.agg (smA x v), .int .i64 (n : Int)] w fun e w' => e = .returned (.string (ba (stT x n))) ∧ Below w.heap.size w w' := by
  obtain ⟨hc, o1, o2, o3, o4⟩ := ho.parts
  obtain ⟨d1, d2, d3, d4⟩ := hd.parts
  have hT : stT x n = [119, 104, 105, 108, 101, 32, 40] ++ shE x.x 1 ++ [41, 32] ++ blT x.body n := by rw [stT_eq, if_neg (by omega), if_pos hk]
  rw [hT] at hl ⊢
  have hnl : x.nm.data.toList.length = x.nm.size := by simp
  have hyl := tyN_len x.b x.s
  have htl : (tyN x.b x.s).data.toList.length = (tyN x.b x.s).size := by simp
  try simp only [List.length_append, List.length_cons, List.length_nil, hnl, htl] at hl
  have S0 := hideI (Dn.begin hs hB hf)
  obtain ⟨c0, c1, c2, c3, c4⟩ := (unhideI S0).bx.own
  have HH := hideI (unhideI S0).bx.heap
  have hAs := hideI (smA_size x v)
  rw [hk] at c0
  rw [hh] at c4
  obtain ⟨ab, cb, eb⟩ := hs.h3.slice
  obtain ⟨al, cl, el⟩ := hs.h4.slice
  have EB := hideI eb
  have EL := hideI el
  have hx : OkE x.x := hc.hx (by simp [hasX, hk])
  have CX := hideI (fun (W : World) (s : Dn w W B x v) => dn_X s hx (by omega))
  have CB := hideI (fun (W : World) (s : Dn w W B x v) => dn_B s _ eb IB (o3 (by omega)) (d3 (by omega)) n (by omega))
  obtain ⟨l0, l1, l2, l3⟩ := (unhideI S0).bx.lists
  rw [unhideI EB] at l2
  rw [unhideI EL] at l3
  obtain ⟨p0, p1, p2, p3, p4, p5⟩ := (unhideI S0).bx.exX
  have hz0 : ¬ 9223372036854775807 < 7 + (ba (shE x.x 1)).size := by simp only [ba_size]; omega
  have hz1 : ¬ 9223372036854775807 < 7 + (ba (shE x.x 1)).size + 2 := by simp only [ba_size]; omega
  have hz2 : ¬ 9223372036854775807 < 7 + (ba (shE x.x 1)).size + 2 + (ba (blT x.body n)).size := by simp only [ba_size]; omega
  have EC := hideI (show ⟨#[119, 104, 105, 108, 101, 32, 40]⟩ ++ ba (shE x.x 1) ++ ⟨#[41, 32]⟩ ++ ba (blT x.body n) = ba ([119, 104, 105, 108, 101, 32, 40] ++ shE x.x 1 ++ [41, 32] ++ blT x.body n) by simp only [← bcat]; rfl)
  rw [← unhideI EC]
  clear EC
  clear hx eb el IB IE
  clear hs hB hf ho hd hl hk hh hT hnl hyl htl hc o1 o2 o3 o4 d1 d2 d3 d4
  generalize hA : smA x v = A at *
  generalize hW : w.alloc (.cells A 90) = W0 at *
  have hs0 : w.heap.size < W0.heap.size := (unhideI S0).bx.lt
  generalize ba (shE x.x 1) = TX at *
  generalize ba (blT x.body n) = TB at *
  go_enter Tryz.func34, Tryz.ntmps34
  go_upto_region 2 with (refine wpList_boxTo rfl 90 (.tmp 0) rfl (some 2) rfl _ rfl A rfl ?_; rw [hW])
  go_upto_region 4 with fail
  go_wp2_with fail
  refine wp_region_later (by kernel_rfl) (by kernel_rfl) ?_
  intro L hne lt hlc hlf hlm
  repeat (go_big_quiet_step (fail))
  go_big_quiet_want
  go_big_quiet_op
  go_big_quiet_call (exact later_call hlm (unhideI CX _ ((unhideI S0).next (hlm.1 _))))
  repeat (go_big_quiet_step (fail))
  go_big_quiet_want
  go_big_quiet_op
  go_big_quiet_call (exact later_call hlm (unhideI CB _ ((unhideI S0).next (hlm.1 _))))
  repeat (go_big_quiet_step (fail))
  refine wpQuiet_nil ?_
  intro wq kq
  clear hlm hlf hlc lt hne L
  obtain ⟨hqc, hqf⟩ := below_cells kq
  have S1 := hideI ((unhideI S0).next kq)
  clear hqc hqf c0 c1 c2 c3 c4 l0 l1 l2 l3 p0 p1 p2 p3 p4 p5 S0 CX CB
  have hs1 := (unhideI S1).bx.lt
  go_wp2_with fail
  go_ret
  exact ⟨rfl, (unhideI S1).d⟩
set_option maxRecDepth 100000 in
set_option maxHeartbeats 800000 in
theorem rwr_11n (x : Sm) (IB : ∀ y ∈ x.body, RWr y) (IE : ∀ y ∈ x.els, RWr y) (v : Sv) (B n : Nat) (w : World) (hs : SvL B w x v) (hB : B ≤ w.heap.size) (hf : SmF x) (ho : OkS x) (hd : KdS x) (hl : (stT x n).length + n ≤ 1000000000) (hk : x.k = 11) (hh : x.has = false) :
    Calls Tryz.prog 34 #[.agg (smA x v), .int .i64 (n : Int)] w fun e w' => e = .returned (.string (ba (stT x n))) ∧ Below w.heap.size w w' := by
  obtain ⟨hc, o1, o2, o3, o4⟩ := ho.parts
  obtain ⟨d1, d2, d3, d4⟩ := hd.parts
  have hT : stT x n = blT x.body n := by rw [stT_eq, if_neg (by omega), if_neg (by omega), if_neg (by omega), if_pos hk]
  rw [hT] at hl ⊢
  have hnl : x.nm.data.toList.length = x.nm.size := by simp
  have hyl := tyN_len x.b x.s
  have htl : (tyN x.b x.s).data.toList.length = (tyN x.b x.s).size := by simp
  try simp only [List.length_append, List.length_cons, List.length_nil, hnl, htl] at hl
  have S0 := hideI (Dn.begin hs hB hf)
  obtain ⟨c0, c1, c2, c3, c4⟩ := (unhideI S0).bx.own
  have HH := hideI (unhideI S0).bx.heap
  have hAs := hideI (smA_size x v)
  rw [hk] at c0
  rw [hh] at c4
  obtain ⟨ab, cb, eb⟩ := hs.h3.slice
  obtain ⟨al, cl, el⟩ := hs.h4.slice
  have EB := hideI eb
  have EL := hideI el
  have CB := hideI (fun (W : World) (s : Dn w W B x v) => dn_B s _ eb IB (o3 (by omega)) (d3 (by omega)) n (by omega))
  obtain ⟨l0, l1, l2, l3⟩ := (unhideI S0).bx.lists
  rw [unhideI EB] at l2
  rw [unhideI EL] at l3
  clear eb el IB IE
  clear hs hB hf ho hd hl hk hh hT hnl hyl htl hc o1 o2 o3 o4 d1 d2 d3 d4
  generalize hA : smA x v = A at *
  generalize hW : w.alloc (.cells A 90) = W0 at *
  have hs0 : w.heap.size < W0.heap.size := (unhideI S0).bx.lt
  generalize ba (blT x.body n) = TB at *
  go_enter Tryz.func34, Tryz.ntmps34
  go_upto_region 2 with (refine wpList_boxTo rfl 90 (.tmp 0) rfl (some 2) rfl _ rfl A rfl ?_; rw [hW])
  go_upto_region 4 with fail
  go_wp2_with fail
  refine (unhideI CB _ (unhideI S0)).mono ?_
  rintro e w1 ⟨rfl, k1⟩
  have S1 := hideI ((unhideI S0).next k1)
  clear CB k1 S0 c0 c1 c2 c3 c4 l0 l1 l2 l3
  go_wp2_with fail
  go_ret
  exact ⟨rfl, (unhideI S1).d⟩
end Go.Proofs.YtbakhengcgclmaaGreatDoor
