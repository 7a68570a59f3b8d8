/-
  Writing: statements' small pieces.
-/
import Derived.Test.YtbakhengcgclmaaGreatDoorSwM
namespace Go.Proofs.YtbakhengcgclmaaGreatDoor
open Go.RowKit Go.Great
set_option linter.unusedSimpArgs false
set_option linter.unusedVariables false

theorem SmB.wf {w w' : World} {b c : Nat} {x : Sm} {v : Sv} (h : SmB w b x v) (k : Wf c w w') (hc : b ≠ c) : SmB w' b x v := ⟨k.block b _ h.heap hc (fun cs fr e => by injection e with _ e _; exact absurd e (by decide))⟩
/-- On the way through a statement that is written. -/
structure Sn (w W : World) (B b n mb : Nat) (x : Sm) (v : Sv) (t : List UInt8) : Prop where
  z : Wz W B b (.map (some mb)) n t
  e : Env B b mb W
  d : Wd B b w W
  bx : SmB W w.heap.size x v
  bl : b < w.heap.size
  sv : SvL B W x v
  ok : SmF x
theorem Sn.next {w W W' : World} {B b n mb : Nat} {x : Sm} {v : Sv} {t t' : List UInt8} (h : Sn w W B b n mb x v t) (q : Wd B b W W') (z : Wz W' B b (.map (some mb)) n t') : Sn w W' B b n mb x v t' :=
  ⟨z, h.e.step q, h.d.trans q, h.bx.wf q.wf (by have := h.bl; omega), h.bl, h.sv.step q.below, h.ok⟩
theorem Sn.drew {w W : World} {B b n mb : Nat} {x : Sm} {v : Sv} {t : List UInt8} (h : Sn w W B b n mb x v t) : Sn w W.drew B b n mb x v t := h.next ((Wd.refl _ _ _).drew) (h.z.step (Below.drew (Below.refl _ _)))
theorem Sn.begin {w : World} {B b n mb : Nat} {x : Sm} {v : Sv} {t : List UInt8} (h : Wz w B b (.map (some mb)) n t) (E : Env B b mb w) (hs : SvL B w x v) (hf : SmF x) : Sn w (w.alloc (.cells (smA x v) 90)) B b n mb x v t := by
  have hal := below_a w (.cells (smA x v) 90)
  exact ⟨h.step hal, E.below hal, Wd.of hal E.le, SmB.new _ _ _, h.lt, hs.step (hal.mono E.le), hf⟩
theorem sn_str {w W : World} {B b n mb : Nat} {x : Sm} {v : Sv} {t : List UInt8} (h : Sn w W B b n mb x v t) (s : ByteArray) (hl : t.length + s.size ≤ 1099511627776) : Calls Tryz.prog 25 #[.pointer (some ⟨b, 0, none⟩), .string s] W fun e W' => (∃ v, e = .returned v) ∧ Sn w W' B b n mb x v (t ++ s.data.toList) :=
  (zstr_any B b n _ t s W h.z hl h.e.le).mono fun _ _ ⟨h1, h2, h3⟩ => ⟨h1, h.next h3 h2⟩
theorem sn_byte {w W : World} {B b n mb : Nat} {x : Sm} {v : Sv} {t : List UInt8} (h : Sn w W B b n mb x v t) (c : UInt8) (hl : t.length + 1 ≤ 1099511627776) : Calls Tryz.prog 28 #[.pointer (some ⟨b, 0, none⟩), .int .u8 ((c.toNat : Nat) : Int)] W fun e W' => (∃ v, e = .returned v) ∧ Sn w W' B b n mb x v (t ++ [c]) :=
  (zbyte_any B b n _ t c W h.z hl h.e.le).mono fun _ _ ⟨h1, h2, h3⟩ => ⟨h1, h.next h3 h2⟩
theorem sn_X {w W : World} {B b n mb : Nat} {x : Sm} {v : Sv} {t : List UInt8} (h : Sn w W B b n mb x v t) (ho : OkE x.x) (hl : t.length + (shE x.x 1).length ≤ 1000000000000) : Calls Tryz.prog 65 #[.pointer (some ⟨b, 0, none⟩), .agg #[.int .i64 x.x.k, .int .u64 x.x.n, .int .i64 x.x.b, .bool x.x.s, .string x.x.nm, v.xk]] W fun e W' => e = .returned (.tuple #[]) ∧ Sn w W' B b n mb x v (t ++ shE x.x 1) :=
  (wwhole_any x.x (wexpr_any x.x ho) B b n mb t v.xk W h.z h.e h.sv.hx h.ok.2.1 ho hl).mono fun _ _ ⟨h1, h2, h3⟩ => ⟨h1, h.next h3 h2⟩
theorem sn_I {w W : World} {B b n mb : Nat} {x : Sm} {v : Sv} {t : List UInt8} (h : Sn w W B b n mb x v t) (ho : OkE x.i) (hl : t.length + (shE x.i 1).length + 2 ≤ 1000000000000) : Calls Tryz.prog 108 #[.pointer (some ⟨b, 0, none⟩), .agg #[.int .i64 x.i.k, .int .u64 x.i.n, .int .i64 x.i.b, .bool x.i.s, .string x.i.nm, v.ik]] W fun e W' => e = .returned (.tuple #[]) ∧ Sn w W' B b n mb x v (t ++ ([91] ++ shE x.i 1 ++ [93])) :=
  (wplace_any x.i (wexpr_any x.i ho) B b n mb t v.ik W h.z h.e h.sv.hi h.ok.2.2 ho hl).mono fun _ _ ⟨h1, h2, h3⟩ => ⟨h1, h.next h3 h2⟩
/-- What stands ahead of X, and X, if there is one. -/
def perT (a : List UInt8) (x : Sm) : List UInt8 := if x.has = true then a ++ shE x.x 1 else []
set_option maxRecDepth 100000 in
set_option maxHeartbeats 1000000 in
theorem wperhaps_any (a : ByteArray) (x : Sm) (v : Sv) (B b n mb : Nat) (t : List UInt8) (w : World) (h : Wz w B b (.map (some mb)) n t) (E : Env B b mb w) (hs : SvL B w x v) (hf : SmF x) (ho : x.has = true → OkE x.x) (hl : t.length + (perT a.data.toList x).length ≤ 1000000000000) :
    Calls Tryz.prog 86 #[.pointer (some ⟨b, 0, none⟩), .string a, .agg (smA x v)] w fun e w' => e = .returned (.tuple #[]) ∧ Wz w' B b (.map (some mb)) n (t ++ perT a.data.toList x) ∧ Wd B b w w' := by
  have S0 := hideI (Sn.begin h E hs hf)
  have hal : a.data.toList.length = a.size := by simp
  clear h E hs hf
  unfold perT at *
  generalize hA : smA x v = A at *
  generalize hW : w.alloc (.cells A 90) = W0 at *
  obtain ⟨-, -, -, -, c4⟩ := (unhideI S0).bx.own
  have hs0 : w.heap.size < W0.heap.size := (unhideI S0).bx.lt
  have hb0 : b < W0.heap.size := (unhideI S0).z.lt
  by_cases hh : x.has = true
  · rw [if_pos hh] at hl ⊢
    rw [hh] at c4
    have hl2 : t.length + (a.size + (shE x.x 1).length) ≤ 1000000000000 := by rw [← hal]; simpa only [List.length_append] using hl
    have WS := hideI (sn_str (unhideI S0) a (by omega))
    have XA := hideI (fun (W : World) (s : Sn w W B b n mb x v (t ++ a.data.toList)) => sn_X s (ho hh) (by simp only [List.length_append]; omega))
    clear hl ho hh
    generalize shE x.x 1 = R at *
    go_enter Tryz.func86, Tryz.ntmps86
    go_wp2_with (refine wpList_boxTo rfl 90 (.tmp 2) rfl (some 5) rfl _ rfl A rfl ?_; rw [hW])
    refine (unhideI WS).mono ?_
    rintro e W1 ⟨⟨u, rfl⟩, s1⟩
    have S1 := hideI s1
    obtain ⟨p0, p1, p2, p3, p4, p5⟩ := s1.bx.exX
    have hs1 : w.heap.size < W1.heap.size := s1.bx.lt
    have CX := hideI (unhideI XA W1 s1)
    clear WS s1 S0 c4 XA
    go_wp2_with fail
    refine (unhideI CX).mono ?_
    rintro e W2 ⟨rfl, s2⟩
    have S2 := hideI s2
    clear CX s2 S1 p0 p1 p2 p3 p4 p5
    go_wp2_with fail
    first | go_end0 | refine bodyPost_ret (results_none rfl _ _ _) rfl ?_
    have z := (unhideI S2).z
    rw [List.append_assoc] at z
    exact ⟨rfl, z, (unhideI S2).d⟩
  · have hh2 : x.has = false := by simpa using hh
    rw [if_neg hh, List.append_nil]
    rw [hh2] at c4
    clear hl ho hh hh2
    go_enter Tryz.func86, Tryz.ntmps86
    go_wp2_with (refine wpList_boxTo rfl 90 (.tmp 2) rfl (some 5) rfl _ rfl A rfl ?_; rw [hW])
    first | go_end0 | refine bodyPost_ret (results_none rfl _ _ _) rfl ?_
    exact ⟨rfl, (unhideI S0).z, (unhideI S0).d⟩
end Go.Proofs.YtbakhengcgclmaaGreatDoor

/-
  Writing: what is asked; sets.
-/
namespace Go.Proofs.YtbakhengcgclmaaGreatDoor
open Go.RowKit Go.Great
set_option linter.unusedSimpArgs false
set_option linter.unusedVariables false

set_option maxRecDepth 100000 in
set_option maxHeartbeats 1000000 in
theorem wasked_any (a : ByteArray) (x : Ex) (B b n mb : Nat) (t : List UInt8) (kv : Value) (w : World) (h : Wz w B b (.map (some mb)) n t) (E : Env B b mb w) (hk : ExL B w kv x.kids) (hf : ExF x) (ho : OkE x) (hl : t.length + (a.size + (shE x 1).length + 2) ≤ 1000000000000) :
    Calls Tryz.prog 66 #[.pointer (some ⟨b, 0, none⟩), .string a, .agg #[.int .i64 x.k, .int .u64 x.n, .int .i64 x.b, .bool x.s, .string x.nm, kv]] w fun e w' => e = .returned (.tuple #[]) ∧ Wz w' B b (.map (some mb)) n (t ++ (a.data.toList ++ shE x 1 ++ [41, 32])) ∧ Wd B b w w' := by
  obtain ⟨ka, kc, rfl⟩ := hk.slice
  have S0 := hideI (Xn.begin h E hk)
  have hal : a.data.toList.length = a.size := by simp
  have WS := hideI (zstr_any B b n _ t a _ (unhideI S0).z (by omega) (unhideI S0).e.le)
  have WH := hideI (fun (W : World) (s : Xn w W B b n mb x ka kc (t ++ a.data.toList)) => (wwhole_any x (wexpr_any x ho) B b n mb _ _ W s.z s.e s.hk hf ho (by simp only [List.length_append]; omega)).mono fun e W' ⟨h1, h2, h3⟩ => (⟨h1, s.next h3 h2⟩ : e = Ending.returned (.tuple #[]) ∧ Xn w W' B b n mb x ka kc (t ++ a.data.toList ++ shE x 1)))
  clear h E hk hf ho
  generalize shE x 1 = R at *
  go_enter Tryz.func66, Tryz.ntmps66
  go_wp2_with fail
  refine (unhideI WS).mono ?_
  rintro e W1 ⟨⟨u, rfl⟩, z1, k1⟩
  have S1 := hideI ((unhideI S0).next k1 z1)
  obtain ⟨q0, q1, q2, q3, q4, q5⟩ := six_at (unhideI S1).bx.box
  have hs1 : w.heap.size < W1.heap.size := (unhideI S1).bx.lt
  have CX := hideI (unhideI WH W1 (unhideI S1))
  clear WS z1 k1 S0 WH
  go_wp2_with fail
  refine (unhideI CX).mono ?_
  rintro e W2 ⟨rfl, s2⟩
  have S2 := hideI s2
  have hb2 : b < W2.heap.size := s2.z.lt
  have WT := hideI (zstr_any B b n _ _ ⟨#[41, 32]⟩ W2 s2.z (by simp only [List.length_append]; show _ + _ + _ + 2 ≤ _; omega) s2.e.le)
  clear CX s2 S1 q0 q1 q2 q3 q4 q5
  go_wp2_with fail
  refine (unhideI WT).mono ?_
  rintro e W3 ⟨⟨u, rfl⟩, z3, k3⟩
  have Z3 := hideI z3
  have K3 := hideI ((unhideI S2).d.trans k3)
  clear WT z3 k3 S2
  go_wp2_with fail
  first | go_end0 | refine bodyPost_ret (results_none rfl _ _ _) rfl ?_
  have z := unhideI Z3
  refine ⟨rfl, ?_, unhideI K3⟩
  simpa using z
/-- A set. -/
def setT (x : Sm) : List UInt8 := x.nm.data.toList ++ (if x.has = true then [91] ++ shE x.i 1 ++ [93] else []) ++ [32, 61, 32] ++ shE x.x 1
set_option maxRecDepth 100000 in
set_option maxHeartbeats 2000000 in
theorem wset_any (x : Sm) (v : Sv) (B b n mb : Nat) (t : List UInt8) (w : World) (h : Wz w B b (.map (some mb)) n t) (E : Env B b mb w) (hs : SvL B w x v) (hf : SmF x) (hi : x.has = true → OkE x.i) (ho : OkE x.x) (hl : t.length + (setT x).length ≤ 1000000000000) :
    Calls Tryz.prog 87 #[.pointer (some ⟨b, 0, none⟩), .agg (smA x v)] w fun e w' => e = .returned (.tuple #[]) ∧ Wz w' B b (.map (some mb)) n (t ++ setT x) ∧ Wd B b w w' := by
  have S0 := hideI (Sn.begin h E hs hf)
  have hnl : x.nm.data.toList.length = x.nm.size := by simp
  clear h E hs hf
  have HB := hideI (fun (W : World) (t' : List UInt8) (s : Sn w W B b n mb x v t') => s.bx.own)
  generalize hA : smA x v = A at *
  go_enter Tryz.func87, Tryz.ntmps87
  go_wp2_with (refine wpList_boxTo rfl 90 (.tmp 1) rfl (some 3) rfl _ rfl A rfl ?_)
  generalize w.alloc (.cells A 90) = W0 at *
  refine reg_start (fun W => W.cell? ⟨w.heap.size, 3, none⟩ = some (.string x.nm)) (by kernel_rfl) ?_
  have S1 := hideI ((unhideI S0).drew)
  clear S0
  generalize W0.drew = W1 at *
  refine reg_seg 0 5 1 (by kernel_rfl) (by decide) (by kernel_rfl) (by kernel_rfl) (fun _ _ _ _ _ h => h) ?_
  simp only [List.take_succ_cons, List.take_zero, List.drop_succ_cons, List.drop_zero]
  repeat (refine wpSteady_step (fun K hK => ?_); go_simp; first | (refine steady_of ?_ (fun W hW => ?_) (hK _ ?_); rotate_left; (obtain y0 := hW; go_simp; first | done | rfl); clear hK K) | (refine hK _ ?_; clear hK K))
  refine wpSteady_nil ?_
  refine reg_one 5 0 (by kernel_rfl) (by kernel_rfl) (unhideI HB _ _ (unhideI S1)).2.2.2.1 ?_
  simp only [List.take_succ_cons, List.take_zero, List.drop_succ_cons, List.drop_zero]
  have hb1 : b < W1.heap.size := (unhideI S1).z.lt
  have hl3 : t.length + x.nm.size ≤ 1000000000000 := by unfold setT at hl; simp only [List.length_append] at hl; omega
  have WS := hideI (sn_str (unhideI S1) x.nm (by omega))
  go_wp2_with fail
  refine (unhideI WS).mono ?_
  rintro e W2 ⟨⟨u, rfl⟩, s2⟩
  have S2 := hideI s2
  clear WS s2 S1
  go_wp2_with fail
  first | refine next_nil ?_ | refine next_go ?_
  refine reg_end (by kernel_rfl) (unhideI HB _ _ (unhideI S2)).2.2.2.1 ?_
  obtain ⟨-, -, -, -, c4⟩ := (unhideI S2).bx.own
  obtain ⟨p0, p1, p2, p3, p4, p5⟩ := (unhideI S2).bx.exI
  have hs2 : w.heap.size < W2.heap.size := (unhideI S2).bx.lt
  have hb2 : b < W2.heap.size := (unhideI S2).z.lt
  have hnt : (setT x).length = x.nm.size + (if x.has = true then [91] ++ shE x.i 1 ++ [93] else []).length + 3 + (shE x.x 1).length := by unfold setT; simp only [List.length_append, hnl]; rfl
  rw [hnt] at hl
  have END := hideI (fun (W : World) (R : List UInt8) (hR : (if x.has = true then [91] ++ shE x.i 1 ++ [93] else []) = R) (s : Sn w W B b n mb x v (t ++ x.nm.data.toList ++ R ++ [32, 61, 32] ++ shE x.x 1)) => (by
    have z := s.z
    have e : t ++ x.nm.data.toList ++ R ++ [32, 61, 32] ++ shE x.x 1 = t ++ setT x := by unfold setT; rw [hR]; simp only [List.append_assoc]
    rw [e] at z
    exact ⟨z, s.d⟩ : (Wz W B b (.map (some mb)) n (t ++ setT x) ∧ Wd B b w W)))
  have XA := hideI (fun (W : World) (R : List UInt8) (hR : (if x.has = true then [91] ++ shE x.i 1 ++ [93] else []) = R) (s : Sn w W B b n mb x v (t ++ x.nm.data.toList ++ R ++ [32, 61, 32])) => sn_X s ho (by rw [hR] at hl; simp only [List.length_append, hnl]; show _ + _ + _ + 3 + _ ≤ _; omega))
  have WT := hideI (fun (W : World) (R : List UInt8) (hR : (if x.has = true then [91] ++ shE x.i 1 ++ [93] else []) = R) (s : Sn w W B b n mb x v (t ++ x.nm.data.toList ++ R)) => sn_str s ⟨#[32, 61, 32]⟩ (by rw [hR] at hl; simp only [List.length_append, hnl]; show _ + _ + _ + 3 ≤ _; omega))
  by_cases hh : x.has = true
  · have hq : (if x.has = true then [91] ++ shE x.i 1 ++ [93] else ([] : List UInt8)) = [91] ++ shE x.i 1 ++ [93] := if_pos hh
    rw [hq] at hl
    rw [hh] at c4
    have CI := hideI (sn_I (unhideI S2) (hi hh) (by simp only [List.length_append, List.length_cons, List.length_nil, hnl] at hl ⊢; omega))
    clear hl hnt hi ho hh
    obtain ⟨R, hq2, hR⟩ : ∃ R, (if x.has = true then [91] ++ shE x.i 1 ++ [93] else ([] : List UInt8)) = R ∧ [91] ++ shE x.i 1 ++ [93] = R := ⟨_, hq, rfl⟩
    rw [hR] at CI
    have HQ := hideI hq2
    clear hq hq2 hR
    go_wp2_with fail
    refine (unhideI CI).mono ?_
    rintro e W3 ⟨rfl, s3⟩
    have S3 := hideI s3
    have hs3 : w.heap.size < W3.heap.size := s3.bx.lt
    have hb3 : b < W3.heap.size := s3.z.lt
    have CT := hideI (unhideI WT W3 _ (unhideI HQ) s3)
    clear CI s3 S2 c4 p0 p1 p2 p3 p4 p5 WT
    go_wp2_with fail
    refine (unhideI CT).mono ?_
    rintro e W4 ⟨⟨u, rfl⟩, s4⟩
    have S4 := hideI s4
    obtain ⟨p0, p1, p2, p3, p4, p5⟩ := s4.bx.exX
    have hs4 : w.heap.size < W4.heap.size := s4.bx.lt
    have CX := hideI (unhideI XA W4 _ (unhideI HQ) s4)
    clear CT s4 S3 XA
    go_wp2_with fail
    refine (unhideI CX).mono ?_
    rintro e W5 ⟨rfl, s5⟩
    have S5 := hideI s5
    clear CX s5 S4 p0 p1 p2 p3 p4 p5
    go_wp2_with fail
    first | go_end0 | refine bodyPost_ret (results_none rfl _ _ _) rfl ?_
    exact ⟨rfl, unhideI END _ _ (unhideI HQ) (unhideI S5)⟩
  · have hh2 : x.has = false := by simpa using hh
    have HQ := hideI (if_neg hh : (if x.has = true then [91] ++ shE x.i 1 ++ [93] else ([] : List UInt8)) = [])
    rw [hh2] at c4
    have WT2 := hideI (unhideI WT W2 _ (unhideI HQ) (by rw [List.append_nil]; exact unhideI S2))
    clear hl hnt hi ho hh hh2 WT p0 p1 p2 p3 p4 p5
    go_wp2_with fail
    refine (unhideI WT2).mono ?_
    rintro e W4 ⟨⟨u, rfl⟩, s4⟩
    have S4 := hideI s4
    obtain ⟨p0, p1, p2, p3, p4, p5⟩ := s4.bx.exX
    have hs4 : w.heap.size < W4.heap.size := s4.bx.lt
    have CX := hideI (unhideI XA W4 _ (unhideI HQ) s4)
    clear WT2 s4 S2 XA c4
    go_wp2_with fail
    refine (unhideI CX).mono ?_
    rintro e W5 ⟨rfl, s5⟩
    have S5 := hideI s5
    clear CX s5 S4 p0 p1 p2 p3 p4 p5
    go_wp2_with fail
    first | go_end0 | refine bodyPost_ret (results_none rfl _ _ _) rfl ?_
    exact ⟨rfl, unhideI END _ _ (unhideI HQ) (unhideI S5)⟩
end Go.Proofs.YtbakhengcgclmaaGreatDoor

/-
  Writing: a statement that has a semicolon behind it (written by mkSwP.py).
-/
namespace Go.Proofs.YtbakhengcgclmaaGreatDoor
open Go.RowKit Go.Great
set_option linter.unusedSimpArgs false
set_option linter.unusedVariables false

/-- A statement that has a semicolon behind it, without that one. -/
def clT (x : Sm) : List UInt8 :=
  if x.k = 2 then (tyN x.b x.s).data.toList ++ [32] ++ x.nm.data.toList ++ perT [32, 61, 32] x
  else if x.k = 3 then setT x
  else if x.k = 4 then shE x.x 1
  else if x.k = 8 then [114, 101, 116, 117, 114, 110] ++ perT [32] x
  else if x.k = 9 then [98, 114, 101, 97, 107]
  else if x.k = 10 then [99, 111, 110, 116, 105, 110, 117, 101] else []
/-- The expressions that are there are such as are written. -/
structure OkC (x : Sm) : Prop where
  hx : hasX x.k x.has = true → OkE x.x
  hi : x.k = 3 → x.has = true → OkE x.i
theorem sn_typed {w W : World} {B b n mb : Nat} {x : Sm} {v : Sv} {t : List UInt8} (h : Sn w W B b n mb x v t) (hl : t.length + x.nm.size ≤ 1000000000000) : Calls Tryz.prog 24 #[.pointer (some ⟨b, 0, none⟩), .agg #[.int .i64 x.b, .bool x.s], .string x.nm] W fun e W' => e = .returned (.tuple #[]) ∧ Sn w W' B b n mb x v (t ++ ((tyN x.b x.s).data.toList ++ [32] ++ x.nm.data.toList)) :=
  (wtyped_any B b n _ t x.b x.s x.nm W h.z (by omega) h.e.le).mono fun _ _ ⟨h1, h2, h3⟩ => ⟨h1, h.next h3 h2⟩
theorem sn_per {w W : World} {B b n mb : Nat} {x : Sm} {v : Sv} {t : List UInt8} (h : Sn w W B b n mb x v t) (a : ByteArray) (ho : x.has = true → OkE x.x) (hl : t.length + (perT a.data.toList x).length ≤ 1000000000000) : Calls Tryz.prog 86 #[.pointer (some ⟨b, 0, none⟩), .string a, .agg (smA x v)] W fun e W' => e = .returned (.tuple #[]) ∧ Sn w W' B b n mb x v (t ++ perT a.data.toList x) :=
  (wperhaps_any a x v B b n mb t W h.z h.e h.sv h.ok ho hl).mono fun _ _ ⟨h1, h2, h3⟩ => ⟨h1, h.next h3 h2⟩
theorem sn_set {w W : World} {B b n mb : Nat} {x : Sm} {v : Sv} {t : List UInt8} (h : Sn w W B b n mb x v t) (hi : x.has = true → OkE x.i) (ho : OkE x.x) (hl : t.length + (setT x).length ≤ 1000000000000) : Calls Tryz.prog 87 #[.pointer (some ⟨b, 0, none⟩), .agg (smA x v)] W fun e W' => e = .returned (.tuple #[]) ∧ Sn w W' B b n mb x v (t ++ setT x) :=
  (wset_any x v B b n mb t W h.z h.e h.sv h.ok hi ho hl).mono fun _ _ ⟨h1, h2, h3⟩ => ⟨h1, h.next h3 h2⟩

set_option maxRecDepth 100000 in
set_option maxHeartbeats 1000000 in
theorem wcl_2 (x : Sm) (v : Sv) (B b n mb : Nat) (t : List UInt8) (w : World) (h : Wz w B b (.map (some mb)) n t) (E : Env B b mb w) (hs : SvL B w x v) (hf : SmF x) (ho : OkC x) (hl : t.length + (clT x).length ≤ 1000000000000) (hk : x.k = 2) :
    Calls Tryz.prog 68 #[.pointer (some ⟨b, 0, none⟩), .agg (smA x v)] w fun e w' => e = .returned (.tuple #[]) ∧ Wz w' B b (.map (some mb)) n (t ++ clT x) ∧ Wd B b w w' := by
  have hnl : x.nm.data.toList.length = x.nm.size := by simp
  have hT : clT x = ((tyN x.b x.s).data.toList ++ [32] ++ x.nm.data.toList) ++ perT [32, 61, 32] x := by unfold clT; simp [hk]
  rw [hT] at hl ⊢
  have hx : x.has = true → OkE x.x := fun e => ho.hx (by rw [hk]; unfold hasX; simp [e])
  have S0 := hideI (Sn.begin h E hs hf)
  have hAs := hideI (smA_size x v)
  have C0 := hideI (fun (W : World) (s : Sn w W B b n mb x v (t)) => sn_typed s (by simp only [List.length_append, List.length_cons, List.length_nil, hnl] at hl ⊢; omega))
  have C1 := hideI (fun (W : World) (s : Sn w W B b n mb x v (t ++ ((tyN x.b x.s).data.toList ++ [32] ++ x.nm.data.toList))) => sn_per s ⟨#[32, 61, 32]⟩ hx (by show _ + (perT [32, 61, 32] x).length ≤ _; simp only [List.length_append, List.length_cons, List.length_nil, hnl] at hl ⊢; omega))
  clear h E hs hf ho hl hT hnl hx
  obtain ⟨c0, c1, c2, c3, -⟩ := (unhideI S0).bx.own
  rw [hk] at c0
  have HH := (unhideI S0).bx.heap
  generalize hA : smA x v = A at *
  generalize hW : w.alloc (.cells A 90) = W0 at *
  have hs0 : w.heap.size < W0.heap.size := (unhideI S0).bx.lt
  have hb0 : b < W0.heap.size := (unhideI S0).z.lt
  have D0 := hideI (unhideI C0 W0 (unhideI S0))
  clear C0
  go_enter Tryz.func68, Tryz.ntmps68
  go_wp2_with (first | (refine wpList_boxTo rfl 90 (.tmp 1) rfl (some 3) rfl _ rfl A rfl ?_; rw [hW]) | (refine wpList_load_row rfl 90 (.tmp 3) rfl w.heap.size rfl _ A _ _ HH Tryz.underlying90 rfl (by rw [unhideI hAs]; exact Tryz.sizeStat) ?_))
  refine (unhideI D0).mono ?_
  rintro e W1 ⟨rfl, s1⟩
  have S1 := hideI s1
  have HH1 := s1.bx.heap
  rw [hA] at HH1
  have hs1 : w.heap.size < W1.heap.size := s1.bx.lt
  have D1 := hideI (unhideI C1 W1 s1)
  clear C1 s1 D0 S0 c0 c1 c2 c3 HH
  go_wp2_with (refine wpList_load_row rfl 90 (.tmp 3) rfl w.heap.size rfl _ A _ _ HH1 Tryz.underlying90 rfl (by rw [unhideI hAs]; exact Tryz.sizeStat) ?_)
  refine (unhideI D1).mono ?_
  rintro e W2 ⟨rfl, s2⟩
  have S2 := hideI s2
  clear s2 D1 S1
  go_wp2_with fail
  first | go_end0 | refine bodyPost_ret (results_none rfl _ _ _) rfl ?_
  have z := (unhideI S2).z
  refine ⟨rfl, ?_, (unhideI S2).d⟩
  simp only [List.append_assoc] at z ⊢
  exact z
set_option maxRecDepth 100000 in
set_option maxHeartbeats 1000000 in
theorem wcl_3 (x : Sm) (v : Sv) (B b n mb : Nat) (t : List UInt8) (w : World) (h : Wz w B b (.map (some mb)) n t) (E : Env B b mb w) (hs : SvL B w x v) (hf : SmF x) (ho : OkC x) (hl : t.length + (clT x).length ≤ 1000000000000) (hk : x.k = 3) :
    Calls Tryz.prog 68 #[.pointer (some ⟨b, 0, none⟩), .agg (smA x v)] w fun e w' => e = .returned (.tuple #[]) ∧ Wz w' B b (.map (some mb)) n (t ++ clT x) ∧ Wd B b w w' := by
  have hnl : x.nm.data.toList.length = x.nm.size := by simp
  have hT : clT x = setT x := by unfold clT; simp [hk]
  rw [hT] at hl ⊢
  have hx : OkE x.x := ho.hx (by rw [hk]; unfold hasX; simp)
  have hi : x.has = true → OkE x.i := ho.hi hk
  have S0 := hideI (Sn.begin h E hs hf)
  have hAs := hideI (smA_size x v)
  have C0 := hideI (fun (W : World) (s : Sn w W B b n mb x v (t)) => sn_set s hi hx hl)
  clear h E hs hf ho hl hT hnl hx hi
  obtain ⟨c0, c1, c2, c3, -⟩ := (unhideI S0).bx.own
  rw [hk] at c0
  have HH := (unhideI S0).bx.heap
  generalize hA : smA x v = A at *
  generalize hW : w.alloc (.cells A 90) = W0 at *
  have hs0 : w.heap.size < W0.heap.size := (unhideI S0).bx.lt
  have hb0 : b < W0.heap.size := (unhideI S0).z.lt
  have D0 := hideI (unhideI C0 W0 (unhideI S0))
  clear C0
  go_enter Tryz.func68, Tryz.ntmps68
  go_wp2_with (first | (refine wpList_boxTo rfl 90 (.tmp 1) rfl (some 3) rfl _ rfl A rfl ?_; rw [hW]) | (refine wpList_load_row rfl 90 (.tmp 3) rfl w.heap.size rfl _ A _ _ HH Tryz.underlying90 rfl (by rw [unhideI hAs]; exact Tryz.sizeStat) ?_))
  refine (unhideI D0).mono ?_
  rintro e W1 ⟨rfl, s1⟩
  have S1 := hideI s1
  clear s1 D0 S0
  go_wp2_with fail
  first | go_end0 | refine bodyPost_ret (results_none rfl _ _ _) rfl ?_
  have z := (unhideI S1).z
  refine ⟨rfl, ?_, (unhideI S1).d⟩
  exact z
set_option maxRecDepth 100000 in
set_option maxHeartbeats 1000000 in
theorem wcl_4 (x : Sm) (v : Sv) (B b n mb : Nat) (t : List UInt8) (w : World) (h : Wz w B b (.map (some mb)) n t) (E : Env B b mb w) (hs : SvL B w x v) (hf : SmF x) (ho : OkC x) (hl : t.length + (clT x).length ≤ 1000000000000) (hk : x.k = 4) :
    Calls Tryz.prog 68 #[.pointer (some ⟨b, 0, none⟩), .agg (smA x v)] w fun e w' => e = .returned (.tuple #[]) ∧ Wz w' B b (.map (some mb)) n (t ++ clT x) ∧ Wd B b w w' := by
  have hnl : x.nm.data.toList.length = x.nm.size := by simp
  have hT : clT x = shE x.x 1 := by unfold clT; simp [hk]
  rw [hT] at hl ⊢
  have hx : OkE x.x := ho.hx (by rw [hk]; unfold hasX; simp)
  have S0 := hideI (Sn.begin h E hs hf)
  have hAs := hideI (smA_size x v)
  have C0 := hideI (fun (W : World) (s : Sn w W B b n mb x v (t)) => sn_X s hx hl)
  clear h E hs hf ho hl hT hnl hx
  obtain ⟨c0, c1, c2, c3, -⟩ := (unhideI S0).bx.own
  rw [hk] at c0
  have HH := (unhideI S0).bx.heap
  generalize hA : smA x v = A at *
  generalize hW : w.alloc (.cells A 90) = W0 at *
  have hs0 : w.heap.size < W0.heap.size := (unhideI S0).bx.lt
  have hb0 : b < W0.heap.size := (unhideI S0).z.lt
  obtain ⟨p0, p1, p2, p3, p4, p5⟩ := (unhideI S0).bx.exX
  have D0 := hideI (unhideI C0 W0 (unhideI S0))
  clear C0
  go_enter Tryz.func68, Tryz.ntmps68
  go_wp2_with (first | (refine wpList_boxTo rfl 90 (.tmp 1) rfl (some 3) rfl _ rfl A rfl ?_; rw [hW]) | (refine wpList_load_row rfl 90 (.tmp 3) rfl w.heap.size rfl _ A _ _ HH Tryz.underlying90 rfl (by rw [unhideI hAs]; exact Tryz.sizeStat) ?_))
  refine (unhideI D0).mono ?_
  rintro e W1 ⟨rfl, s1⟩
  have S1 := hideI s1
  clear s1 D0 S0
  go_wp2_with fail
  first | go_end0 | refine bodyPost_ret (results_none rfl _ _ _) rfl ?_
  have z := (unhideI S1).z
  refine ⟨rfl, ?_, (unhideI S1).d⟩
  exact z
set_option maxRecDepth 100000 in
set_option maxHeartbeats 1000000 in
theorem wcl_8 (x : Sm) (v : Sv) (B b n mb : Nat) (t : List UInt8) (w : World) (h : Wz w B b (.map (some mb)) n t) (E : Env B b mb w) (hs : SvL B w x v) (hf : SmF x) (ho : OkC x) (hl : t.length + (clT x).length ≤ 1000000000000) (hk : x.k = 8) :
    Calls Tryz.prog 68 #[.pointer (some ⟨b, 0, none⟩), .agg (smA x v)] w fun e w' => e = .returned (.tuple #[]) ∧ Wz w' B b (.map (some mb)) n (t ++ clT x) ∧ Wd B b w w' := by
  have hnl : x.nm.data.toList.length = x.nm.size := by simp
  have hT : clT x = [114, 101, 116, 117, 114, 110] ++ perT [32] x := by unfold clT; simp [hk]
  rw [hT] at hl ⊢
  have hx : x.has = true → OkE x.x := fun e => ho.hx (by rw [hk]; unfold hasX; simp [e])
  have S0 := hideI (Sn.begin h E hs hf)
  have hAs := hideI (smA_size x v)
  have C0 := hideI (fun (W : World) (s : Sn w W B b n mb x v (t)) => sn_str s ⟨#[114, 101, 116, 117, 114, 110]⟩ (by show _ + 6 ≤ _; simp only [List.length_append, List.length_cons, List.length_nil] at hl; omega))
  have C1 := hideI (fun (W : World) (s : Sn w W B b n mb x v (t ++ [114, 101, 116, 117, 114, 110])) => sn_per s ⟨#[32]⟩ hx (by show _ + (perT [32] x).length ≤ _; simp only [List.length_append, List.length_cons, List.length_nil, hnl] at hl ⊢; omega))
  clear h E hs hf ho hl hT hnl hx
  obtain ⟨c0, c1, c2, c3, -⟩ := (unhideI S0).bx.own
  rw [hk] at c0
  have HH := (unhideI S0).bx.heap
  generalize hA : smA x v = A at *
  generalize hW : w.alloc (.cells A 90) = W0 at *
  have hs0 : w.heap.size < W0.heap.size := (unhideI S0).bx.lt
  have hb0 : b < W0.heap.size := (unhideI S0).z.lt
  have D0 := hideI (unhideI C0 W0 (unhideI S0))
  clear C0
  go_enter Tryz.func68, Tryz.ntmps68
  go_wp2_with (first | (refine wpList_boxTo rfl 90 (.tmp 1) rfl (some 3) rfl _ rfl A rfl ?_; rw [hW]) | (refine wpList_load_row rfl 90 (.tmp 3) rfl w.heap.size rfl _ A _ _ HH Tryz.underlying90 rfl (by rw [unhideI hAs]; exact Tryz.sizeStat) ?_))
  refine (unhideI D0).mono ?_
  rintro e W1 ⟨⟨u, rfl⟩, s1⟩
  have S1 := hideI s1
  have HH1 := s1.bx.heap
  rw [hA] at HH1
  have hs1 : w.heap.size < W1.heap.size := s1.bx.lt
  have D1 := hideI (unhideI C1 W1 s1)
  clear C1 s1 D0 S0 c0 c1 c2 c3 HH
  go_wp2_with (refine wpList_load_row rfl 90 (.tmp 3) rfl w.heap.size rfl _ A _ _ HH1 Tryz.underlying90 rfl (by rw [unhideI hAs]; exact Tryz.sizeStat) ?_)
  refine (unhideI D1).mono ?_
  rintro e W2 ⟨rfl, s2⟩
  have S2 := hideI s2
  clear s2 D1 S1
  go_wp2_with fail
  first | go_end0 | refine bodyPost_ret (results_none rfl _ _ _) rfl ?_
  have z := (unhideI S2).z
  refine ⟨rfl, ?_, (unhideI S2).d⟩
  simp only [List.append_assoc] at z ⊢
  exact z
set_option maxRecDepth 100000 in
set_option maxHeartbeats 1000000 in
theorem wcl_9 (x : Sm) (v : Sv) (B b n mb : Nat) (t : List UInt8) (w : World) (h : Wz w B b (.map (some mb)) n t) (E : Env B b mb w) (hs : SvL B w x v) (hf : SmF x) (ho : OkC x) (hl : t.length + (clT x).length ≤ 1000000000000) (hk : x.k = 9) :
    Calls Tryz.prog 68 #[.pointer (some ⟨b, 0, none⟩), .agg (smA x v)] w fun e w' => e = .returned (.tuple #[]) ∧ Wz w' B b (.map (some mb)) n (t ++ clT x) ∧ Wd B b w w' := by
  have hnl : x.nm.data.toList.length = x.nm.size := by simp
  have hT : clT x = [98, 114, 101, 97, 107] := by unfold clT; simp [hk]
  rw [hT] at hl ⊢
  have S0 := hideI (Sn.begin h E hs hf)
  have hAs := hideI (smA_size x v)
  have C0 := hideI (fun (W : World) (s : Sn w W B b n mb x v (t)) => sn_str s ⟨#[98, 114, 101, 97, 107]⟩ (by show _ + 5 ≤ _; simp only [List.length_append, List.length_cons, List.length_nil] at hl; omega))
  clear h E hs hf ho hl hT hnl
  obtain ⟨c0, c1, c2, c3, -⟩ := (unhideI S0).bx.own
  rw [hk] at c0
  have HH := (unhideI S0).bx.heap
  generalize hA : smA x v = A at *
  generalize hW : w.alloc (.cells A 90) = W0 at *
  have hs0 : w.heap.size < W0.heap.size := (unhideI S0).bx.lt
  have hb0 : b < W0.heap.size := (unhideI S0).z.lt
  have D0 := hideI (unhideI C0 W0 (unhideI S0))
  clear C0
  go_enter Tryz.func68, Tryz.ntmps68
  go_wp2_with (first | (refine wpList_boxTo rfl 90 (.tmp 1) rfl (some 3) rfl _ rfl A rfl ?_; rw [hW]) | (refine wpList_load_row rfl 90 (.tmp 3) rfl w.heap.size rfl _ A _ _ HH Tryz.underlying90 rfl (by rw [unhideI hAs]; exact Tryz.sizeStat) ?_))
  refine (unhideI D0).mono ?_
  rintro e W1 ⟨⟨u, rfl⟩, s1⟩
  have S1 := hideI s1
  clear s1 D0 S0
  go_wp2_with fail
  first | go_end0 | refine bodyPost_ret (results_none rfl _ _ _) rfl ?_
  have z := (unhideI S1).z
  refine ⟨rfl, ?_, (unhideI S1).d⟩
  exact z
set_option maxRecDepth 100000 in
set_option maxHeartbeats 1000000 in
theorem wcl_10 (x : Sm) (v : Sv) (B b n mb : Nat) (t : List UInt8) (w : World) (h : Wz w B b (.map (some mb)) n t) (E : Env B b mb w) (hs : SvL B w x v) (hf : SmF x) (ho : OkC x) (hl : t.length + (clT x).length ≤ 1000000000000) (hk : x.k = 10) :
    Calls Tryz.prog 68 #[.pointer (some ⟨b, 0, none⟩), .agg (smA x v)] w fun e w' => e = .returned (.tuple #[]) ∧ Wz w' B b (.map (some mb)) n (t ++ clT x) ∧ Wd B b w w' := by
  have hnl : x.nm.data.toList.length = x.nm.size := by simp
  have hT : clT x = [99, 111, 110, 116, 105, 110, 117, 101] := by unfold clT; simp [hk]
  rw [hT] at hl ⊢
  have S0 := hideI (Sn.begin h E hs hf)
  have hAs := hideI (smA_size x v)
  have C0 := hideI (fun (W : World) (s : Sn w W B b n mb x v (t)) => sn_str s ⟨#[99, 111, 110, 116, 105, 110, 117, 101]⟩ (by show _ + 8 ≤ _; simp only [List.length_append, List.length_cons, List.length_nil] at hl; omega))
  clear h E hs hf ho hl hT hnl
  obtain ⟨c0, c1, c2, c3, -⟩ := (unhideI S0).bx.own
  rw [hk] at c0
  have HH := (unhideI S0).bx.heap
  generalize hA : smA x v = A at *
  generalize hW : w.alloc (.cells A 90) = W0 at *
  have hs0 : w.heap.size < W0.heap.size := (unhideI S0).bx.lt
  have hb0 : b < W0.heap.size := (unhideI S0).z.lt
  have D0 := hideI (unhideI C0 W0 (unhideI S0))
  clear C0
  go_enter Tryz.func68, Tryz.ntmps68
  go_wp2_with (first | (refine wpList_boxTo rfl 90 (.tmp 1) rfl (some 3) rfl _ rfl A rfl ?_; rw [hW]) | (refine wpList_load_row rfl 90 (.tmp 3) rfl w.heap.size rfl _ A _ _ HH Tryz.underlying90 rfl (by rw [unhideI hAs]; exact Tryz.sizeStat) ?_))
  refine (unhideI D0).mono ?_
  rintro e W1 ⟨⟨u, rfl⟩, s1⟩
  have S1 := hideI s1
  clear s1 D0 S0
  go_wp2_with fail
  first | go_end0 | refine bodyPost_ret (results_none rfl _ _ _) rfl ?_
  have z := (unhideI S1).z
  refine ⟨rfl, ?_, (unhideI S1).d⟩
  exact z
set_option maxRecDepth 100000 in
set_option maxHeartbeats 1000000 in
theorem wclosed_any (x : Sm) (v : Sv) (B b n mb : Nat) (t : List UInt8) (w : World) (h : Wz w B b (.map (some mb)) n t) (E : Env B b mb w) (hs : SvL B w x v) (hf : SmF x) (ho : OkC x) (hl : t.length + (clT x).length ≤ 1000000000000) :
    Calls Tryz.prog 68 #[.pointer (some ⟨b, 0, none⟩), .agg (smA x v)] w fun e w' => e = .returned (.tuple #[]) ∧ Wz w' B b (.map (some mb)) n (t ++ clT x) ∧ Wd B b w w' := by
  by_cases h2 : x.k = 2
  · exact wcl_2 x v B b n mb t w h E hs hf ho hl h2
  by_cases h3 : x.k = 3
  · exact wcl_3 x v B b n mb t w h E hs hf ho hl h3
  by_cases h4 : x.k = 4
  · exact wcl_4 x v B b n mb t w h E hs hf ho hl h4
  by_cases h8 : x.k = 8
  · exact wcl_8 x v B b n mb t w h E hs hf ho hl h8
  by_cases h9 : x.k = 9
  · exact wcl_9 x v B b n mb t w h E hs hf ho hl h9
  by_cases h10 : x.k = 10
  · exact wcl_10 x v B b n mb t w h E hs hf ho hl h10
  have hT : clT x = [] := by unfold clT; simp [h2, h3, h4, h8, h9, h10]
  rw [hT, List.append_nil]
  have e2 : (x.k == 2) = false := beq_eq_false_iff_ne.2 h2
  have e3 : (x.k == 3) = false := beq_eq_false_iff_ne.2 h3
  have e4 : (x.k == 4) = false := beq_eq_false_iff_ne.2 h4
  have e8 : (x.k == 8) = false := beq_eq_false_iff_ne.2 h8
  have e9 : (x.k == 9) = false := beq_eq_false_iff_ne.2 h9
  have e10 : (x.k == 10) = false := beq_eq_false_iff_ne.2 h10
  have S0 := hideI (Sn.begin h E hs hf)
  clear h E hs hf ho hl hT
  obtain ⟨c0, -, -, -, -⟩ := (unhideI S0).bx.own
  generalize hA : smA x v = A at *
  generalize hW : w.alloc (.cells A 90) = W0 at *
  have hs0 : w.heap.size < W0.heap.size := (unhideI S0).bx.lt
  generalize x.k = k at *
  go_enter Tryz.func68, Tryz.ntmps68
  go_wp2_with (refine wpList_boxTo rfl 90 (.tmp 1) rfl (some 3) rfl _ rfl A rfl ?_; rw [hW])
  first | go_end0 | refine bodyPost_ret (results_none rfl _ _ _) rfl ?_
  exact ⟨rfl, (unhideI S0).z, (unhideI S0).d⟩
end Go.Proofs.YtbakhengcgclmaaGreatDoor
